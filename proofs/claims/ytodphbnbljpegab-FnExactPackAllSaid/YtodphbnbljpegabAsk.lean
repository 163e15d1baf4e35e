/- Contracts of thingOf, isLocked, l5Around, l5Locked, and of GrossOf, OuterOf, DepthOf, IsLocked, both texts. -/
import Derived.Test.YtodphbnbljpegabBoxG
namespace Go.Proofs.Ytodphbnbljpegab
open Go.RowKit
theorem ask_cases (l : List Th) (id : Int) : (fnd l id < 0 ∧ ask l id = none) ∨ ∃ (k : Nat) (hk : k < l.length), fnd l id = (k : Int) ∧ l[k].d = id ∧ ((thsB l = false ∧ ask l id = none) ∨ (thsB l = true ∧ ask l id = some l[k])) := by
  rcases fnd_cases l id with ⟨e, _⟩ | ⟨k, hk, e, hd, _⟩
  · exact .inl ⟨by omega, ask_miss (by omega)⟩
  · refine .inr ⟨k, hk, e, hd, ?_⟩
    cases h : thsB l with
    | false => exact .inl ⟨rfl, ask_bad id h⟩
    | true => exact .inr ⟨rfl, ask_hit hk e h⟩
theorem ask_some {l : List Th} {id : Int} {t : Th} (h : ask l id = some t) : Ths l ∧ t ∈ l ∧ t.d = id ∧ thsB l = true ∧ ∃ (k : Nat) (hk : k < l.length), fnd l id = (k : Int) ∧ l[k] = t := by
  rcases ask_cases l id with ⟨_, e⟩ | ⟨k, hk, e, hd, ⟨_, e2⟩ | ⟨h1, e2⟩⟩
  · rw [e] at h; cases h
  · rw [e2] at h; cases h
  · rw [e2] at h
    cases h
    exact ⟨ths_of h1, List.getElem_mem hk, hd, h1, k, hk, e, rfl⟩
set_option maxRecDepth 100000 in
set_option maxHeartbeats 1000000 in
theorem thing_none (id : Int) (A : Option Addr) (ca : Nat) (l : List Th) (w : World) (hA : InK 6 thC w A l) (hn : l.length ≤ 1048576) (ha : ask l id = none) :
    Calls Try.prog 62 #[.slice A l.length ca, .int .i64 id] w fun e w' => e = .returned (.tuple #[.agg #[.int .i64 0, .int .i64 0, .int .i64 0, .int .i64 0, .bool false, .bool false], .bool false]) ∧ Below w.heap.size w w' := by
  have HA := Lib.hid hA; clear hA
  have HF := Lib.hid (fun W h => find_impl id A ca l W h hn)
  have HT := Lib.hid (fun W h => are_impl A ca l W h hn)
  have HX0 := BoxT.new w ⟨0, 0, 0, 0, false, false⟩
  have hb0 := (Below.refl w.heap.size w).alloc (Nat.le_refl _) (.cells #[.int .i64 0, .int .i64 0, .int .i64 0, .int .i64 0, .bool false, .bool false] 90)
  simp only [] at HX0
  have HC := ask_cases l id
  by_cases hneg : fnd l id < 0
  · obtain ⟨F, hF⟩ : ∃ F, F = fnd l id := ⟨_, rfl⟩
    rw [← hF] at HF hneg
    clear hF HC
    go_enter Try.func62, Try.ntmps62
    go_wp2_with fail
    obtain ⟨W, hW⟩ : ∃ W, W = w.alloc (.cells #[.int .i64 0, .int .i64 0, .int .i64 0, .int .i64 0, .bool false, .bool false] 90) := ⟨_, rfl⟩
    rw [← hW] at HX0 hb0 ⊢
    clear hW
    have hz0 := hb0.size
    refine (HF.out W (HA.out.below hb0)).mono ?_; rintro e w1 ⟨rfl, hb1⟩
    have HX1 := HX0.below hb1
    have HB1 := Lib.hid (hb0.trans (hb1.mono hz0))
    clear HX0 hb0 hb1 hz0
    obtain ⟨q0, q1, q2, q3, q4, q5⟩ := HX1.cells; simp only at q0 q1 q2 q3 q4 q5
    have f0 := HX1.free 0; have f1 := HX1.free 1; have f2 := HX1.free 2; have f3 := HX1.free 3; have f4 := HX1.free 4; have f5 := HX1.free 5
    have hBl := HX1.lt
    have HXP := Lib.hid (HX1.put ⟨0, 0, 0, 0, false, false⟩)
    clear HX1
    go_wp2
    obtain ⟨r0, r1, r2, r3, r4, r5⟩ := HXP.out.cells
    exact bodyPost_ret (v := .tuple #[.agg #[.int .i64 0, .int .i64 0, .int .i64 0, .int .i64 0, .bool false, .bool false], .bool false]) (by simp [results, Try.results62, go_sem, r0, r1, r2, r3, r4, r5]) rfl ⟨rfl, (((((HB1.out.setCell (Nat.le_refl _) _).setCell (Nat.le_refl _) _).setCell (Nat.le_refl _) _).setCell (Nat.le_refl _) _).setCell (Nat.le_refl _) _).setCell (Nat.le_refl _) _⟩
  · have hT : thsB l = false := by
      rcases HC with ⟨h, _⟩ | ⟨k, hk, _, _, ⟨h, _⟩ | ⟨_, h⟩⟩
      · exact absurd h hneg
      · exact h
      · rw [ha] at h; cases h
    rw [hT] at HT
    obtain ⟨F, hF⟩ : ∃ F, F = fnd l id := ⟨_, rfl⟩
    rw [← hF] at HF hneg
    clear hF HC hT
    go_enter Try.func62, Try.ntmps62
    go_wp2_with fail
    obtain ⟨W, hW⟩ : ∃ W, W = w.alloc (.cells #[.int .i64 0, .int .i64 0, .int .i64 0, .int .i64 0, .bool false, .bool false] 90) := ⟨_, rfl⟩
    rw [← hW] at HX0 hb0 ⊢
    clear hW
    have hz0 := hb0.size
    refine (HF.out W (HA.out.below hb0)).mono ?_; rintro e w1 ⟨rfl, hb1⟩
    have HX1 := Lib.hid (HX0.below hb1)
    have HB1 := Lib.hid (hb0.trans (hb1.mono hz0))
    clear HX0 hb0 hb1 hz0
    go_wp2_with fail
    refine (HT.out _ (HA.out.below HB1.out)).mono ?_; rintro e w2 ⟨rfl, hb2⟩
    have HX2 := HX1.out.below hb2
    have HB2 := Lib.hid (HB1.out.trans (hb2.mono HB1.out.size))
    clear hb2 HB1 HX1
    obtain ⟨q0, q1, q2, q3, q4, q5⟩ := HX2.cells; simp only at q0 q1 q2 q3 q4 q5
    have f0 := HX2.free 0; have f1 := HX2.free 1; have f2 := HX2.free 2; have f3 := HX2.free 3; have f4 := HX2.free 4; have f5 := HX2.free 5
    have hBl := HX2.lt
    have HXP := Lib.hid (HX2.put ⟨0, 0, 0, 0, false, false⟩)
    clear HX2
    go_wp2
    obtain ⟨r0, r1, r2, r3, r4, r5⟩ := HXP.out.cells
    exact bodyPost_ret (v := .tuple #[.agg #[.int .i64 0, .int .i64 0, .int .i64 0, .int .i64 0, .bool false, .bool false], .bool false]) (by simp [results, Try.results62, go_sem, r0, r1, r2, r3, r4, r5]) rfl ⟨rfl, (((((HB2.out.setCell (Nat.le_refl _) _).setCell (Nat.le_refl _) _).setCell (Nat.le_refl _) _).setCell (Nat.le_refl _) _).setCell (Nat.le_refl _) _).setCell (Nat.le_refl _) _⟩
set_option maxRecDepth 100000 in
set_option maxHeartbeats 1000000 in
theorem thing_some (id : Int) (t : Th) (A : Option Addr) (ca : Nat) (l : List Th) (w : World) (hA : InK 6 thC w A l) (hn : l.length ≤ 1048576) (ha : ask l id = some t) :
    Calls Try.prog 62 #[.slice A l.length ca, .int .i64 id] w fun e w' => e = .returned (.tuple #[.agg (thL t), .bool true]) ∧ Below w.heap.size w w' := by
  obtain ⟨z1, z2, z3, hT, k, hk, hf, hkt⟩ := ask_some ha
  clear z1 z2 z3
  have HA := Lib.hid hA; clear hA
  have HF := Lib.hid (fun W h => find_impl id A ca l W h hn)
  have HT := Lib.hid (fun W h => are_impl A ca l W h hn)
  rw [hf] at HF
  rw [hT] at HT
  have HX0 := BoxT.new w ⟨0, 0, 0, 0, false, false⟩
  have hb0 := (Below.refl w.heap.size w).alloc (Nat.le_refl _) (.cells #[.int .i64 0, .int .i64 0, .int .i64 0, .int .i64 0, .bool false, .bool false] 90)
  simp only [] at HX0
  have hki : (k : Int) < (l.length : Int) := by omega
  have hk0 : decide ((k : Int) < 0) = false := decide_eq_false (by omega)
  obtain ⟨d, o, r, n, x, s⟩ := t
  have HKT := Lib.hid hkt
  show Calls Try.prog 62 #[.slice A l.length ca, .int .i64 id] w fun e w' => e = .returned (.tuple #[.agg #[.int .i64 d, .int .i64 o, .int .i64 r, .int .i64 n, .bool x, .bool s], .bool true]) ∧ Below w.heap.size w w'
  clear hf hT hkt ha
  go_enter Try.func62, Try.ntmps62
  go_wp2_with fail
  obtain ⟨W, hW⟩ : ∃ W, W = w.alloc (.cells #[.int .i64 0, .int .i64 0, .int .i64 0, .int .i64 0, .bool false, .bool false] 90) := ⟨_, rfl⟩
  rw [← hW] at HX0 hb0 ⊢
  clear hW
  generalize hB : w.heap.size = B at *
  have HBE := Lib.hid hB; clear hB
  have hz0 := hb0.size
  refine (HF.out W (HA.out.below (by rw [HBE.out]; exact hb0))).mono ?_; rintro e w1 ⟨rfl, hb1⟩
  have HX1 := Lib.hid (HX0.below hb1)
  have HB1 := Lib.hid (hb0.trans (hb1.mono (Nat.le_of_lt HX0.lt)))
  clear HX0 hb0 hb1 hz0
  go_wp2_with fail
  refine (HT.out _ (HA.out.below (by rw [HBE.out]; exact HB1.out))).mono ?_; rintro e w2 ⟨rfl, hb2⟩
  have HX2 := HX1.out.below hb2
  have HB2 := Lib.hid (HB1.out.trans (hb2.mono (Nat.le_of_lt HX1.out.lt)))
  clear hb2 HB1 HX1
  obtain ⟨g, rfl, hg, c0, c1, c2, c3, c4, c5⟩ := (HA.out.below (show Below w.heap.size w w2 by rw [HBE.out]; exact HB2.out)).th k hk
  rw [HKT.out] at c0 c1 c2 c3 c4 c5
  simp only at c0 c1 c2 c3 c4 c5
  obtain ⟨q0, q1, q2, q3, q4, q5⟩ := HX2.cells; simp only at q0 q1 q2 q3 q4 q5
  have f0 := HX2.free 0; have f1 := HX2.free 1; have f2 := HX2.free 2; have f3 := HX2.free 3; have f4 := HX2.free 4; have f5 := HX2.free 5
  have hBl := HX2.lt
  have HXP := Lib.hid (HX2.put ⟨d, o, r, n, x, s⟩)
  clear HX2
  go_wp2
  obtain ⟨r0, r1, r2, r3, r4, r5⟩ := HXP.out.cells; simp only at r0 r1 r2 r3 r4 r5
  exact bodyPost_ret (v := .tuple #[.agg #[.int .i64 d, .int .i64 o, .int .i64 r, .int .i64 n, .bool x, .bool s], .bool true]) (by simp [results, Try.results62, go_sem, r0, r1, r2, r3, r4, r5]) rfl ⟨rfl, by rw [HBE.out]; exact (((((HB2.out.setCell (Nat.le_refl _) _).setCell (Nat.le_refl _) _).setCell (Nat.le_refl _) _).setCell (Nat.le_refl _) _).setCell (Nat.le_refl _) _).setCell (Nat.le_refl _) _⟩
set_option maxRecDepth 100000 in
set_option maxHeartbeats 1000000 in
theorem is_lockd (t : Th) (A : Option Addr) (ca : Nat) (l : List Th) (w : World) (hA : InK 6 thC w A l) (hn : l.length ≤ 1048576) (hl : Lis l) (ht : t ∈ l) :
    Calls Try.prog 177 #[.slice A l.length ca, .agg (thL t)] w fun e w' => e = .returned (.bool (lkT l t)) ∧ Below w.heap.size w w' := by
  have HA := Lib.hid hA; clear hA
  have HR := Lib.hid (fun W h => around_impl t A ca l W h hn hl ht)
  have HC := Lib.hid (fun A' ca' W h hn' => contf (fun t => t.s) 211 #[] (enters_of Try.func211 (by kernel_rfl) rfl) A' ca' (aro l 5 t) W h hn' (lock_says W))
  have HV := Lib.hid (show (aro l 5 t).any (fun t => t.s) = lkT l t from rfl)
  have h5 := aro_len l 5 t
  have hb0 := (Below.refl w.heap.size w).alloc (Nat.le_refl _) (.cells (thL t) 90)
  rw [HV.out] at HC
  generalize aro l 5 t = R at *
  generalize lkT l t = V at *
  clear HV hl
  go_enter Try.func177, Try.ntmps177
  go_wp2_with fail
  obtain ⟨W, hW⟩ : ∃ W, W = w.alloc (.cells (thL t) 90) := ⟨_, rfl⟩
  rw [← hW] at hb0 ⊢
  clear hW
  refine (HR.out W (HA.out.below hb0)).mono ?_; rintro e w1 ⟨⟨v, rfl, hv⟩, hb1⟩
  obtain ⟨VA, vc, rfl⟩ := hv.opens
  have HI := Lib.hid (hv.ins thC_len).2
  have HB1 := Lib.hid (hb0.trans (hb1.mono hb0.size))
  clear hb0 hb1 hv
  go_wp2_with fail
  refine (HC.out VA vc w1 HI.out (by omega)).mono ?_; rintro e w2 ⟨rfl, hb2⟩
  go_wp2
  go_ret
  exact ⟨rfl, HB1.out.trans (hb2.mono HB1.out.size)⟩
end Go.Proofs.Ytodphbnbljpegab

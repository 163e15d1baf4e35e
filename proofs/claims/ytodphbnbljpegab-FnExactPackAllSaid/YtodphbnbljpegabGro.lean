/- Contracts of grossOf, areLight, AreThings: the first text. -/
import Derived.Test.YtodphbnbljpegabAro2
namespace Go.Proofs.Ytodphbnbljpegab
open Go.RowKit
set_option maxRecDepth 100000 in
set_option maxHeartbeats 1000000 in
theorem gross_step (G : Th → Int) (t : Th) (A : Option Addr) (ca : Nat) (l : List Th) (w : World) (hA : InK 6 thC w A l) (hn : l.length ≤ 40) (ho : 0 ≤ t.o ∧ t.o ≤ 30000)
    (hG : ∀ u ∈ l.filter (fun u => u.n == t.d), ∀ W, InK 6 thC W A l → Calls Try.prog 126 #[.slice A l.length ca, .agg (thL u)] W fun e w' => e = .returned (.int .i64 (G u)) ∧ Below W.heap.size W w')
    (hB : ∀ u ∈ l.filter (fun u => u.n == t.d), 0 ≤ G u ∧ G u ≤ 100000000000) :
    Calls Try.prog 126 #[.slice A l.length ca, .agg (thL t)] w fun e w' => e = .returned (.int .i64 (t.o + ((l.filter (fun u => u.n == t.d)).map G).sum)) ∧ Below w.heap.size w w' := by
  have HA := Lib.hid hA; clear hA
  have HD0 := Lib.hid (fun W h => directly_in t.d A ca l W h (by omega))
  have hDl := List.length_filter_le (fun u : Th => u.n == t.d) l
  generalize l.filter (fun u => u.n == t.d) = D at *
  have hDl : D.length ≤ 40 := by omega
  have HP := Lib.hid (part_bd (D := D) (g := G) (B := 100000000000) (by omega) hDl hB)
  have HG := Lib.hid hG; clear hG hB
  have HX0 := BoxT.new w t
  have hb0 := (Below.refl w.heap.size w).alloc (Nat.le_refl _) (.cells (thL t) 90)
  obtain ⟨ho0, ho1⟩ := ho
  go_enter Try.func126, Try.ntmps126
  go_wp2_with fail
  obtain ⟨W, hW⟩ : ∃ W, W = w.alloc (.cells (thL t) 90) := ⟨_, rfl⟩
  rw [← hW] at HX0 hb0 ⊢
  clear hW
  have hz0 := hb0.size
  have HAW := Lib.hid (HA.out.below hb0)
  refine (HD0.out W HAW.out).mono ?_; rintro e w1 ⟨⟨v, rfl, hv⟩, hb1⟩
  obtain ⟨VA, vc, rfl⟩ := hv.opens
  have HI := Lib.hid (hv.ins thC_len).2
  have HA1 := Lib.hid (HAW.out.below hb1)
  have HB1 := Lib.hid (hb0.trans (hb1.mono hz0))
  clear HX0 hb0 hb1 hv HAW HA HD0
  obtain ⟨s0, hs0⟩ : ∃ s0, s0 = t.o := ⟨_, rfl⟩
  rw [← hs0] at ho0 ho1 ⊢
  have HS0 := Lib.hid hs0; clear hs0
  go_wp2
  go_loopw [5, 15] (fun s i wr => ∃ k : Nat, k ≤ D.length ∧ i = .int .i64 k ∧ s = .int .i64 (s0 + ((D.take k).map G).sum) ∧ Below w1.heap.size w1 wr) (fun _ i _ => D.length - (intOf i).toNat)
  case atStart => exact ⟨0, Nat.zero_le _, rfl, by simp, Below.refl _ _⟩
  case round =>
    obtain ⟨k, hk, rfl, rfl, hb⟩ := hrel
    have hbz := hb.size
    have hp := HP.out k
    by_cases hlt : (k : Int) < (D.length : Int)
    · have hkn : k < D.length := by omega
      obtain ⟨g, rfl, hg, c0, c1, c2, c3, c4, c5⟩ := (HI.out.below hb).th k hkn
      have HGk := Lib.hid (HG.out D[k] (List.getElem_mem hkn))
      have HS := Lib.hid (sum_take (g := G) k hkn)
      have hp1 := HP.out (k + 1)
      rw [HS.out] at hp1
      generalize ((D.take k).map G).sum = S at *
      generalize G D[k] = Gk at *
      generalize D[k] = y at *
      have HAr := Lib.hid ((HA1.out.below hb).below ((Below.refl wr.heap.size wr).alloc (Nat.le_refl _) (.cells (thL y) 90)))
      go_wp2_with fail
      refine (HGk.out _ HAr.out).mono ?_; rintro e w2 ⟨rfl, hb2⟩
      have HB2 := Lib.hid ((hb.alloc hbz (.cells (thL y) 90)).trans (hb2.mono (by simp; omega)))
      clear hb2 c0 c1 c2 c3 c4 c5
      go_wp2
      go_roundw
      case rel => exact ⟨k + 1, by omega, by go_num, by rw [HS.out]; go_num, HB2.out⟩
      case measure => simp [intOf]; omega
    · obtain rfl : k = D.length := by omega
      go_wp2
      go_ret
      exact ⟨ret_int (by rw [HS0.out]), HB1.out.trans (hb.mono HB1.out.size)⟩
theorem gross_rec (A : Option Addr) (ca : Nat) (l : List Th) (hn : l.length ≤ 40) (hl : Lis l) (hs : ∀ t ∈ l, dep l t ≤ 4) : ∀ f, f ≤ 4 → ∀ t ∈ l, 4 ≤ dep l t + f → ∀ w, InK 6 thC w A l →
    Calls Try.prog 126 #[.slice A l.length ca, .agg (thL t)] w fun e w' => e = .returned (.int .i64 (gr l f t)) ∧ Below w.heap.size w w'
  | 0, _, t, ht, hd, w, hA => by
    have hb := hl.bd ht
    have e := no_child hl hs ht (by omega)
    have h := gross_step (fun _ => 0) t A ca l w hA hn (by omega) (by rw [e]; intro u hu; cases hu) (by rw [e]; intro u hu; cases hu)
    rw [e] at h
    simpa [gr] using h
  | f + 1, hf, t, ht, hd, w, hA => by
    have hb := hl.bd ht
    exact gross_step (gr l f) t A ca l w hA hn (by omega) (fun u hu W hW => by
      obtain ⟨hu, e⟩ := List.mem_filter.1 hu
      have := child_dep hl hs ht hu (by simpa using e)
      exact gross_rec A ca l hn hl hs f (by omega) u hu (by omega) W hW) (fun u hu => by
      have h1 := gr_bd hl hn f u (List.mem_filter.1 hu).1
      have h2 := grM_le (f := f) (by omega)
      omega)
theorem gross_of (t : Th) (A : Option Addr) (ca : Nat) (l : List Th) (w : World) (hA : InK 6 thC w A l) (hn : l.length ≤ 40) (hl : Lis l) (hs : ∀ t ∈ l, dep l t ≤ 4) (ht : t ∈ l) :
    Calls Try.prog 126 #[.slice A l.length ca, .agg (thL t)] w fun e w' => e = .returned (.int .i64 (gr l 4 t)) ∧ Below w.heap.size w w' :=
  gross_rec A ca l hn hl hs 4 (Nat.le_refl _) t ht (by omega) w hA
set_option maxRecDepth 100000 in
set_option maxHeartbeats 1000000 in
theorem are_light (A : Option Addr) (ca : Nat) (l : List Th) (w : World) (hA : InK 6 thC w A l) (hn : l.length ≤ 40) (hl : Lis l) (hs : ∀ t ∈ l, dep l t ≤ 4) :
    Calls Try.prog 125 #[.slice A l.length ca] w fun e w' => e = .returned (.bool (ligB l)) ∧ Below w.heap.size w w' := by
  have HA := Lib.hid hA; clear hA
  have HR := Lib.hid (fun t (ht : t ∈ l) W h => gross_of t A ca l W h hn hl hs ht)
  have HBD := Lib.hid (fun t (ht : t ∈ l) => And.intro (hl.bd ht) (gr_bd hl hn 4 t ht))
  clear hl hs
  have hgm := grM_le (f := 4) (by omega)
  generalize grM 4 = gm at *
  go_enter Try.func125, Try.ntmps125
  go_wp2
  go_loopw [7] (fun i wr => ∃ k : Nat, k ≤ l.length ∧ i = .int .i64 k ∧ Hid (∀ j (hj : j < l.length), j < k → gr l 4 l[j] - l[j].o ≤ l[j].r) ∧ Below w.heap.size w wr) (fun i _ => l.length - (intOf i).toNat)
  case atStart => exact ⟨0, Nat.zero_le _, rfl, Lib.hid (fun j _ h => by omega), Below.refl _ _⟩
  case round =>
    obtain ⟨k, hk, rfl, HD, hb⟩ := hrel
    by_cases hlt : (k : Int) < (l.length : Int)
    · have hkn : k < l.length := by omega
      have hbz := hb.size
      obtain ⟨g, rfl, hg, c0, c1, c2, c3, c4, c5⟩ := (HA.out.below hb).th k hkn
      have HRk := Lib.hid (HR.out l[k] (List.getElem_mem hkn))
      obtain ⟨hbd, hg0, hg1⟩ := HBD.out l[k] (List.getElem_mem hkn)
      have HNO := Lib.hid (fun h => ligB_no (List.getElem_mem hkn) h)
      have HYE := Lib.hid (fun (h : gr l 4 l[k] - l[k].o ≤ l[k].r) j (hj : j < l.length) (hjk : j < k + 1) => show gr l 4 l[j] - l[j].o ≤ l[j].r by
        by_cases e : j = k
        · subst e; exact h
        · exact HD.out j hj (by omega))
      generalize gr l 4 l[k] = G at *
      generalize l[k] = y at *
      obtain ⟨d, o, r, n, x, s⟩ := y
      simp only at hbd c0 c1 c2 c3 c4 c5 HNO HYE
      obtain ⟨_, _, ho0, ho1, hr0, hr1⟩ := hbd
      have hsub : IntKind.i64.wrap (G - o) = G - o := IntWalk.i64_in _ (by omega)
      go_wp2_with fail
      obtain ⟨W1, hW1⟩ : ∃ W1, W1 = wr.alloc (.cells #[.int .i64 d, .int .i64 o, .int .i64 r, .int .i64 n, .bool x, .bool s] 90) := ⟨_, rfl⟩
      rw [← hW1]
      have hbx : Below w.heap.size w W1 := by rw [hW1]; exact hb.alloc hbz _
      have HX : BoxT W1 wr.heap.size ⟨d, o, r, n, x, s⟩ := by rw [hW1]; exact BoxT.new wr ⟨d, o, r, n, x, s⟩
      obtain ⟨q0, q1, q2, q3, q4, q5⟩ := HX.cells; simp only at q0 q1 q2 q3 q4 q5
      have F0 := far_cell HX.lt q0; have F1 := far_cell HX.lt q1; have F2 := far_cell HX.lt q2; have F3 := far_cell HX.lt q3; have F4 := far_cell HX.lt q4; have F5 := far_cell HX.lt q5
      have HT := Lib.hid (show ∀ x', Calls Try.prog 126 #[.slice (some ⟨g, 0, none⟩) l.length ca, .agg #[.int .i64 d, .int .i64 o, .int .i64 r, .int .i64 n, .bool x, .bool s]] (far W1 x') fun e w' => e = .returned (.int .i64 G) ∧ Below (far W1 x').heap.size (far W1 x') w' from fun x' => HRk.out _ ((HA.out.below hbx).below (below_far W1 x')))
      clear q0 q1 q2 q3 q4 q5 HX hW1
      by_cases hgt : r < G - o
      · have HN := Lib.hid (HNO.out hgt)
        refine wp_region_far (by kernel_rfl) (by kernel_rfl) ?_
        repeat (any_goals (first | go_big_quiet_step ((go_at_call 126; with_reducible exact call_far (HT.out _))) | quiet_step ((go_at_call 126; with_reducible exact call_far (HT.out _)))))
        refine wpQuiet_nil ?_; intro w2 hw2
        have hb2 : Below w.heap.size w w2 := by obtain ⟨u, rfl⟩ := hw2; exact hbx.trans ((below_far W1 u).mono hbx.size)
        clear hw2
        go_wp2
        go_ret
        exact ⟨ret_bool HN.out.symm, hb2⟩
      · have HN := Lib.hid (HYE.out (by omega))
        refine wp_region_far (by kernel_rfl) (by kernel_rfl) ?_
        repeat (any_goals (first | go_big_quiet_step ((go_at_call 126; with_reducible exact call_far (HT.out _))) | quiet_step ((go_at_call 126; with_reducible exact call_far (HT.out _)))))
        refine wpQuiet_nil ?_; intro w2 hw2
        have hb2 : Below w.heap.size w w2 := by obtain ⟨u, rfl⟩ := hw2; exact hbx.trans ((below_far W1 u).mono hbx.size)
        clear hw2
        go_wp2
        go_roundw
        case rel => exact ⟨k + 1, by omega, by go_num, HN, hb2⟩
        case measure => simp [intOf]; omega
    · obtain rfl : k = l.length := by omega
      have HN := Lib.hid (ligB_yes (fun i hi => HD.out i hi hi))
      go_wp2
      go_ret
      exact ⟨ret_bool HN.out.symm, hb⟩
set_option maxRecDepth 100000 in
set_option maxHeartbeats 1000000 in
theorem are_impl (A : Option Addr) (ca : Nat) (l : List Th) (w : World) (hA : InK 6 thC w A l) (hn : l.length ≤ 1048576) :
    Calls Try.prog 75 #[.slice A l.length ca] w fun e w' => e = .returned (.bool (thsB l)) ∧ Below w.heap.size w w' := by
  have HA := Lib.hid hA; clear hA
  have HL := Lib.hid (fun W h => are_listed A ca l W h hn)
  have HV := Lib.hid (show thsB l = (decide (l.length ≤ 40) && lisB l && shaB l && ligB l) from rfl)
  by_cases h40 : (l.length : Int) ≤ 40
  rotate_left
  · have HN := Lib.hid (show thsB l = false by rw [HV.out, decide_eq_false (by omega)]; rfl)
    clear HL HV HA
    go_enter Try.func75, Try.ntmps75
    go_wp2
    go_ret
    exact ⟨ret_bool HN.out.symm, Below.refl _ _⟩
  have h40' : l.length ≤ 40 := by omega
  rw [decide_eq_true h40'] at HV
  cases hl : lisB l with
  | false =>
    rw [hl] at HL HV
    have HN := Lib.hid (show thsB l = false by rw [HV.out]; rfl)
    clear HV hl
    go_enter Try.func75, Try.ntmps75
    go_wp2_with fail
    refine (HL.out _ HA.out).mono ?_; rintro e w1 ⟨rfl, hb1⟩
    go_wp2
    go_ret
    exact ⟨ret_bool HN.out.symm, hb1⟩
  | true =>
    rw [hl] at HL HV
    have hlis := lis_of hl
    have HS := Lib.hid (fun W h => are_shallow A ca l W h hn hlis)
    clear hl
    cases hs : shaB l with
    | false =>
      rw [hs] at HS HV
      have HN := Lib.hid (show thsB l = false by rw [HV.out]; rfl)
      clear HV hs hlis
      go_enter Try.func75, Try.ntmps75
      go_wp2_with fail
      refine (HL.out _ HA.out).mono ?_; rintro e w1 ⟨rfl, hb1⟩
      go_wp2_with fail
      refine (HS.out _ (HA.out.below hb1)).mono ?_; rintro e w2 ⟨rfl, hb2⟩
      have HB2 := Lib.hid (hb1.trans (hb2.mono hb1.size))
      clear hb1 hb2
      go_wp2
      go_ret
      exact ⟨ret_bool HN.out.symm, HB2.out⟩
    | true =>
      rw [hs] at HS HV
      have HG := Lib.hid (fun W h => are_light A ca l W h h40' hlis (sha_of hs))
      have HN := Lib.hid (show thsB l = ligB l by rw [HV.out]; rfl)
      clear HV hs hlis
      generalize ligB l = Z at *
      go_enter Try.func75, Try.ntmps75
      go_wp2_with fail
      refine (HL.out _ HA.out).mono ?_; rintro e w1 ⟨rfl, hb1⟩
      go_wp2_with fail
      refine (HS.out _ (HA.out.below hb1)).mono ?_; rintro e w2 ⟨rfl, hb2⟩
      have HB2 := Lib.hid (hb1.trans (hb2.mono hb1.size))
      clear hb1 hb2
      go_wp2_with fail
      refine (HG.out _ (HA.out.below HB2.out)).mono ?_; rintro e w3 ⟨rfl, hb3⟩
      have HB3 := Lib.hid (HB2.out.trans (hb3.mono HB2.out.size))
      clear hb3
      go_wp2
      go_ret
      exact ⟨ret_bool HN.out.symm, HB3.out⟩
end Go.Proofs.Ytodphbnbljpegab

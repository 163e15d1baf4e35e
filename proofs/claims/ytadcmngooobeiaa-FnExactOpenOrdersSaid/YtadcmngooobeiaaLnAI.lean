/- AreLines, the program. Written by hand. -/
import Derived.Test.YtadcmngooobeiaaLnMay
import Derived.Deep.Cut
namespace Go.Proofs.Ytadcmngooobeiaa
open Go.RowKit
theorem InK.cutK {α : Type} {enc : α → List Value} {n : Nat} {w : World} {A : Option Addr} {l : List α} (h : InK n enc w A l) (k : Nat) : InK n enc w A (l.take k) := by
  intro j hj
  have hj' : j < l.length := by rw [List.length_take] at hj; omega
  obtain ⟨g, e, h1, h2⟩ := h j hj'
  exact ⟨g, e, h1, fun i hi => by rw [h2 i hi, List.getElem_take]⟩
set_option maxRecDepth 100000 in
set_option maxHeartbeats 4000000 in
theorem lines_impl (A : Option Addr) (ca : Nat) (l : List Ln) (w : World) (hA : InK 4 lnC w A l) (hc : l.length ≤ ca) (hn : l.length ≤ 1048576) :
    Calls Try.prog 27 #[.slice A l.length ca] w fun e w' => e = .returned (.bool (linesB l)) ∧ Below w.heap.size w w' := by
  by_cases h200 : l.length ≤ 200
  rotate_left
  · have HVF := Lib.hid (linesB_long (l := l) (by omega))
    generalize linesB l = V at *
    go_enter Try.func27, Try.ntmps27
    go_wp2
    go_ret
    exact ⟨ret_bool HVF.out.symm, Below.refl _ _⟩
  have HA := Lib.hid hA; clear hA
  have HNO := Lib.hid (fun j (h : j < l.length) e => linesB_not (l := l) h e)
  have HYE := Lib.hid (fun h => linesB_iff.2 (And.intro h200 h) : (∀ i (h : i < l.length), okL l i h) → linesB l = true)
  generalize linesB l = V at *
  go_enter Try.func27, Try.ntmps27
  go_wp2
  go_loopw [10] (fun i wr => ∃ j : Nat, i = .int .i64 j ∧ j ≤ l.length ∧ Hid (∀ i (h : i < l.length), i < j → okL l i h) ∧ Hid (Below w.heap.size w wr)) (fun i _ => l.length - (intOf i).toNat)
  case atStart => exact ⟨0, rfl, Nat.zero_le _, Lib.hid (fun i _ h => absurd h (Nat.not_lt_zero i)), Lib.hid (Below.refl _ _)⟩
  case round =>
    obtain ⟨j, rfl, hj, hall, hbw⟩ := hrel
    by_cases hlt : (j : Int) < (l.length : Int)
    · have hjl : j < l.length := by omega
      obtain ⟨a, rfl, ha, c0, c1, c2, c3⟩ := (HA.out.below hbw.out).ln j hjl
      have HIN := Lib.hid ((HA.out.below hbw.out).cutK j)
      have HLK := Lib.hid (show (l.take j).length = j by rw [List.length_take]; omega)
      have HVT := Lib.hid (show ∀ x ∈ l.take j, lineB x = true from fun x hx => by
        obtain ⟨i, hi, rfl⟩ := List.mem_take_iff_getElem.1 hx
        exact (hall.out i (by omega) (by omega)).1)
      have HPV := Lib.hid (fun (h0 : 0 < j) => (HA.out.below hbw.out).ln (j - 1) (by omega))
      have HN := Lib.hid (fun (h : okL l j hjl) i (hi : i < l.length) (hij : i < j + 1) => show okL l i hi by
        by_cases e : i = j
        · subst e; exact h
        · exact hall.out i hi (by omega))
      have HH := Lib.hid (HNO.out j hjl)
      have HOK := Lib.hid (show okL l j hjl ↔ lineB l[j] = true ∧ (j = 0 ∨ (l[j - 1]'(by omega)).t ≤ l[j].t) ∧ mayB (l.take j) l[j] = true from Iff.rfl)
      clear hall
      generalize okL l j hjl = OK at *
      generalize hy : l[j] = y at *
      have HYE2 := Lib.hid hy; clear hy
      obtain ⟨yo, yk, ya, yt⟩ := y
      dsimp only at c0 c1 c2 c3 HOK
      have hbA := (Below.refl wr.heap.size wr).alloc (Nat.le_refl _) (.cells #[.int .i64 yo, .int .i64 yk, .int .i64 ya, .int .i64 yt] 25)
      have FT := Lib.hid (Bx.new (T := 25) wr [.int .i64 yo, .int .i64 yk, .int .i64 ya, .int .i64 yt])
      have HIN2 := Lib.hid (HIN.out.below hbA)
      have HB2 := Lib.hid (hbw.out.trans (hbA.mono hbw.out.size))
      have HBA := Lib.hid hbA
      clear HIN hbA
      go_wp2_with fail
      generalize hG : wr.heap.size = G at *
      have HGE := Lib.hid hG; clear hG
      change Hid (Bx 25 (wr.alloc (.cells #[.int .i64 yo, .int .i64 yk, .int .i64 ya, .int .i64 yt] 25)) G [.int .i64 yo, .int .i64 yk, .int .i64 ya, .int .i64 yt]) at FT
      generalize wr.alloc (.cells #[.int .i64 yo, .int .i64 yk, .int .i64 ya, .int .i64 yt] 25) = V1 at *
      have t0_ := FT.out.cell 0 _ rfl; have t1_ := FT.out.cell 1 _ rfl; have t2_ := FT.out.cell 2 _ rfl; have t3_ := FT.out.cell 3 _ rfl
      have htl := FT.out.lt
      have t0F := far_cell htl t0_; have t1F := far_cell htl t1_; have t2F := far_cell htl t2_; have t3F := far_cell htl t3_
      have HC1 := Lib.hid (fun x' => isl_impl yo yk ya yt (far V1 x'))
      clear t0_ t1_ t2_ t3_ c0 c1 c2 c3
      cases q1 : lineB ⟨yo, yk, ya, yt⟩ with
      | false =>
        have HVF := Lib.hid (show V = false from HH.out (fun h => by have h1 := (HOK.out.1 h).1; rw [q1] at h1; exact Bool.false_ne_true h1))
        rw [q1] at HC1
        refine wp_region_far (by kernel_rfl) (by kernel_rfl) ?_
        repeat (any_goals (first | go_big_quiet_step ((go_at_call 20; with_reducible exact call_far (HC1.out _))) | quiet_step ((go_at_call 20; with_reducible exact call_far (HC1.out _)))))
        refine wpQuiet_nil ?_; intro wz hw
        have hb : Below V1.heap.size V1 wz := by obtain ⟨u, rfl⟩ := hw; exact below_far V1 u
        replace HB2 := Lib.hid (HB2.out.trans (hb.mono HB2.out.size))
        clear hw hb
        go_wp2
        go_ret
        exact ⟨ret_bool HVF.out.symm, HB2.out⟩
      | true =>
        have HLB := Lib.hid (lineB_iff.1 q1)
        rw [q1] at HC1
        have HC2 := Lib.hid (fun x' => may_impl yo yk ya yt (some ⟨a, 0, none⟩) ca (l.take j) (far V1 x') (HIN2.out.below (below_far V1 x')) (by rw [HLK.out]; omega) HVT.out HLB.out.2.2.1)
        rw [HLK.out] at HC2
        have hj0 : (0 : Int) ≤ (j : Int) := by omega
        have hjc : (j : Int) ≤ (ca : Int) := by omega
        by_cases h0 : j = 0
        · subst h0
          cases q2 : mayB (l.take 0) ⟨yo, yk, ya, yt⟩ with
          | false =>
            have HVF := Lib.hid (show V = false from HH.out (fun h => by have h1 := (HOK.out.1 h).2.2; rw [q2] at h1; exact Bool.false_ne_true h1))
            rw [q2] at HC2
            refine wp_region_far (by kernel_rfl) (by kernel_rfl) ?_
            repeat (any_goals (first | go_big_quiet_step ((first | (go_at_call 20; with_reducible exact call_far (HC1.out _)) | (go_at_call 63; with_reducible exact call_far (HC2.out _)))) | quiet_step ((first | (go_at_call 20; with_reducible exact call_far (HC1.out _)) | (go_at_call 63; with_reducible exact call_far (HC2.out _))))))
            refine wpQuiet_nil ?_; intro wz hw
            have hb : Below V1.heap.size V1 wz := by obtain ⟨u, rfl⟩ := hw; exact below_far V1 u
            replace HB2 := Lib.hid (HB2.out.trans (hb.mono HB2.out.size))
            clear hw hb
            go_wp2
            go_ret
            exact ⟨ret_bool HVF.out.symm, HB2.out⟩
          | true =>
            have HVN := Lib.hid (HN.out (HOK.out.2 ⟨q1, .inl rfl, q2⟩))
            rw [q2] at HC2
            refine wp_region_far (by kernel_rfl) (by kernel_rfl) ?_
            repeat (any_goals (first | go_big_quiet_step ((first | (go_at_call 20; with_reducible exact call_far (HC1.out _)) | (go_at_call 63; with_reducible exact call_far (HC2.out _)))) | quiet_step ((first | (go_at_call 20; with_reducible exact call_far (HC1.out _)) | (go_at_call 63; with_reducible exact call_far (HC2.out _))))))
            refine wpQuiet_nil ?_; intro wz hw
            have hb : Below V1.heap.size V1 wz := by obtain ⟨u, rfl⟩ := hw; exact below_far V1 u
            replace HB2 := Lib.hid (HB2.out.trans (hb.mono HB2.out.size))
            clear hw hb HH HN HOK
            go_wp2
            go_roundw
            case rel => exact ⟨1, by go_num, by omega, HVN, HB2⟩
            case measure => simp [intOf]; omega
        · have h0' : 0 < j := by omega
          have hgt : decide ((0 : Int) < (j : Int)) = true := decide_eq_true (by omega)
          have hgn : decide (0 < j) = true := decide_eq_true h0'
          obtain ⟨a', ea, _, p0, p1, p2, p3⟩ := HPV.out h0'
          have ea2 : a' = a := by cases ea; rfl
          subst ea2
          clear p0 p1 p2 ea
          have p3F := far_cell (show a' < V1.heap.size from Nat.lt_of_lt_of_le ha (by have := HBA.out.size; omega)) ((HBA.out.cell (p := ⟨a', (j - 1) * 4 + 3, none⟩) (by first | exact ha | (rw [← HGE.out]; exact ha))).trans p3)
          clear p3
          obtain ⟨pt, hpt⟩ : ∃ pt, pt = (l[j - 1]'(by omega)).t := ⟨_, rfl⟩
          rw [← hpt] at p3F HOK
          clear hpt
          have hjm : (j : Int) - 1 = ((j - 1 : Nat) : Int) := by omega
          have hjw : wrap64 ((j : Int) - 1) = ((j - 1 : Nat) : Int) := by rw [wrap_id (by omega)]; exact hjm
          have hj1 : ((j - 1 : Nat) : Int) < (l.length : Int) := by omega
          have hj2 : (0 : Int) ≤ ((j - 1 : Nat) : Int) := by omega
          by_cases h3 : yt < pt
          · have h3d : decide (yt < pt) = true := decide_eq_true h3
            have HVF := Lib.hid (show V = false from HH.out (fun h => by rcases (HOK.out.1 h).2.1 with e | e <;> omega))
            refine wp_region_far (by kernel_rfl) (by kernel_rfl) ?_
            repeat (any_goals (first | go_big_quiet_step ((first | (go_at_call 20; with_reducible exact call_far (HC1.out _)) | (go_at_call 63; with_reducible exact call_far (HC2.out _)))) | quiet_step ((first | (go_at_call 20; with_reducible exact call_far (HC1.out _)) | (go_at_call 63; with_reducible exact call_far (HC2.out _))))))
            refine wpQuiet_nil ?_; intro wz hw
            have hb : Below V1.heap.size V1 wz := by obtain ⟨u, rfl⟩ := hw; exact below_far V1 u
            replace HB2 := Lib.hid (HB2.out.trans (hb.mono HB2.out.size))
            clear hw hb
            go_wp2
            go_ret
            exact ⟨ret_bool HVF.out.symm, HB2.out⟩
          · have h3d : decide (yt < pt) = false := decide_eq_false h3
            cases q2 : mayB (l.take j) ⟨yo, yk, ya, yt⟩ with
            | false =>
              have HVF := Lib.hid (show V = false from HH.out (fun h => by have h1 := (HOK.out.1 h).2.2; rw [q2] at h1; exact Bool.false_ne_true h1))
              rw [q2] at HC2
              refine wp_region_far (by kernel_rfl) (by kernel_rfl) ?_
              repeat (any_goals (first | go_big_quiet_step ((first | (go_at_call 20; with_reducible exact call_far (HC1.out _)) | (go_at_call 63; with_reducible exact call_far (HC2.out _)))) | quiet_step ((first | (go_at_call 20; with_reducible exact call_far (HC1.out _)) | (go_at_call 63; with_reducible exact call_far (HC2.out _))))))
              refine wpQuiet_nil ?_; intro wz hw
              have hb : Below V1.heap.size V1 wz := by obtain ⟨u, rfl⟩ := hw; exact below_far V1 u
              replace HB2 := Lib.hid (HB2.out.trans (hb.mono HB2.out.size))
              clear hw hb
              go_wp2
              go_ret
              exact ⟨ret_bool HVF.out.symm, HB2.out⟩
            | true =>
              have HVN := Lib.hid (HN.out (HOK.out.2 ⟨q1, .inr (by omega), q2⟩))
              rw [q2] at HC2
              refine wp_region_far (by kernel_rfl) (by kernel_rfl) ?_
              repeat (any_goals (first | go_big_quiet_step ((first | (go_at_call 20; with_reducible exact call_far (HC1.out _)) | (go_at_call 63; with_reducible exact call_far (HC2.out _)))) | quiet_step ((first | (go_at_call 20; with_reducible exact call_far (HC1.out _)) | (go_at_call 63; with_reducible exact call_far (HC2.out _))))))
              refine wpQuiet_nil ?_; intro wz hw
              have hb : Below V1.heap.size V1 wz := by obtain ⟨u, rfl⟩ := hw; exact below_far V1 u
              replace HB2 := Lib.hid (HB2.out.trans (hb.mono HB2.out.size))
              clear hw hb HH HN HOK
              go_wp2
              go_roundw
              case rel => exact ⟨j + 1, by go_num, by omega, HVN, HB2⟩
              case measure => simp [intOf]; omega
    · obtain rfl : j = l.length := by omega
      have HVF := Lib.hid (HYE.out (fun i hi => hall.out i hi hi))
      clear hall
      go_wp2
      go_ret
      exact ⟨ret_bool HVF.out.symm, hbw.out⟩
end Go.Proofs.Ytadcmngooobeiaa

/- AreLines, the reference. Written by hand. -/
import Derived.Test.YtadcmngooobeiaaLnS
import Derived.Deep.Cut
namespace Go.Proofs.Ytadcmngooobeiaa
open Go.RowKit
theorem InK.cutL {α : Type} {enc : α → List Value} {n : Nat} {w : World} {A : Option Addr} {l : List α} (h : InK n enc w A l) (k : Nat) : InK n enc w A (l.take k) := by
  intro j hj
  have hj' : j < l.length := by rw [List.length_take] at hj; omega
  obtain ⟨g, e, h1, h2⟩ := h j hj'
  exact ⟨g, e, h1, fun i hi => by rw [h2 i hi, List.getElem_take]⟩
theorem may_3 {b : List Ln} {o k a t : Int} (hn : b.length ≤ 200) (hv : ∀ x ∈ b, lineB x = true) (k1 : k ≠ 1) (k2 : k ≠ 2) :
    mayB b ⟨o, k, a, t⟩ = (decide (cntT b o 3 = 0) && decide (a ≤ sumT b o 1) && decide (sumT b o 2 = sumT b o 1)) := by
  unfold mayB
  dsimp only
  rw [if_neg k1, if_neg k2]
  have h1 := cnt_sum_all (o := o) (k := 3) hn hv
  have h2 := sum_nonneg (o := o) (k := 3) hn hv
  rw [show decide (sumT b o 3 = 0) = decide (cntT b o 3 = 0) from decide_eq_decide.2 (by omega)]
  ac_rfl
set_option maxRecDepth 100000 in
set_option maxHeartbeats 1500000 in
theorem lines_spec (A : Option Addr) (ca : Nat) (l : List Ln) (w : World) (hA : InK 4 lnC w A l) (hc : l.length ≤ ca) (hn : l.length ≤ 1048576) :
    Calls Try.prog 26 #[.slice A l.length ca] w fun e w' => e = .returned (.bool (linesB l)) ∧ Below w.heap.size w w' := by
  by_cases h200 : l.length ≤ 200
  rotate_left
  · have HVF := Lib.hid (linesB_long (l := l) (by omega))
    generalize linesB l = V at *
    go_enter Try.func26, Try.ntmps26
    go_wp2
    go_ret
    exact ⟨ret_bool HVF.out.symm, Below.refl _ _⟩
  have HA := Lib.hid hA; clear hA
  have HNO := Lib.hid (fun j (h : j < l.length) e => linesB_not (l := l) h e)
  have HYE := Lib.hid (fun h => linesB_iff.2 (And.intro h200 h) : (∀ i (h : i < l.length), okL l i h) → linesB l = true)
  generalize linesB l = V at *
  go_enter Try.func26, Try.ntmps26
  go_wp2
  go_loopw [3] (fun i wr => ∃ j : Nat, i = .int .i64 j ∧ j ≤ l.length ∧ Hid (∀ i (h : i < l.length), i < j → okL l i h) ∧ Hid (Below w.heap.size w wr)) (fun i _ => l.length - (intOf i).toNat)
  case atStart => exact ⟨0, rfl, Nat.zero_le _, Lib.hid (fun i _ h => absurd h (Nat.not_lt_zero i)), Lib.hid (Below.refl _ _)⟩
  case round =>
    obtain ⟨j, rfl, hj, hall, hbw⟩ := hrel
    by_cases hlt : (j : Int) < (l.length : Int)
    · have hjl : j < l.length := by omega
      obtain ⟨a, rfl, ha, c0, c1, c2, c3⟩ := (HA.out.below hbw.out).ln j hjl
      have HIN := Lib.hid ((HA.out.below hbw.out).cutL j)
      have HLK := Lib.hid (show (l.take j).length = j by rw [List.length_take]; omega)
      have HVT := Lib.hid (show ∀ x ∈ l.take j, lineB x = true from fun x hx => by
        obtain ⟨i, hi, rfl⟩ := List.mem_take_iff_getElem.1 hx
        exact (hall.out i (by omega) (by omega)).1)
      have HPV := Lib.hid (fun (h0 : 0 < j) => (HA.out.below hbw.out).ln (j - 1) (by omega))
      have HN := Lib.hid (fun (h : okL l j hjl) i (hi : i < l.length) (hij : i < j + 1) => show okL l i hi by
        by_cases e : i = j
        · subst e; exact h
        · exact hall.out i hi (by omega))
      have HH := Lib.hid (HNO.out j hjl)
      have HOK := Lib.hid (show okL l j hjl ↔ lineB l[j] = true ∧ (j = 0 ∨ (l[j - 1]'(by omega)).t ≤ l[j].t) ∧ mayB (l.take j) l[j] = true from Iff.rfl)
      clear hall
      generalize okL l j hjl = OK at *
      generalize hy : l[j] = y at *
      have HYE2 := Lib.hid hy; clear hy
      obtain ⟨yo, yk, ya, yt⟩ := y
      dsimp only at c0 c1 c2 c3 HOK
      have hbA := (Below.refl wr.heap.size wr).alloc (Nat.le_refl _) (.cells #[.int .i64 yo, .int .i64 yk, .int .i64 ya, .int .i64 yt] 25)
      have FT := Lib.hid (Bx.new (T := 25) wr [.int .i64 yo, .int .i64 yk, .int .i64 ya, .int .i64 yt])
      have HIN2 := Lib.hid (HIN.out.below hbA)
      have HB2 := Lib.hid (hbw.out.trans (hbA.mono hbw.out.size))
      have HBA := Lib.hid hbA
      clear HIN hbA
      go_wp2_with fail
      generalize hG : wr.heap.size = G at *
      have HGE := Lib.hid hG; clear hG
      change Hid (Bx 25 (wr.alloc (.cells #[.int .i64 yo, .int .i64 yk, .int .i64 ya, .int .i64 yt] 25)) G [.int .i64 yo, .int .i64 yk, .int .i64 ya, .int .i64 yt]) at FT
      generalize wr.alloc (.cells #[.int .i64 yo, .int .i64 yk, .int .i64 ya, .int .i64 yt] 25) = V1 at *
      have t0_ := FT.out.cell 0 _ rfl; have t1_ := FT.out.cell 1 _ rfl; have t2_ := FT.out.cell 2 _ rfl; have t3_ := FT.out.cell 3 _ rfl
      have htl := FT.out.lt
      have t0F := far_cell htl t0_; have t1F := far_cell htl t1_; have t2F := far_cell htl t2_; have t3F := far_cell htl t3_
      have HC1 := Lib.hid (fun x' => isl_spec yo yk ya yt (far V1 x'))
      clear t0_ t1_ t2_ t3_ c0 c1 c2 c3
      have HLB2 := Lib.hid (show (l.take j).length ≤ 200 by rw [HLK.out]; omega)
      cases q1 : lineB ⟨yo, yk, ya, yt⟩ with
      | false =>
        have HVF := Lib.hid (show V = false from HH.out (fun h => by have h1 := (HOK.out.1 h).1; rw [q1] at h1; exact Bool.false_ne_true h1))
        rw [q1] at HC1
        refine wp_region_far (by kernel_rfl) (by kernel_rfl) ?_
        repeat (any_goals (first | go_big_quiet_step ((go_at_call 18; with_reducible exact call_far (HC1.out _))) | quiet_step ((go_at_call 18; with_reducible exact call_far (HC1.out _)))))
        refine wpQuiet_nil ?_; intro wz hw
        have hb : Below V1.heap.size V1 wz := by obtain ⟨u, rfl⟩ := hw; exact below_far V1 u
        replace HB2 := Lib.hid (HB2.out.trans (hb.mono HB2.out.size)); replace FT := Lib.hid (FT.out.below hb); replace HIN2 := Lib.hid (HIN2.out.below hb)
        clear hw hb
        go_wp2
        go_ret
        exact ⟨ret_bool HVF.out.symm, HB2.out⟩
      | true =>
        have HLB := Lib.hid (lineB_iff.1 q1)
        rw [q1] at HC1
        have hj0 : (0 : Int) ≤ (j : Int) := by omega
        have hjc : (j : Int) ≤ (ca : Int) := by omega
        by_cases h0 : j = 0
        · have hgt : decide ((0 : Int) < (j : Int)) = false := decide_eq_false (by omega)
          have hgn : decide (0 < j) = false := decide_eq_false (by omega)
          have HJ0 := Lib.hid h0; clear h0
          refine wp_region_far (by kernel_rfl) (by kernel_rfl) ?_
          repeat (any_goals (first | go_big_quiet_step ((go_at_call 18; with_reducible exact call_far (HC1.out _))) | quiet_step ((go_at_call 18; with_reducible exact call_far (HC1.out _)))))
          refine wpQuiet_nil ?_; intro wz hw
          have hb : Below V1.heap.size V1 wz := by obtain ⟨u, rfl⟩ := hw; exact below_far V1 u
          replace HB2 := Lib.hid (HB2.out.trans (hb.mono HB2.out.size)); replace FT := Lib.hid (FT.out.below hb); replace HIN2 := Lib.hid (HIN2.out.below hb)
          clear hw hb hgt hgn
          clear HC1 t0F t1F t2F t3F
          have t0_ := FT.out.cell 0 _ rfl; have t1_ := FT.out.cell 1 _ rfl; have t2_ := FT.out.cell 2 _ rfl
          go_wp2_with fail
          clear t0_ t1_ t2_
          have HS1 := Lib.hid (sum_nonneg (o := yo) (k := 1) HLB2.out HVT.out); have HS2 := Lib.hid (sum_nonneg (o := yo) (k := 2) HLB2.out HVT.out)
          have HM3 := Lib.hid (fun k1 k2 => may_3 (o := yo) (k := yk) (a := ya) (t := yt) HLB2.out HVT.out k1 k2)
          have HMM := Lib.hid (show mayB (l.take j) ⟨yo, yk, ya, yt⟩ = (if yk = 1 then decide (sumT (l.take j) yo 1 = 0) else if yk = 2 then decide (sumT (l.take j) yo 2 + ya ≤ sumT (l.take j) yo 1) else decide (sumT (l.take j) yo 3 = 0) && decide (sumT (l.take j) yo 2 = sumT (l.take j) yo 1) && decide (ya ≤ sumT (l.take j) yo 1)) from rfl)
          have H1 := Lib.hid (fun W (h : InK 4 lnC W (some ⟨a, 0, none⟩) (l.take j)) => sum_spec yo 1 (some ⟨a, 0, none⟩) ca (l.take j) W h (by rw [HLK.out]; omega))
          have H2 := Lib.hid (fun W (h : InK 4 lnC W (some ⟨a, 0, none⟩) (l.take j)) => sum_spec yo 2 (some ⟨a, 0, none⟩) ca (l.take j) W h (by rw [HLK.out]; omega))
          have H3 := Lib.hid (fun W (h : InK 4 lnC W (some ⟨a, 0, none⟩) (l.take j)) => cnt_spec yo 3 (some ⟨a, 0, none⟩) ca (l.take j) W h (by rw [HLK.out]; omega))
          rw [HLK.out] at H1 H2 H3
          generalize mayB (l.take j) ⟨yo, yk, ya, yt⟩ = M at *
          generalize sumT (l.take j) yo 1 = S1 at *
          generalize sumT (l.take j) yo 2 = S2 at *
          generalize sumT (l.take j) yo 3 = S3 at *
          generalize cntT (l.take j) yo 3 = N3 at *
          refine (H1.out wz HIN2.out).mono ?_; rintro e W1 ⟨rfl, hb⟩
          replace HB2 := Lib.hid (HB2.out.trans (hb.mono HB2.out.size)); replace FT := Lib.hid (FT.out.below hb); replace HIN2 := Lib.hid (HIN2.out.below hb); clear hb
          have t0_ := FT.out.cell 0 _ rfl; have t1_ := FT.out.cell 1 _ rfl; have t2_ := FT.out.cell 2 _ rfl
          have HNM := Lib.hid (fun (h : M = false) => show V = false from HH.out (fun h' => by have h1 := (HOK.out.1 h').2.2; rw [h] at h1; exact Bool.false_ne_true h1))
          have HYM := Lib.hid (fun (h : M = true) => HN.out (HOK.out.2 ⟨q1, .inl HJ0.out, h⟩))
          clear HH HN HOK
          by_cases k1 : yk = 1
          · have HM := Lib.hid (HMM.out.trans (if_pos k1))
            have ek1 : (yk == 1) = true := by simp [k1]
            by_cases h : S1 = 0
            · have HVN := Lib.hid (HYM.out (HM.out.trans (decide_eq_true h)))
              have e1 : decide (0 < S1) = false := decide_eq_false (by omega)
              clear h k1
              go_wp2
              go_roundw
              case rel => exact ⟨j + 1, by go_num, by omega, HVN, HB2⟩
              case measure => simp [intOf]; omega
            · have HVF := Lib.hid (HNM.out (HM.out.trans (decide_eq_false h)))
              have e1 : decide (0 < S1) = true := decide_eq_true (by have := HS1.out; omega)
              clear h k1
              go_wp2
              go_ret
              exact ⟨ret_bool HVF.out.symm, HB2.out⟩
          have ek1 : (yk == 1) = false := by simp [k1]
          by_cases k2 : yk = 2
          · have HM := Lib.hid (HMM.out.trans ((if_neg k1).trans (if_pos k2)))
            have ek2 : (yk == 2) = true := by simp [k2]
            have hw : wrap64 (S2 + ya) = S2 + ya := wrap_id (by have := HS2.out; have := HLB.out.2.2.1; omega)
            have HW := Lib.hid hw; clear hw
            clear k1 k2
            go_upto_region 18 with (fail)
            have htl := FT.out.lt
            have t0F := far_cell htl t0_; have t1F := far_cell htl t1_; have t2F := far_cell htl t2_
            clear t0_ t1_ t2_
            have HC2 := Lib.hid (fun x' => H2.out (far W1 x') (HIN2.out.below (below_far W1 x')))
            by_cases h : S2 + ya ≤ S1
            · have HVN := Lib.hid (HYM.out (HM.out.trans (decide_eq_true h)))
              have e1 : decide (S1 < wrap64 (S2 + ya)) = false := by rw [HW.out]; exact decide_eq_false (by omega)
              clear h
              refine wp_region_far (by kernel_rfl) (by kernel_rfl) ?_
              repeat (any_goals (first | go_big_quiet_step ((go_at_call 22; with_reducible exact call_far (HC2.out _))) | quiet_step ((go_at_call 22; with_reducible exact call_far (HC2.out _)))))
              refine wpQuiet_nil ?_; intro wy hw
              have hb : Below W1.heap.size W1 wy := by obtain ⟨u, rfl⟩ := hw; exact below_far W1 u
              replace HB2 := Lib.hid (HB2.out.trans (hb.mono HB2.out.size)); replace FT := Lib.hid (FT.out.below hb); replace HIN2 := Lib.hid (HIN2.out.below hb)
              clear hw hb
              go_wp2
              go_roundw
              case rel => exact ⟨j + 1, by go_num, by omega, HVN, HB2⟩
              case measure => simp [intOf]; omega
            · have HVF := Lib.hid (HNM.out (HM.out.trans (decide_eq_false h)))
              have e1 : decide (S1 < wrap64 (S2 + ya)) = true := by rw [HW.out]; exact decide_eq_true (by omega)
              clear h
              refine wp_region_far (by kernel_rfl) (by kernel_rfl) ?_
              repeat (any_goals (first | go_big_quiet_step ((go_at_call 22; with_reducible exact call_far (HC2.out _))) | quiet_step ((go_at_call 22; with_reducible exact call_far (HC2.out _)))))
              refine wpQuiet_nil ?_; intro wy hw
              have hb : Below W1.heap.size W1 wy := by obtain ⟨u, rfl⟩ := hw; exact below_far W1 u
              replace HB2 := Lib.hid (HB2.out.trans (hb.mono HB2.out.size)); replace FT := Lib.hid (FT.out.below hb); replace HIN2 := Lib.hid (HIN2.out.below hb)
              clear hw hb
              go_wp2
              go_ret
              exact ⟨ret_bool HVF.out.symm, HB2.out⟩
          have ek2 : (yk == 2) = false := by simp [k2]
          have HM := Lib.hid (HM3.out k1 k2)
          clear k1 k2
          go_wp2_with fail
          clear t0_ t1_ t2_
          refine (H3.out W1 HIN2.out).mono ?_; rintro e W2 ⟨rfl, hb⟩
          replace HB2 := Lib.hid (HB2.out.trans (hb.mono HB2.out.size)); replace FT := Lib.hid (FT.out.below hb); replace HIN2 := Lib.hid (HIN2.out.below hb); clear hb
          have t0_ := FT.out.cell 0 _ rfl; have t1_ := FT.out.cell 1 _ rfl; have t2_ := FT.out.cell 2 _ rfl
          by_cases h1 : N3 = 0
          rotate_left
          · have HVF := Lib.hid (HNM.out (HM.out.trans (show _ = false by rw [decide_eq_false h1]; simp only [Bool.false_and])))
            have e1 : decide ((0 : Int) < (N3 : Int)) = true := decide_eq_true (by omega)
            have e2 : 0 < N3 := by omega
            clear h1
            go_wp2
            go_ret
            exact ⟨ret_bool HVF.out.symm, HB2.out⟩
          subst h1
          by_cases h2 : ya ≤ S1
          rotate_left
          · have HVF := Lib.hid (HNM.out (HM.out.trans (show _ = false by rw [decide_eq_false h2]; simp only [Bool.false_and, Bool.and_false])))
            have e2 : decide (S1 < ya) = true := decide_eq_true (by omega)
            clear h2
            go_wp2
            go_ret
            exact ⟨ret_bool HVF.out.symm, HB2.out⟩
          have e2 : decide (S1 < ya) = false := decide_eq_false (by omega)
          go_wp2_with fail
          clear t0_ t1_ t2_
          refine (H2.out W2 HIN2.out).mono ?_; rintro e W3 ⟨rfl, hb⟩
          replace HB2 := Lib.hid (HB2.out.trans (hb.mono HB2.out.size)); replace FT := Lib.hid (FT.out.below hb); replace HIN2 := Lib.hid (HIN2.out.below hb); clear hb
          have t0_ := FT.out.cell 0 _ rfl; have t1_ := FT.out.cell 1 _ rfl; have t2_ := FT.out.cell 2 _ rfl
          by_cases h3 : S2 = S1
          · have HVN := Lib.hid (HYM.out (HM.out.trans (show _ = true by rw [decide_eq_true h2, decide_eq_true h3]; rfl)))
            have e3 : (S2 == S1) = true := by simp [h3]
            have e4 : (S2 != S1) = false := by simp [h3]
            clear h3 h2
            go_wp2
            go_roundw
            case rel => exact ⟨j + 1, by go_num, by omega, HVN, HB2⟩
            case measure => simp [intOf]; omega
          · have HVF := Lib.hid (HNM.out (HM.out.trans (show _ = false by rw [decide_eq_false h3]; simp only [Bool.and_false])))
            have e3 : (S2 == S1) = false := by simp [h3]
            have e4 : (S2 != S1) = true := by simp [h3]
            clear h3 h2
            go_wp2
            go_ret
            exact ⟨ret_bool HVF.out.symm, HB2.out⟩
        · have h0' : 0 < j := by omega
          have hgt : decide ((0 : Int) < (j : Int)) = true := decide_eq_true (by omega)
          have hgn : decide (0 < j) = true := decide_eq_true h0'
          obtain ⟨a', ea, _, p0, p1, p2, p3⟩ := HPV.out h0'
          have ea2 : a' = a := by cases ea; rfl
          subst ea2
          clear p0 p1 p2 ea
          have p3F := far_cell (show a' < V1.heap.size from Nat.lt_of_lt_of_le ha (by have := HBA.out.size; omega)) ((HBA.out.cell (p := ⟨a', (j - 1) * 4 + 3, none⟩) (by first | exact ha | (rw [← HGE.out]; exact ha))).trans p3)
          clear p3
          obtain ⟨pt, hpt⟩ : ∃ pt, pt = (l[j - 1]'(by omega)).t := ⟨_, rfl⟩
          rw [← hpt] at p3F HOK
          clear hpt
          have hjm : (j : Int) - 1 = ((j - 1 : Nat) : Int) := by omega
          have hjw : wrap64 ((j : Int) - 1) = ((j - 1 : Nat) : Int) := by rw [wrap_id (by omega)]; exact hjm
          have hj1 : ((j - 1 : Nat) : Int) < (l.length : Int) := by omega
          have hj2 : (0 : Int) ≤ ((j - 1 : Nat) : Int) := by omega
          by_cases h3 : yt < pt
          · have h3d : decide (yt < pt) = true := decide_eq_true h3
            have HVF := Lib.hid (show V = false from HH.out (fun h => by rcases (HOK.out.1 h).2.1 with e | e <;> omega))
            refine wp_region_far (by kernel_rfl) (by kernel_rfl) ?_
            repeat (any_goals (first | go_big_quiet_step ((go_at_call 18; with_reducible exact call_far (HC1.out _))) | quiet_step ((go_at_call 18; with_reducible exact call_far (HC1.out _)))))
            refine wpQuiet_nil ?_; intro wz hw
            have hb : Below V1.heap.size V1 wz := by obtain ⟨u, rfl⟩ := hw; exact below_far V1 u
            replace HB2 := Lib.hid (HB2.out.trans (hb.mono HB2.out.size)); replace FT := Lib.hid (FT.out.below hb); replace HIN2 := Lib.hid (HIN2.out.below hb)
            clear hw hb
            go_wp2
            go_ret
            exact ⟨ret_bool HVF.out.symm, HB2.out⟩
          · have h3d : decide (yt < pt) = false := decide_eq_false h3
            refine wp_region_far (by kernel_rfl) (by kernel_rfl) ?_
            repeat (any_goals (first | go_big_quiet_step ((go_at_call 18; with_reducible exact call_far (HC1.out _))) | quiet_step ((go_at_call 18; with_reducible exact call_far (HC1.out _)))))
            refine wpQuiet_nil ?_; intro wz hw
            have hb : Below V1.heap.size V1 wz := by obtain ⟨u, rfl⟩ := hw; exact below_far V1 u
            replace HB2 := Lib.hid (HB2.out.trans (hb.mono HB2.out.size)); replace FT := Lib.hid (FT.out.below hb); replace HIN2 := Lib.hid (HIN2.out.below hb)
            clear hw hb p3F h3d hgt hgn hjm hjw hj1 hj2
            clear HC1 t0F t1F t2F t3F
            have t0_ := FT.out.cell 0 _ rfl; have t1_ := FT.out.cell 1 _ rfl; have t2_ := FT.out.cell 2 _ rfl
            go_wp2_with fail
            clear t0_ t1_ t2_
            have HS1 := Lib.hid (sum_nonneg (o := yo) (k := 1) HLB2.out HVT.out); have HS2 := Lib.hid (sum_nonneg (o := yo) (k := 2) HLB2.out HVT.out)
            have HM3 := Lib.hid (fun k1 k2 => may_3 (o := yo) (k := yk) (a := ya) (t := yt) HLB2.out HVT.out k1 k2)
            have HMM := Lib.hid (show mayB (l.take j) ⟨yo, yk, ya, yt⟩ = (if yk = 1 then decide (sumT (l.take j) yo 1 = 0) else if yk = 2 then decide (sumT (l.take j) yo 2 + ya ≤ sumT (l.take j) yo 1) else decide (sumT (l.take j) yo 3 = 0) && decide (sumT (l.take j) yo 2 = sumT (l.take j) yo 1) && decide (ya ≤ sumT (l.take j) yo 1)) from rfl)
            have H1 := Lib.hid (fun W (h : InK 4 lnC W (some ⟨a', 0, none⟩) (l.take j)) => sum_spec yo 1 (some ⟨a', 0, none⟩) ca (l.take j) W h (by rw [HLK.out]; omega))
            have H2 := Lib.hid (fun W (h : InK 4 lnC W (some ⟨a', 0, none⟩) (l.take j)) => sum_spec yo 2 (some ⟨a', 0, none⟩) ca (l.take j) W h (by rw [HLK.out]; omega))
            have H3 := Lib.hid (fun W (h : InK 4 lnC W (some ⟨a', 0, none⟩) (l.take j)) => cnt_spec yo 3 (some ⟨a', 0, none⟩) ca (l.take j) W h (by rw [HLK.out]; omega))
            rw [HLK.out] at H1 H2 H3
            generalize mayB (l.take j) ⟨yo, yk, ya, yt⟩ = M at *
            generalize sumT (l.take j) yo 1 = S1 at *
            generalize sumT (l.take j) yo 2 = S2 at *
            generalize sumT (l.take j) yo 3 = S3 at *
            generalize cntT (l.take j) yo 3 = N3 at *
            refine (H1.out wz HIN2.out).mono ?_; rintro e W1 ⟨rfl, hb⟩
            replace HB2 := Lib.hid (HB2.out.trans (hb.mono HB2.out.size)); replace FT := Lib.hid (FT.out.below hb); replace HIN2 := Lib.hid (HIN2.out.below hb); clear hb
            have t0_ := FT.out.cell 0 _ rfl; have t1_ := FT.out.cell 1 _ rfl; have t2_ := FT.out.cell 2 _ rfl
            have HNM := Lib.hid (fun (h : M = false) => show V = false from HH.out (fun h' => by have h1 := (HOK.out.1 h').2.2; rw [h] at h1; exact Bool.false_ne_true h1))
            have HYM := Lib.hid (fun (h : M = true) => HN.out (HOK.out.2 ⟨q1, .inr (by omega), h⟩))
            clear HH HN HOK
            by_cases k1 : yk = 1
            · have HM := Lib.hid (HMM.out.trans (if_pos k1))
              have ek1 : (yk == 1) = true := by simp [k1]
              by_cases h : S1 = 0
              · have HVN := Lib.hid (HYM.out (HM.out.trans (decide_eq_true h)))
                have e1 : decide (0 < S1) = false := decide_eq_false (by omega)
                clear h k1
                go_wp2
                go_roundw
                case rel => exact ⟨j + 1, by go_num, by omega, HVN, HB2⟩
                case measure => simp [intOf]; omega
              · have HVF := Lib.hid (HNM.out (HM.out.trans (decide_eq_false h)))
                have e1 : decide (0 < S1) = true := decide_eq_true (by have := HS1.out; omega)
                clear h k1
                go_wp2
                go_ret
                exact ⟨ret_bool HVF.out.symm, HB2.out⟩
            have ek1 : (yk == 1) = false := by simp [k1]
            by_cases k2 : yk = 2
            · have HM := Lib.hid (HMM.out.trans ((if_neg k1).trans (if_pos k2)))
              have ek2 : (yk == 2) = true := by simp [k2]
              have hw : wrap64 (S2 + ya) = S2 + ya := wrap_id (by have := HS2.out; have := HLB.out.2.2.1; omega)
              have HW := Lib.hid hw; clear hw
              clear k1 k2
              go_upto_region 18 with (fail)
              have htl := FT.out.lt
              have t0F := far_cell htl t0_; have t1F := far_cell htl t1_; have t2F := far_cell htl t2_
              clear t0_ t1_ t2_
              have HC2 := Lib.hid (fun x' => H2.out (far W1 x') (HIN2.out.below (below_far W1 x')))
              by_cases h : S2 + ya ≤ S1
              · have HVN := Lib.hid (HYM.out (HM.out.trans (decide_eq_true h)))
                have e1 : decide (S1 < wrap64 (S2 + ya)) = false := by rw [HW.out]; exact decide_eq_false (by omega)
                clear h
                refine wp_region_far (by kernel_rfl) (by kernel_rfl) ?_
                repeat (any_goals (first | go_big_quiet_step ((go_at_call 22; with_reducible exact call_far (HC2.out _))) | quiet_step ((go_at_call 22; with_reducible exact call_far (HC2.out _)))))
                refine wpQuiet_nil ?_; intro wy hw
                have hb : Below W1.heap.size W1 wy := by obtain ⟨u, rfl⟩ := hw; exact below_far W1 u
                replace HB2 := Lib.hid (HB2.out.trans (hb.mono HB2.out.size)); replace FT := Lib.hid (FT.out.below hb); replace HIN2 := Lib.hid (HIN2.out.below hb)
                clear hw hb
                go_wp2
                go_roundw
                case rel => exact ⟨j + 1, by go_num, by omega, HVN, HB2⟩
                case measure => simp [intOf]; omega
              · have HVF := Lib.hid (HNM.out (HM.out.trans (decide_eq_false h)))
                have e1 : decide (S1 < wrap64 (S2 + ya)) = true := by rw [HW.out]; exact decide_eq_true (by omega)
                clear h
                refine wp_region_far (by kernel_rfl) (by kernel_rfl) ?_
                repeat (any_goals (first | go_big_quiet_step ((go_at_call 22; with_reducible exact call_far (HC2.out _))) | quiet_step ((go_at_call 22; with_reducible exact call_far (HC2.out _)))))
                refine wpQuiet_nil ?_; intro wy hw
                have hb : Below W1.heap.size W1 wy := by obtain ⟨u, rfl⟩ := hw; exact below_far W1 u
                replace HB2 := Lib.hid (HB2.out.trans (hb.mono HB2.out.size)); replace FT := Lib.hid (FT.out.below hb); replace HIN2 := Lib.hid (HIN2.out.below hb)
                clear hw hb
                go_wp2
                go_ret
                exact ⟨ret_bool HVF.out.symm, HB2.out⟩
            have ek2 : (yk == 2) = false := by simp [k2]
            have HM := Lib.hid (HM3.out k1 k2)
            clear k1 k2
            go_wp2_with fail
            clear t0_ t1_ t2_
            refine (H3.out W1 HIN2.out).mono ?_; rintro e W2 ⟨rfl, hb⟩
            replace HB2 := Lib.hid (HB2.out.trans (hb.mono HB2.out.size)); replace FT := Lib.hid (FT.out.below hb); replace HIN2 := Lib.hid (HIN2.out.below hb); clear hb
            have t0_ := FT.out.cell 0 _ rfl; have t1_ := FT.out.cell 1 _ rfl; have t2_ := FT.out.cell 2 _ rfl
            by_cases h1 : N3 = 0
            rotate_left
            · have HVF := Lib.hid (HNM.out (HM.out.trans (show _ = false by rw [decide_eq_false h1]; simp only [Bool.false_and])))
              have e1 : decide ((0 : Int) < (N3 : Int)) = true := decide_eq_true (by omega)
              have e2 : 0 < N3 := by omega
              clear h1
              go_wp2
              go_ret
              exact ⟨ret_bool HVF.out.symm, HB2.out⟩
            subst h1
            by_cases h2 : ya ≤ S1
            rotate_left
            · have HVF := Lib.hid (HNM.out (HM.out.trans (show _ = false by rw [decide_eq_false h2]; simp only [Bool.false_and, Bool.and_false])))
              have e2 : decide (S1 < ya) = true := decide_eq_true (by omega)
              clear h2
              go_wp2
              go_ret
              exact ⟨ret_bool HVF.out.symm, HB2.out⟩
            have e2 : decide (S1 < ya) = false := decide_eq_false (by omega)
            go_wp2_with fail
            clear t0_ t1_ t2_
            refine (H2.out W2 HIN2.out).mono ?_; rintro e W3 ⟨rfl, hb⟩
            replace HB2 := Lib.hid (HB2.out.trans (hb.mono HB2.out.size)); replace FT := Lib.hid (FT.out.below hb); replace HIN2 := Lib.hid (HIN2.out.below hb); clear hb
            have t0_ := FT.out.cell 0 _ rfl; have t1_ := FT.out.cell 1 _ rfl; have t2_ := FT.out.cell 2 _ rfl
            by_cases h3 : S2 = S1
            · have HVN := Lib.hid (HYM.out (HM.out.trans (show _ = true by rw [decide_eq_true h2, decide_eq_true h3]; rfl)))
              have e3 : (S2 == S1) = true := by simp [h3]
              have e4 : (S2 != S1) = false := by simp [h3]
              clear h3 h2
              go_wp2
              go_roundw
              case rel => exact ⟨j + 1, by go_num, by omega, HVN, HB2⟩
              case measure => simp [intOf]; omega
            · have HVF := Lib.hid (HNM.out (HM.out.trans (show _ = false by rw [decide_eq_false h3]; simp only [Bool.and_false])))
              have e3 : (S2 == S1) = false := by simp [h3]
              have e4 : (S2 != S1) = true := by simp [h3]
              clear h3 h2
              go_wp2
              go_ret
              exact ⟨ret_bool HVF.out.symm, HB2.out⟩
    · obtain rfl : j = l.length := by omega
      have HVF := Lib.hid (HYE.out (fun i hi => hall.out i hi hi))
      clear hall
      go_wp2
      go_ret
      exact ⟨ret_bool HVF.out.symm, hbw.out⟩
end Go.Proofs.Ytadcmngooobeiaa

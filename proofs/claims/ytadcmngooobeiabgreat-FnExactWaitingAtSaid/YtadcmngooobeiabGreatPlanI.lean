/- When an order ends as planned: placeToLeave, isStranded, PlannedEnd of the program. Written by mk/plane.py. -/
import Derived.Test.YtadcmngooobeiabGreatIswX
import Derived.Test.YtadcmngooobeiabGreatWayE
namespace Go.Proofs.YtadcmngooobeiabGreat
open Go.RowKit
/-- no way leads on from where the order is, or will be -/
def strB (l : List Lg) (z : OrRD) : Bool := !(z.z == 3) && ((comI z == (z.h.length : Int)) && !((ordPl l z (comI z).toNat).toList == z.t.toList))
def planO (l : List Lg) (z : OrRD) : Int := if strB l z then -1 else lastE l (-1) z.h
def planEB (d : Wd) (id : Int) : Int := if isWorB d && inB id 1 d.os.length then (match d.os[id.toNat - 1]? with
  | some z => planO d.l z
  | none => -1) else -1
theorem isw_ord {x : Wp} (h : isWorB x.dat = true) {k : Nat} (hk : k < x.os.length) : ordB x.l x.zs x.c x.n x.bs x.cs ((k : Int) + 1) (x.os[k]).d = true := by
  rw [isWor_eq] at h
  simp only [Bool.and_eq_true] at h
  obtain ⟨_, _, _, _, _, _, _, _, _, h4, _⟩ := h
  have h5 := List.all_eq_true.1 h4 k (List.mem_range.2 hk)
  rwa [ordAt_get x k hk] at h5
/-- what holds of an order of a valid world -/
structure OrdOk (x : Wp) (z : OrRD) : Prop where
  trips : tripsB x.l x.zs x.c z.h = true
  g : 0 ≤ z.g ∧ z.g ≤ z.h.length
  com : 0 ≤ comI z ∧ comI z ≤ z.h.length
  ride : z.z = 2 → z.g < z.h.length
  wait : z.z = 1 → z.p.toList = (ordPl x.l z z.g.toNat).toList
  kind : z.z = 1 ∨ z.z = 2 ∨ z.z = 3
  some : strB x.l z = false → 1 ≤ z.h.length
theorem ord_ok {x : Wp} {z : OrRD} {i : Int} (h : ordB x.l x.zs x.c x.n x.bs x.cs i z = true) : OrdOk x z := by
  unfold ordB at h
  simp only [Bool.and_eq_true] at h
  obtain ⟨ht, hw, _, hs⟩ := h
  obtain ⟨hT, hg0, hg1⟩ := way_of hw
  have hk : z.z = 1 ∨ z.z = 2 ∨ z.z = 3 := by
    unfold stateB at hs
    split at hs
    · exact .inl ‹_›
    · split at hs
      · exact .inr (.inl ‹_›)
      · split at hs
        · exact .inr (.inr ‹_›)
        · cases hs
  have hr : z.z = 2 → z.g < z.h.length := by
    intro h2
    unfold stateB at hs
    rw [if_neg (by omega), if_pos h2] at hs
    simp only [Bool.and_eq_true, Bool.not_eq_true', beq_eq_false_iff_ne] at hs
    have := hs.2.2.1
    omega
  have h1 : z.z = 1 → z.p.toList = (ordPl x.l z z.g.toNat).toList := by
    intro h2
    unfold stateB at hs
    rw [if_pos h2] at hs
    simp only [Bool.and_eq_true, beq_iff_eq] at hs
    exact hs.2.1
  have hc : 0 ≤ comI z ∧ comI z ≤ z.h.length := by
    unfold comI
    split
    · have := hr ‹_›; omega
    · omega
  refine ⟨hT, ⟨hg0, hg1⟩, hc, hr, h1, hk, fun hst => ?_⟩
  rcases Nat.eq_zero_or_pos z.h.length with h0 | h0
  · exfalso
    rcases hk with e | e | e
    · have hcom : comI z = 0 := by unfold comI; rw [if_neg (by omega)]; omega
      unfold termsB at ht
      simp only [Bool.and_eq_true, Bool.not_eq_true', beq_eq_false_iff_ne] at ht
      have hne := ht.1
      unfold strB at hst
      rw [hcom, e, h0] at hst
      have : (ordPl x.l z (0 : Int).toNat) = z.f := rfl
      rw [this] at hst
      simp [hne] at hst
    · have := hr e; omega
    · unfold stateB at hs
      rw [if_neg (by omega), if_neg (by omega), if_pos e] at hs
      simp only [Bool.and_eq_true, decide_eq_true_eq] at hs
      omega
  · exact h0
set_option maxRecDepth 100000 in
set_option maxHeartbeats 2000000 in
theorem place_leave (z : OrR) (b o : Nat) (x : Wp) (w : World) (h : OrAt w b o z) (hi : WorIn w x) (hk : OrdOk x z.d) (hm : z.h.length ≤ 1048576) :
    Calls Tryz.prog 83 #[.pointer (some ⟨b, o, none⟩), .agg #[.slice x.A0 x.l.length x.k0, .slice x.A1 x.zs.length x.k1, .int .i64 x.c]] w fun e w' => e = .returned (.string (ordPl x.l z.d (comI z.d).toNat)) ∧ Below w.heap.size w w' := by
  have HTG := Lib.hid (show ∀ j (hj : j < z.h.length), ∃ k : Nat, z.h[j].g = k ∧ k < x.l.length from fun j hj => by
    obtain ⟨_, _, k, h1, h2, _⟩ := trB_of ((tripsB_iff.1 hk.trips).2 j hj)
    exact ⟨k, h1, h2⟩)
  obtain ⟨c, hc⟩ : ∃ c : Nat, comI z.d = (c : Int) := ⟨(comI z.d).toNat, by have := hk.com; omega⟩
  have hcl : c ≤ z.h.length := by have := hk.com.2; rw [hc] at this; have h2 : (z.d.h.length : Int) = (z.h.length : Int) := rfl; omega
  have hgb : -9223372036854775808 ≤ z.g ∧ z.g ≤ 9223372036854775806 := by have := hk.g; have h2 : z.d.g = z.g := rfl; have h3 : (z.d.h.length : Int) = (z.h.length : Int) := rfl; omega
  have HFC := Lib.hid (fun W (h' : OrAt W b o z) => first_come z b o W h' hgb)
  have HPA := Lib.hid (fun W (h' : OrAt W b o z) (hA : InK 6 lgC W x.A0 x.l) => place_any z b o x c W h' hA HTG.out hcl hm)
  rw [hc] at HFC ⊢
  rw [show ((c : Int)).toNat = c from rfl]
  clear hk hm hgb hc hcl
  generalize ordPl x.l z.d c = PL at *
  have hbA := (Below.refl w.heap.size w).alloc (Nat.le_refl _) (.cells ⟨[.slice x.A0 x.l.length x.k0, .slice x.A1 x.zs.length x.k1, .int .i64 x.c]⟩ 36)
  have HN := Lib.hid (Bx.new (T := 36) w [.slice x.A0 x.l.length x.k0, .slice x.A1 x.zs.length x.k1, .int .i64 x.c])
  have HO := Lib.hid (h.below hbA); have HI := Lib.hid (hi.below hbA)
  have HB := Lib.hid hbA; have HSZ := Lib.hid hbA.size
  clear h hi hbA
  generalize hB : w.heap.size = B at *
  have HBE := Lib.hid hB
  go_enter Tryz.func83, Tryz.ntmps83
  go_upto_region 1 with (fail)
  clear hB
  generalize (w.alloc (.cells ⟨[.slice x.A0 x.l.length x.k0, .slice x.A1 x.zs.length x.k1, .int .i64 x.c]⟩ 36)) = V0 at *
  have hnl := HN.out.lt
  have n0_ := HN.out.cell 0 _ rfl; have n1_ := HN.out.cell 1 _ rfl; have n2_ := HN.out.cell 2 _ rfl
  have n0F := far_cell hnl n0_; have n1F := far_cell hnl n1_; have n2F := far_cell hnl n2_
  clear n0_ n1_ n2_ hnl
  have HC1 := Lib.hid (fun x' => HFC.out (far V0 x') (HO.out.below (below_far V0 x')))
  have HC2 := Lib.hid (fun x' => HPA.out (far V0 x') (HO.out.below (below_far V0 x')) (HI.out.below (below_far V0 x')).l)
  refine wp_region_far (by kernel_rfl) (by kernel_rfl) ?_
  repeat (any_goals (first | go_big_quiet_step ((first | (go_at_call 82; with_reducible exact call_far (HC1.out _)) | (go_at_call 109; with_reducible exact call_far (HC2.out _)))) | quiet_step ((first | (go_at_call 82; with_reducible exact call_far (HC1.out _)) | (go_at_call 109; with_reducible exact call_far (HC2.out _))))))
  refine wpQuiet_nil ?_; intro V1 hw
  have hb : Below V0.heap.size V0 V1 := by obtain ⟨u, rfl⟩ := hw; exact below_far V0 u
  replace HB := Lib.hid (HB.out.trans (hb.mono HSZ.out))
  clear hw hb
  go_wp2
  go_ret
  exact ⟨rfl, by first | exact HB.out | (rw [HBE.out]; exact HB.out)⟩
set_option maxRecDepth 100000 in
set_option maxHeartbeats 4000000 in
theorem is_str (z : OrR) (b o : Nat) (x : Wp) (w : World) (h : OrAt w b o z) (hi : WorIn w x) (hk : OrdOk x z.d) (hm : z.h.length ≤ 1048576) :
    Calls Tryz.prog 53 #[.pointer (some ⟨b, o, none⟩), .agg #[.slice x.A0 x.l.length x.k0, .slice x.A1 x.zs.length x.k1, .int .i64 x.c]] w fun e w' => e = .returned (.bool (strB x.l z.d)) ∧ Below w.heap.size w w' := by
  have hgb : -9223372036854775808 ≤ z.g ∧ z.g ≤ 9223372036854775806 := by have := hk.g; have h2 : z.d.g = z.g := rfl; have h3 : (z.d.h.length : Int) = (z.h.length : Int) := rfl; omega
  have HFC := Lib.hid (fun W (h' : OrAt W b o z) => first_come z b o W h' hgb)
  have HPL := Lib.hid (fun W (h' : OrAt W b o z) (hi' : WorIn W x) => place_leave z b o x W h' hi' hk hm)
  have HV := Lib.hid (show strB x.l z.d = (!(z.z == 3) && ((comI z.d == (z.h.length : Int)) && !((ordPl x.l z.d (comI z.d).toNat).toList == z.t.toList))) from rfl)
  generalize strB x.l z.d = V at *
  generalize ordPl x.l z.d (comI z.d).toNat = PL at *
  generalize comI z.d = C at *
  clear hgb hk
  have hbA := (Below.refl w.heap.size w).alloc (Nat.le_refl _) (.cells ⟨[.slice x.A0 x.l.length x.k0, .slice x.A1 x.zs.length x.k1, .int .i64 x.c]⟩ 36)
  have HN := Lib.hid (Bx.new (T := 36) w [.slice x.A0 x.l.length x.k0, .slice x.A1 x.zs.length x.k1, .int .i64 x.c])
  have HO := Lib.hid (h.below hbA); have HI := Lib.hid (hi.below hbA)
  have HB := Lib.hid hbA; have HSZ := Lib.hid hbA.size
  clear h hi hbA
  have HM := Lib.hid hm; clear hm
  generalize hB : w.heap.size = B at *
  have HBE := Lib.hid hB
  go_enter Tryz.func53, Tryz.ntmps53
  go_upto_region 1 with (fail)
  clear hB
  generalize (w.alloc (.cells ⟨[.slice x.A0 x.l.length x.k0, .slice x.A1 x.zs.length x.k1, .int .i64 x.c]⟩ 36)) = V0 at *
  have hnl := HN.out.lt; have hol := HO.out.lt
  have n0_ := HN.out.cell 0 _ rfl; have n1_ := HN.out.cell 1 _ rfl; have n2_ := HN.out.cell 2 _ rfl
  have n0F := far_cell hnl n0_; have n1F := far_cell hnl n1_; have n2F := far_cell hnl n2_
  have o1F := far_cell hol HO.out.c1; have o6F := far_cell hol HO.out.c6; have o8F := far_cell hol HO.out.c8
  clear n0_ n1_ n2_ hnl hol
  have HC1 := Lib.hid (fun x' => HFC.out (far V0 x') (HO.out.below (below_far V0 x')))
  have HC2 := Lib.hid (fun x' => HPL.out (far V0 x') (HO.out.below (below_far V0 x')) (HI.out.below (below_far V0 x')))
  generalize z.z = zz at *
  by_cases h3 : zz = 3
  · have HVF := Lib.hid (HV.out.trans (show _ = false by rw [h3]; rfl))
    have e1 : (zz != 3) = false := by simp [h3]
    have HH3 := Lib.hid h3; clear h3
    refine wp_region_far (by kernel_rfl) (by kernel_rfl) ?_
    repeat (any_goals (first | go_big_quiet_step (fail) | quiet_step (fail)))
    refine wpQuiet_nil ?_; intro V1 hw
    have hb : Below V0.heap.size V0 V1 := by obtain ⟨u, rfl⟩ := hw; exact below_far V0 u
    replace HB := Lib.hid (HB.out.trans (hb.mono HSZ.out))
    clear hw hb
    go_wp2
    go_ret
    exact ⟨ret_bool HVF.out.symm, by first | exact HB.out | (rw [HBE.out]; exact HB.out)⟩
  have e1 : (zz != 3) = true := by simp [h3]
  have e1b : (zz == 3) = false := by simp [h3]
  replace HV := Lib.hid (HV.out.trans (show _ = ((C == (z.h.length : Int)) && !(PL.toList == z.t.toList)) by rw [e1b]; rfl))
  clear h3 e1b
  cases h4 : (C == (z.h.length : Int)) with
  | false =>
    have HVF := Lib.hid (HV.out.trans (show _ = false by rw [h4]; rfl))
    refine wp_region_far (by kernel_rfl) (by kernel_rfl) ?_
    repeat (any_goals (first | go_big_quiet_step ((go_at_call 82; with_reducible exact call_far (HC1.out _))) | quiet_step ((go_at_call 82; with_reducible exact call_far (HC1.out _)))))
    refine wpQuiet_nil ?_; intro V1 hw
    have hb : Below V0.heap.size V0 V1 := by obtain ⟨u, rfl⟩ := hw; exact below_far V0 u
    replace HB := Lib.hid (HB.out.trans (hb.mono HSZ.out))
    clear hw hb
    go_wp2
    go_ret
    exact ⟨ret_bool HVF.out.symm, by first | exact HB.out | (rw [HBE.out]; exact HB.out)⟩
  | true =>
    replace HV := Lib.hid (HV.out.trans (show _ = !(PL.toList == z.t.toList) by rw [h4]; rfl))
    cases h5 : (PL.toList == z.t.toList) with
    | false =>
      have HVF := Lib.hid (HV.out.trans (show _ = true by rw [h5]; rfl))
      have e5 : (PL.toList != z.t.toList) = true := by unfold bne; rw [h5]; rfl
      refine wp_region_far (by kernel_rfl) (by kernel_rfl) ?_
      repeat (any_goals (first | go_big_quiet_step ((first | (go_at_call 82; with_reducible exact call_far (HC1.out _)) | (go_at_call 83; with_reducible exact call_far (HC2.out _)))) | quiet_step ((first | (go_at_call 82; with_reducible exact call_far (HC1.out _)) | (go_at_call 83; with_reducible exact call_far (HC2.out _))))))
      refine wpQuiet_nil ?_; intro V1 hw
      have hb : Below V0.heap.size V0 V1 := by obtain ⟨u, rfl⟩ := hw; exact below_far V0 u
      replace HB := Lib.hid (HB.out.trans (hb.mono HSZ.out))
      clear hw hb
      go_wp2
      go_ret
      exact ⟨ret_bool HVF.out.symm, by first | exact HB.out | (rw [HBE.out]; exact HB.out)⟩
    | true =>
      have HVF := Lib.hid (HV.out.trans (show _ = false by rw [h5]; rfl))
      have e5 : (PL.toList != z.t.toList) = false := by unfold bne; rw [h5]; rfl
      refine wp_region_far (by kernel_rfl) (by kernel_rfl) ?_
      repeat (any_goals (first | go_big_quiet_step ((first | (go_at_call 82; with_reducible exact call_far (HC1.out _)) | (go_at_call 83; with_reducible exact call_far (HC2.out _)))) | quiet_step ((first | (go_at_call 82; with_reducible exact call_far (HC1.out _)) | (go_at_call 83; with_reducible exact call_far (HC2.out _))))))
      refine wpQuiet_nil ?_; intro V1 hw
      have hb : Below V0.heap.size V0 V1 := by obtain ⟨u, rfl⟩ := hw; exact below_far V0 u
      replace HB := Lib.hid (HB.out.trans (hb.mono HSZ.out))
      clear hw hb
      go_wp2
      go_ret
      exact ⟨ret_bool HVF.out.symm, by first | exact HB.out | (rw [HBE.out]; exact HB.out)⟩
set_option maxRecDepth 100000 in
set_option maxHeartbeats 1500000 in
theorem planE_impl (id : Int) (x : Wp) (w : World) (hR : WorIn w x) (hz : WorSz x) :
    Calls Tryz.prog 20 #[worV x, .int .i64 id] w fun e w' => e = .returned (.int .i64 (planEB x.dat id)) ∧ Below w.heap.size w w' := by
  dsimp only [worV]
  have HL := Lib.hid (show x.dat.os.length = x.os.length by show (x.os.map OrR.d).length = _; simp)
  have HV := Lib.hid (show planEB x.dat id = (if (isWorB x.dat && inB id 1 x.os.length) = true then (match x.dat.os[id.toNat - 1]? with
    | some z => planO x.l z
    | none => -1) else -1) by unfold planEB; rw [HL.out]; rfl)
  have HG := Lib.hid (fun k (hk : k < x.os.length) => show x.dat.os[k]? = some (x.os[k]).d by
    show (x.os.map OrR.d)[k]? = _
    rw [List.getElem?_map, List.getElem?_eq_getElem hk]; rfl)
  have HZ := Lib.hid hz; clear hz
  have hbA := (Below.refl w.heap.size w).alloc (Nat.le_refl _) (.cells ⟨[.slice x.A0 x.l.length x.k0, .slice x.A1 x.zs.length x.k1, .int .i64 x.c, .slice x.A2 x.os.length x.k2, .slice x.A3 x.bs.length x.k3, .slice x.A4 x.cs.length x.k4, .int .i64 x.n, .slice x.A5 x.ss.length x.k5, .slice x.A6 x.sk.length x.k6, .int .i64 x.m]⟩ 42)
  have HX := Lib.hid (show WoAt (w.alloc (.cells ⟨[.slice x.A0 x.l.length x.k0, .slice x.A1 x.zs.length x.k1, .int .i64 x.c, .slice x.A2 x.os.length x.k2, .slice x.A3 x.bs.length x.k3, .slice x.A4 x.cs.length x.k4, .int .i64 x.n, .slice x.A5 x.ss.length x.k5, .slice x.A6 x.sk.length x.k6, .int .i64 x.m]⟩ 42)) w.heap.size x from ⟨Bx.new w _, hR.below hbA⟩)
  have HB := Lib.hid hbA
  have HSZ := Lib.hid hbA.size
  clear hbA hR
  have HI := Lib.hid (fun W (h : WorIn W x) => isw_impl x W h HZ.out)
  dsimp only [worV] at HI
  generalize planEB x.dat id = V at *
  cases q : isWorB x.dat with
  | false =>
    have HVF := Lib.hid (HV.out.trans (show _ = -1 by rw [q]; rfl))
    rw [q] at HI
    clear q
    generalize hB : w.heap.size = B at *
    have HBE := Lib.hid hB
    go_enter Tryz.func20, Tryz.ntmps20
    go_upto_region 1 with (fail)
    clear hB
    generalize (w.alloc (.cells ⟨[.slice x.A0 x.l.length x.k0, .slice x.A1 x.zs.length x.k1, .int .i64 x.c, .slice x.A2 x.os.length x.k2, .slice x.A3 x.bs.length x.k3, .slice x.A4 x.cs.length x.k4, .int .i64 x.n, .slice x.A5 x.ss.length x.k5, .slice x.A6 x.sk.length x.k6, .int .i64 x.m]⟩ 42)) = V0 at *
    have b0_ := HX.out.bx.cell 0 _ rfl; have b1_ := HX.out.bx.cell 1 _ rfl; have b2_ := HX.out.bx.cell 2 _ rfl; have b3_ := HX.out.bx.cell 3 _ rfl; have b4_ := HX.out.bx.cell 4 _ rfl; have b5_ := HX.out.bx.cell 5 _ rfl; have b6_ := HX.out.bx.cell 6 _ rfl; have b7_ := HX.out.bx.cell 7 _ rfl; have b8_ := HX.out.bx.cell 8 _ rfl; have b9_ := HX.out.bx.cell 9 _ rfl
    go_wp2_with fail
    clear b0_ b1_ b2_ b3_ b4_ b5_ b6_ b7_ b8_ b9_
    refine (HI.out V0 HX.out.i).mono ?_; rintro e V1 ⟨rfl, hb⟩
    replace HX := Lib.hid (HX.out.below hb); replace HB := Lib.hid (HB.out.trans (hb.mono HSZ.out)); replace HSZ := Lib.hid (Nat.le_trans HSZ.out hb.size); clear hb
    go_wp2
    go_ret
    exact ⟨ret_int HVF.out.symm, by first | exact HB.out | (rw [HBE.out]; exact HB.out)⟩
  | true =>
    replace HV := Lib.hid (HV.out.trans (show _ = (if inB id 1 x.os.length = true then (match x.dat.os[id.toNat - 1]? with
      | some z => planO x.l z
      | none => -1) else -1) by rw [q, Bool.true_and]))
    rw [q] at HI
    have HOK := Lib.hid (fun k (hk : k < x.os.length) => ord_ok (isw_ord q hk))
    clear q
    have HIN := Lib.hid (show inB id 1 x.os.length = (decide (1 ≤ id) && decide (id ≤ (x.os.length : Int))) by unfold inB; rw [Bool.decide_and])
    generalize hB : w.heap.size = B at *
    have HBE := Lib.hid hB
    go_enter Tryz.func20, Tryz.ntmps20
    go_upto_region 1 with (fail)
    clear hB
    generalize (w.alloc (.cells ⟨[.slice x.A0 x.l.length x.k0, .slice x.A1 x.zs.length x.k1, .int .i64 x.c, .slice x.A2 x.os.length x.k2, .slice x.A3 x.bs.length x.k3, .slice x.A4 x.cs.length x.k4, .int .i64 x.n, .slice x.A5 x.ss.length x.k5, .slice x.A6 x.sk.length x.k6, .int .i64 x.m]⟩ 42)) = V0 at *
    have b0_ := HX.out.bx.cell 0 _ rfl; have b1_ := HX.out.bx.cell 1 _ rfl; have b2_ := HX.out.bx.cell 2 _ rfl; have b3_ := HX.out.bx.cell 3 _ rfl; have b4_ := HX.out.bx.cell 4 _ rfl; have b5_ := HX.out.bx.cell 5 _ rfl; have b6_ := HX.out.bx.cell 6 _ rfl; have b7_ := HX.out.bx.cell 7 _ rfl; have b8_ := HX.out.bx.cell 8 _ rfl; have b9_ := HX.out.bx.cell 9 _ rfl
    go_wp2_with fail
    clear b0_ b1_ b2_ b3_ b4_ b5_ b6_ b7_ b8_ b9_
    refine (HI.out V0 HX.out.i).mono ?_; rintro e V1 ⟨rfl, hb⟩
    replace HX := Lib.hid (HX.out.below hb); replace HB := Lib.hid (HB.out.trans (hb.mono HSZ.out)); replace HSZ := Lib.hid (Nat.le_trans HSZ.out hb.size); clear hb
    have b3_ := HX.out.bx.cell 3 _ rfl
    by_cases h1 : 1 ≤ id
    rotate_left
    · have HVF := Lib.hid (HV.out.trans (if_neg (by rw [HIN.out, decide_eq_false h1]; exact Bool.false_ne_true)))
      have d1 : id < 1 := by omega
      go_wp2
      go_ret
      exact ⟨ret_int HVF.out.symm, by first | exact HB.out | (rw [HBE.out]; exact HB.out)⟩
    have d1 : ¬ id < 1 := by omega
    by_cases h2 : id ≤ (x.os.length : Int)
    rotate_left
    · have HVF := Lib.hid (HV.out.trans (if_neg (by rw [HIN.out, decide_eq_false h2, Bool.and_false]; exact Bool.false_ne_true)))
      have d2 : (x.os.length : Int) < id := by omega
      go_wp2
      go_ret
      exact ⟨ret_int HVF.out.symm, by first | exact HB.out | (rw [HBE.out]; exact HB.out)⟩
    have d2 : ¬ (x.os.length : Int) < id := by omega
    replace HV := Lib.hid (HV.out.trans (if_pos (by rw [HIN.out, decide_eq_true h1, decide_eq_true h2]; rfl)))
    obtain ⟨k, hk⟩ : ∃ k : Nat, id = (k : Int) + 1 := ⟨id.toNat - 1, by omega⟩
    subst hk
    have hkl : k < x.os.length := by omega
    have hkt : (((k : Int) + 1).toNat - 1) = k := by omega
    rw [hkt, HG.out k hkl] at HV
    clear hkt
    have hok := HOK.out k hkl
    have hob := HZ.out.way _ (List.getElem_mem hkl)
    obtain ⟨g, hAe, hoa⟩ := orAt_of HX.out.i.os HX.out.i.way k hkl
    rw [hAe] at b3_
    clear hAe
    have HV2 := Lib.hid (show (match some (x.os[k]).d with
      | some z => planO x.l z
      | none => -1) = planO x.l (x.os[k]).d from rfl)
    rw [HV2.out] at HV
    clear HV2
    have HO := Lib.hid hoa; clear hoa
    generalize x.os[k] = z at *
    have HK := Lib.hid hok; have HM := Lib.hid hob
    have HIS := Lib.hid (fun W (h' : OrAt W g (k * 11) z) (hi' : WorIn W x) => is_str z g (k * 11) x W h' hi' HK.out HM.out)
    have HWE := Lib.hid (fun W (h' : OrAt W g (k * 11) z) (hi' : WorIn W x) => ways_impl (-1) z.A z.k z.h x.A0 x.k0 x.l x.A1 x.k1 x.zs x.c W hi'.l hi'.zs h'.way HZ.out.ls HZ.out.l HZ.out.zs HM.out)
    rw [show wayE x.l x.zs x.c z.h (-1) = lastE x.l (-1) z.h from wayE_yes HK.out.trips] at HWE
    have HVP := Lib.hid (show planO x.l z.d = (if strB x.l z.d = true then -1 else lastE x.l (-1) z.h) from rfl)
    generalize planO x.l z.d = PV at *
    generalize strB x.l z.d = SB at *
    generalize lastE x.l (-1) z.h = LE at *
    clear hok hob h1 h2
    have hw1 : (k : Int) + 1 - 1 = (k : Int) := by omega
    have hosb : x.os.length ≤ 1048576 := HZ.out.os
    have hkb : k ≤ 1048576 := by omega
    have hki : (k : Int) < (x.os.length : Int) := by omega
    have hww : wrap64 (k : Int) = (k : Int) := by unfold wrap64; omega
    have b0_ := HX.out.bx.cell 0 _ rfl; have b1_ := HX.out.bx.cell 1 _ rfl; have b2_ := HX.out.bx.cell 2 _ rfl
    go_wp2_with fail
    clear b0_ b1_ b2_ b3_
    refine (HIS.out V1 HO.out HX.out.i).mono ?_; rintro e V2 ⟨rfl, hb⟩
    replace HO := Lib.hid (HO.out.below hb)
    replace HX := Lib.hid (HX.out.below hb); replace HB := Lib.hid (HB.out.trans (hb.mono HSZ.out)); replace HSZ := Lib.hid (Nat.le_trans HSZ.out hb.size); clear hb
    cases SB with
    | true =>
      have HVF := Lib.hid (HV.out.trans (HVP.out.trans rfl))
      go_wp2
      go_ret
      exact ⟨ret_int HVF.out.symm, by first | exact HB.out | (rw [HBE.out]; exact HB.out)⟩
    | false =>
      have HVF := Lib.hid (HV.out.trans (HVP.out.trans rfl))
      go_upto_region 6 with (fail)
      have b0_ := HX.out.bx.cell 0 _ rfl; have b1_ := HX.out.bx.cell 1 _ rfl; have b2_ := HX.out.bx.cell 2 _ rfl
      have hxl := HX.out.bx.lt; have hol := HO.out.lt
      have b0F := far_cell hxl b0_; have b1F := far_cell hxl b1_; have b2F := far_cell hxl b2_
      have o6F := far_cell hol HO.out.c6
      clear b0_ b1_ b2_ hxl hol
      have HC := Lib.hid (fun x' => HWE.out (far V2 x') (HO.out.below (below_far V2 x')) (HX.out.below (below_far V2 x')).i)
      refine wp_region_far (by kernel_rfl) (by kernel_rfl) ?_
      repeat (any_goals (first | go_big_quiet_step ((go_at_call 54; with_reducible exact call_far (HC.out _))) | quiet_step ((go_at_call 54; with_reducible exact call_far (HC.out _)))))
      refine wpQuiet_nil ?_; intro V3 hw
      have hb : Below V2.heap.size V2 V3 := by obtain ⟨u, rfl⟩ := hw; exact below_far V2 u
      replace HB := Lib.hid (HB.out.trans (hb.mono HSZ.out))
      clear hw hb
      go_wp2
      go_ret
      exact ⟨ret_int HVF.out.symm, by first | exact HB.out | (rw [HBE.out]; exact HB.out)⟩
end Go.Proofs.YtadcmngooobeiabGreat

/- The reference's l10State. Written by mk/isw9.py. -/
import Derived.Test.YtadcmngooobeiabGreatIswT
import Derived.Test.YtadcmngooobeiabGreatIswP
namespace Go.Proofs.YtadcmngooobeiabGreat
open Go.RowKit
theorem ordPl_pos {l : List Lg} {z : OrRD} {q : Nat} (h : 0 < q) : ordPl l z q = (lgAt l (z.h.getD (q - 1) ⟨0, 0⟩).g).t := by
  obtain ⟨j, rfl⟩ : ∃ j, q = j + 1 := ⟨q - 1, by omega⟩
  rfl
theorem gone_pos {l : List Lg} {now : Int} {z : OrRD} (h : ¬ z.g = 0) : goneB l now z = decide (trE l (z.h.getD (z.g.toNat - 1) ⟨0, 0⟩) ≤ now) := by
  unfold goneB; rw [decide_eq_false h, Bool.false_or]
theorem gone_zero {l : List Lg} {now : Int} {z : OrRD} (h : z.g = 0) : goneB l now z = true := by
  unfold goneB; rw [decide_eq_true h]; rfl
theorem beq_tr {a b c : ByteArray} (h : (b.toList == c.toList) = true) : (a.toList == b.toList) = (a.toList == c.toList) := by rw [beq_iff_eq.1 h]
set_option maxRecDepth 100000 in
set_option maxHeartbeats 16000000 in
theorem state_spec (z : OrR) (x : Wp) (now : Int) (w : World) (hA : InK 6 lgC w x.A0 x.l) (hD : IntsIn w x.A1 x.zs) (hw : InK 2 tpC w z.A z.h) (hn : x.l.length ≤ 1048576) (hm : z.h.length ≤ 1048576) (hg : 0 ≤ z.g ∧ z.g ≤ z.h.length) (hT : tripsB x.l x.zs x.c z.h = true) :
    Calls Tryz.prog 96 #[.agg #[.slice x.A0 x.l.length x.k0, .slice x.A1 x.zs.length x.k1, .int .i64 x.c], .agg #[.string z.f, .string z.t, .int .i64 z.s, .int .i64 z.m, .int .i64 z.a, .int .i64 z.u, .slice z.A z.h.length z.k, .int .i64 z.g, .int .i64 z.z, .string z.p, .int .i64 z.e], .int .i64 now] w fun e w' => e = .returned (.bool (goneB x.l now z.d && stateB x.l now z.d)) ∧ Below w.heap.size w w' := by
  obtain ⟨zf, zt, zs, zm, za, zu, zh, zg, zz, zp, ze, zA, zk⟩ := z
  dsimp only [OrR.d] at hm hg hT hw ⊢
  obtain ⟨q, rfl⟩ : ∃ q : Nat, zg = (q : Int) := ⟨zg.toNat, by omega⟩
  have hq : q ≤ zh.length := by omega
  clear hg
  have HTR := Lib.hid (tripsB_iff.1 hT); clear hT
  have HN := Lib.hid hn
  have HSW := Lib.hid (fun (h : zz = 1) => show stateB x.l now ⟨zf, zt, zs, zm, za, zu, zh, (q : Int), zz, zp, ze⟩ = ((ze == 0) && ((zp.toList == (ordPl x.l ⟨zf, zt, zs, zm, za, zu, zh, (q : Int), zz, zp, ze⟩ q).toList) && (!((ordPl x.l ⟨zf, zt, zs, zm, za, zu, zh, (q : Int), zz, zp, ze⟩ q).toList == zt.toList) && ((((q : Int) == (zh.length : Int)) || decide (now < trS x.l (zh.getD q ⟨0, 0⟩))))))) from if_pos h)
  have HSR := Lib.hid (fun (h1 : ¬ zz = 1) (h : zz = 2) => show stateB x.l now ⟨zf, zt, zs, zm, za, zu, zh, (q : Int), zz, zp, ze⟩ = ((ze == 0) && ((zp.toList == (⟨#[]⟩ : ByteArray).toList) && (!((q : Int) == (zh.length : Int)) && (decide (trS x.l (zh.getD q ⟨0, 0⟩) ≤ now) && (decide (now < trE x.l (zh.getD q ⟨0, 0⟩))))))) from (if_neg h1).trans (if_pos h))
  have HSD := Lib.hid (fun (h1 : ¬ zz = 1) (h2 : ¬ zz = 2) (h : zz = 3) => show stateB x.l now ⟨zf, zt, zs, zm, za, zu, zh, (q : Int), zz, zp, ze⟩ = (decide (0 < (q : Int)) && (((q : Int) == (zh.length : Int)) && ((zp.toList == (ordPl x.l ⟨zf, zt, zs, zm, za, zu, zh, (q : Int), zz, zp, ze⟩ q).toList) && (((ordPl x.l ⟨zf, zt, zs, zm, za, zu, zh, (q : Int), zz, zp, ze⟩ q).toList == zt.toList) && ((ze == trE x.l (zh.getD (q - 1) ⟨0, 0⟩))))))) from (if_neg h1).trans ((if_neg h2).trans (if_pos h)))
  have HSN := Lib.hid (fun (h1 : ¬ zz = 1) (h2 : ¬ zz = 2) (h3 : ¬ zz = 3) => show stateB x.l now ⟨zf, zt, zs, zm, za, zu, zh, (q : Int), zz, zp, ze⟩ = false from (if_neg h1).trans ((if_neg h2).trans (if_neg h3)))
  have HGZ := Lib.hid (fun (h : (q : Int) = 0) => show goneB x.l now ⟨zf, zt, zs, zm, za, zu, zh, (q : Int), zz, zp, ze⟩ = true from gone_zero h)
  have HGP := Lib.hid (fun (h : ¬ (q : Int) = 0) => show goneB x.l now ⟨zf, zt, zs, zm, za, zu, zh, (q : Int), zz, zp, ze⟩ = decide (trE x.l (zh.getD (q - 1) ⟨0, 0⟩) ≤ now) from gone_pos h)
  have HPP := Lib.hid (fun (h : 0 < q) => show (ordPl x.l ⟨zf, zt, zs, zm, za, zu, zh, (q : Int), zz, zp, ze⟩ q) = (lgAt x.l (zh.getD (q - 1) ⟨0, 0⟩).g).t from ordPl_pos h)
  have HPZ := Lib.hid (fun (h : q = 0) => show (ordPl x.l ⟨zf, zt, zs, zm, za, zu, zh, (q : Int), zz, zp, ze⟩ q) = zf by subst h; rfl)
  have hV : ∃ V, V = (goneB x.l now ⟨zf, zt, zs, zm, za, zu, zh, (q : Int), zz, zp, ze⟩ && stateB x.l now ⟨zf, zt, zs, zm, za, zu, zh, (q : Int), zz, zp, ze⟩) := ⟨_, rfl⟩
  obtain ⟨V, hV⟩ := hV
  rw [← hV]
  have HV := Lib.hid hV; clear hV
  generalize goneB x.l now ⟨zf, zt, zs, zm, za, zu, zh, (q : Int), zz, zp, ze⟩ = GN at *
  generalize stateB x.l now ⟨zf, zt, zs, zm, za, zu, zh, (q : Int), zz, zp, ze⟩ = ST at *
  generalize (ordPl x.l ⟨zf, zt, zs, zm, za, zu, zh, (q : Int), zz, zp, ze⟩ q) = PL at *
  have hb0 : Below w.heap.size w ((w.alloc (.cells ⟨[.slice x.A0 x.l.length x.k0, .slice x.A1 x.zs.length x.k1, .int .i64 x.c]⟩ 36)).alloc (.cells ⟨[.string zf, .string zt, .int .i64 zs, .int .i64 zm, .int .i64 za, .int .i64 zu, .slice zA zh.length zk, .int .i64 (q : Int), .int .i64 zz, .string zp, .int .i64 ze]⟩ 65)) := ((Below.refl _ _).alloc (Nat.le_refl _) _).alloc (by simp) _
  have e1 : (w.alloc (.cells ⟨[.slice x.A0 x.l.length x.k0, .slice x.A1 x.zs.length x.k1, .int .i64 x.c]⟩ 36)).heap.size = w.heap.size + 1 := by simp
  have FN := Lib.hid ((Bx.new (T := 36) w [.slice x.A0 x.l.length x.k0, .slice x.A1 x.zs.length x.k1, .int .i64 x.c]).alloc (.cells ⟨[.string zf, .string zt, .int .i64 zs, .int .i64 zm, .int .i64 za, .int .i64 zu, .slice zA zh.length zk, .int .i64 (q : Int), .int .i64 zz, .string zp, .int .i64 ze]⟩ 65))
  have FO := Lib.hid (show Bx 65 ((w.alloc (.cells ⟨[.slice x.A0 x.l.length x.k0, .slice x.A1 x.zs.length x.k1, .int .i64 x.c]⟩ 36)).alloc (.cells ⟨[.string zf, .string zt, .int .i64 zs, .int .i64 zm, .int .i64 za, .int .i64 zu, .slice zA zh.length zk, .int .i64 (q : Int), .int .i64 zz, .string zp, .int .i64 ze]⟩ 65)) (w.heap.size + 1) [.string zf, .string zt, .int .i64 zs, .int .i64 zm, .int .i64 za, .int .i64 zu, .slice zA zh.length zk, .int .i64 (q : Int), .int .i64 zz, .string zp, .int .i64 ze] by rw [← e1]; exact Bx.new _ _)
  have HA := Lib.hid (hA.below hb0); have HD := Lib.hid (hD.below hb0); have HW := Lib.hid (hw.below hb0); have HB := Lib.hid hb0; have HSZ := Lib.hid hb0.size
  clear hA hD hw hb0 e1
  generalize hG : w.heap.size = G at *
  have HGE := Lib.hid hG
  go_enter Tryz.func96, Tryz.ntmps96
  go_upto_region 1 with (fail)
  clear hG
  generalize (w.alloc (.cells ⟨[.slice x.A0 x.l.length x.k0, .slice x.A1 x.zs.length x.k1, .int .i64 x.c]⟩ 36)).alloc (.cells ⟨[.string zf, .string zt, .int .i64 zs, .int .i64 zm, .int .i64 za, .int .i64 zu, .slice zA zh.length zk, .int .i64 (q : Int), .int .i64 zz, .string zp, .int .i64 ze]⟩ 65) = V0 at *
  by_cases hq0 : q = 0
  · have hqn : ¬ 0 < q := by omega
    have HQP := Lib.hid hqn
    have HQZ := Lib.hid (show decide (0 < (q : Int)) = false from decide_eq_false (by omega))
    have HV2 := Lib.hid (HV.out.trans (show _ = ST by rw [HGZ.out (by omega)]; rfl))
    rw [HPZ.out hq0] at HSW HSD
    clear HGZ HGP HPP HPZ HV
    replace hq0 := Lib.hid hq0
    have o0_ := FO.out.cell 0 _ rfl
    have o7_ := FO.out.cell 7 _ rfl
    go_upto_region 6 with (fail)
    clear o0_ o7_ hqn
    cases hG : ((q : Int) == (zh.length : Int)) with
    | true =>
      have hql : q = zh.length := by have := beq_iff_eq.1 hG; omega
      have HQL := Lib.hid hql; clear hql
      have d7 : decide (q < zh.length) = false := decide_eq_false (by have := HQL.out; omega)
      have d7b : decide ((q : Int) < (zh.length : Int)) = false := decide_eq_false (by have := HQL.out; omega)
      have HGT := Lib.hid hG
      have o8_ := FO.out.cell 8 _ rfl
      by_cases s1 : zz = 1
      · have d1 : (zz == 1) = true := by simp [s1]
        replace HV2 := Lib.hid (HV2.out.trans (HSW.out s1)); clear s1 HSW HSR HSD HSN
        go_wp2_with fail
        clear o8_ d1
        have n0_ := FN.out.cell 0 _ rfl
        have n1_ := FN.out.cell 1 _ rfl
        have n2_ := FN.out.cell 2 _ rfl
        have o1_ := FO.out.cell 1 _ rfl
        have o6_ := FO.out.cell 6 _ rfl
        have o7_ := FO.out.cell 7 _ rfl
        have o9_ := FO.out.cell 9 _ rfl
        have o10_ := FO.out.cell 10 _ rfl
        have hnl := FN.out.lt; have hol := FO.out.lt
        have n0F := far_cell hnl n0_
        have n1F := far_cell hnl n1_
        have n2F := far_cell hnl n2_
        have o1F := far_cell hol o1_
        have o6F := far_cell hol o6_
        have o7F := far_cell hol o7_
        have o9F := far_cell hol o9_
        have o10F := far_cell hol o10_
        clear n0_ n1_ n2_ o1_ o6_ o7_ o9_ o10_ hnl hol
        cases k0 : (zp.toList == zf.toList) with
        | false =>
          have HVF := Lib.hid (HV2.out.trans (show _ = false by repeat (first | simp only [k0] | simp only [HGT.out] | simp only [Bool.true_and] | simp only [Bool.and_true] | simp only [Bool.false_and] | simp only [Bool.and_false] | simp only [Bool.true_or] | simp only [Bool.false_or])))
          refine wp_region_far (by kernel_rfl) (by kernel_rfl) ?_
          repeat (any_goals (first | go_big_quiet_step (fail) | quiet_step (fail)))
          refine wpQuiet_nil ?_; intro wz hw
          have hb : Below V0.heap.size V0 wz := by obtain ⟨u, rfl⟩ := hw; exact below_far V0 u
          replace HB := Lib.hid (HB.out.trans (hb.mono HSZ.out)); replace HSZ := Lib.hid (Nat.le_trans HSZ.out hb.size); replace HA := Lib.hid (HA.out.below hb); replace HD := Lib.hid (HD.out.below hb); replace HW := Lib.hid (HW.out.below hb); replace FN := Lib.hid (FN.out.below hb); replace FO := Lib.hid (FO.out.below hb)
          clear hw hb
          go_wp2
          go_ret
          exact ⟨ret_bool HVF.out.symm, by first | exact HB.out | (rw [HGE.out]; exact HB.out)⟩
        | true =>
          cases k1 : !(zf.toList == zt.toList) with
          | false =>
            have kn : (zf.toList != zt.toList) = false := k1
            have HVF := Lib.hid (HV2.out.trans (show _ = false by repeat (first | simp only [k0] | simp only [k1] | simp only [HGT.out] | simp only [Bool.true_and] | simp only [Bool.and_true] | simp only [Bool.false_and] | simp only [Bool.and_false] | simp only [Bool.true_or] | simp only [Bool.false_or])))
            refine wp_region_far (by kernel_rfl) (by kernel_rfl) ?_
            repeat (any_goals (first | go_big_quiet_step (fail) | quiet_step (fail)))
            refine wpQuiet_nil ?_; intro wz hw
            have hb : Below V0.heap.size V0 wz := by obtain ⟨u, rfl⟩ := hw; exact below_far V0 u
            replace HB := Lib.hid (HB.out.trans (hb.mono HSZ.out)); replace HSZ := Lib.hid (Nat.le_trans HSZ.out hb.size); replace HA := Lib.hid (HA.out.below hb); replace HD := Lib.hid (HD.out.below hb); replace HW := Lib.hid (HW.out.below hb); replace FN := Lib.hid (FN.out.below hb); replace FO := Lib.hid (FO.out.below hb)
            clear hw hb
            go_wp2
            go_ret
            exact ⟨ret_bool HVF.out.symm, by first | exact HB.out | (rw [HGE.out]; exact HB.out)⟩
          | true =>
            have kn : (zf.toList != zt.toList) = true := k1
            cases k2 : (ze == 0) with
            | false =>
              have HVF := Lib.hid (HV2.out.trans (show _ = false by repeat (first | simp only [k0] | simp only [k1] | simp only [k2] | simp only [HGT.out] | simp only [Bool.true_and] | simp only [Bool.and_true] | simp only [Bool.false_and] | simp only [Bool.and_false] | simp only [Bool.true_or] | simp only [Bool.false_or])))
              refine wp_region_far (by kernel_rfl) (by kernel_rfl) ?_
              repeat (any_goals (first | go_big_quiet_step (fail) | quiet_step (fail)))
              refine wpQuiet_nil ?_; intro wz hw
              have hb : Below V0.heap.size V0 wz := by obtain ⟨u, rfl⟩ := hw; exact below_far V0 u
              replace HB := Lib.hid (HB.out.trans (hb.mono HSZ.out)); replace HSZ := Lib.hid (Nat.le_trans HSZ.out hb.size); replace HA := Lib.hid (HA.out.below hb); replace HD := Lib.hid (HD.out.below hb); replace HW := Lib.hid (HW.out.below hb); replace FN := Lib.hid (FN.out.below hb); replace FO := Lib.hid (FO.out.below hb)
              clear hw hb
              go_wp2
              go_ret
              exact ⟨ret_bool HVF.out.symm, by first | exact HB.out | (rw [HGE.out]; exact HB.out)⟩
            | true =>
              have HVF := Lib.hid (HV2.out.trans (show _ = true by repeat (first | simp only [k0] | simp only [k1] | simp only [k2] | simp only [HGT.out] | simp only [Bool.true_and] | simp only [Bool.and_true] | simp only [Bool.false_and] | simp only [Bool.and_false] | simp only [Bool.true_or] | simp only [Bool.false_or])))
              refine wp_region_far (by kernel_rfl) (by kernel_rfl) ?_
              repeat (any_goals (first | go_big_quiet_step (fail) | quiet_step (fail)))
              refine wpQuiet_nil ?_; intro wz hw
              have hb : Below V0.heap.size V0 wz := by obtain ⟨u, rfl⟩ := hw; exact below_far V0 u
              replace HB := Lib.hid (HB.out.trans (hb.mono HSZ.out)); replace HSZ := Lib.hid (Nat.le_trans HSZ.out hb.size); replace HA := Lib.hid (HA.out.below hb); replace HD := Lib.hid (HD.out.below hb); replace HW := Lib.hid (HW.out.below hb); replace FN := Lib.hid (FN.out.below hb); replace FO := Lib.hid (FO.out.below hb)
              clear hw hb
              go_wp2
              go_ret
              exact ⟨ret_bool HVF.out.symm, by first | exact HB.out | (rw [HGE.out]; exact HB.out)⟩
      have d1 : (zz == 1) = false := by simp [s1]
      by_cases s2 : zz = 2
      · have d2 : (zz == 2) = true := by simp [s2]
        replace HV2 := Lib.hid (HV2.out.trans (HSR.out s1 s2)); clear s1 s2 HSW HSR HSD HSN
        go_wp2_with fail
        clear o8_ d1 d2
        have n0_ := FN.out.cell 0 _ rfl
        have n1_ := FN.out.cell 1 _ rfl
        have n2_ := FN.out.cell 2 _ rfl
        have o1_ := FO.out.cell 1 _ rfl
        have o6_ := FO.out.cell 6 _ rfl
        have o7_ := FO.out.cell 7 _ rfl
        have o9_ := FO.out.cell 9 _ rfl
        have o10_ := FO.out.cell 10 _ rfl
        have hnl := FN.out.lt; have hol := FO.out.lt
        have n0F := far_cell hnl n0_
        have n1F := far_cell hnl n1_
        have n2F := far_cell hnl n2_
        have o1F := far_cell hol o1_
        have o6F := far_cell hol o6_
        have o7F := far_cell hol o7_
        have o9F := far_cell hol o9_
        have o10F := far_cell hol o10_
        clear n0_ n1_ n2_ o1_ o6_ o7_ o9_ o10_ hnl hol
        cases k0 : (zp.toList == (⟨#[]⟩ : ByteArray).toList) with
        | false =>
          have e0 : (⟨#[]⟩ : ByteArray).toList = [] := by rw [ByteArray.toList_eq]
          have ke : (zp.toList == []) = false := by rw [← e0]; exact k0
          clear e0
          have HVF := Lib.hid (HV2.out.trans (show _ = false by repeat (first | simp only [k0] | simp only [HGT.out] | simp only [Bool.true_and] | simp only [Bool.and_true] | simp only [Bool.false_and] | simp only [Bool.and_false] | simp only [Bool.not_true] | simp only [Bool.not_false])))
          refine wp_region_far (by kernel_rfl) (by kernel_rfl) ?_
          repeat (any_goals (first | go_big_quiet_step (fail) | quiet_step (fail)))
          refine wpQuiet_nil ?_; intro wz hw
          have hb : Below V0.heap.size V0 wz := by obtain ⟨u, rfl⟩ := hw; exact below_far V0 u
          replace HB := Lib.hid (HB.out.trans (hb.mono HSZ.out)); replace HSZ := Lib.hid (Nat.le_trans HSZ.out hb.size); replace HA := Lib.hid (HA.out.below hb); replace HD := Lib.hid (HD.out.below hb); replace HW := Lib.hid (HW.out.below hb); replace FN := Lib.hid (FN.out.below hb); replace FO := Lib.hid (FO.out.below hb)
          clear hw hb
          go_wp2
          go_ret
          exact ⟨ret_bool HVF.out.symm, by first | exact HB.out | (rw [HGE.out]; exact HB.out)⟩
        | true =>
          have e0 : (⟨#[]⟩ : ByteArray).toList = [] := by rw [ByteArray.toList_eq]
          have ke : (zp.toList == []) = true := by rw [← e0]; exact k0
          clear e0
          cases k1 : (ze == 0) with
          | false =>
            have HVF := Lib.hid (HV2.out.trans (show _ = false by repeat (first | simp only [k0] | simp only [k1] | simp only [HGT.out] | simp only [Bool.true_and] | simp only [Bool.and_true] | simp only [Bool.false_and] | simp only [Bool.and_false] | simp only [Bool.not_true] | simp only [Bool.not_false])))
            refine wp_region_far (by kernel_rfl) (by kernel_rfl) ?_
            repeat (any_goals (first | go_big_quiet_step (fail) | quiet_step (fail)))
            refine wpQuiet_nil ?_; intro wz hw
            have hb : Below V0.heap.size V0 wz := by obtain ⟨u, rfl⟩ := hw; exact below_far V0 u
            replace HB := Lib.hid (HB.out.trans (hb.mono HSZ.out)); replace HSZ := Lib.hid (Nat.le_trans HSZ.out hb.size); replace HA := Lib.hid (HA.out.below hb); replace HD := Lib.hid (HD.out.below hb); replace HW := Lib.hid (HW.out.below hb); replace FN := Lib.hid (FN.out.below hb); replace FO := Lib.hid (FO.out.below hb)
            clear hw hb
            go_wp2
            go_ret
            exact ⟨ret_bool HVF.out.symm, by first | exact HB.out | (rw [HGE.out]; exact HB.out)⟩
          | true =>
            have HVF := Lib.hid (HV2.out.trans (show _ = false by repeat (first | simp only [k0] | simp only [k1] | simp only [HGT.out] | simp only [Bool.true_and] | simp only [Bool.and_true] | simp only [Bool.false_and] | simp only [Bool.and_false] | simp only [Bool.not_true] | simp only [Bool.not_false])))
            refine wp_region_far (by kernel_rfl) (by kernel_rfl) ?_
            repeat (any_goals (first | go_big_quiet_step (fail) | quiet_step (fail)))
            refine wpQuiet_nil ?_; intro wz hw
            have hb : Below V0.heap.size V0 wz := by obtain ⟨u, rfl⟩ := hw; exact below_far V0 u
            replace HB := Lib.hid (HB.out.trans (hb.mono HSZ.out)); replace HSZ := Lib.hid (Nat.le_trans HSZ.out hb.size); replace HA := Lib.hid (HA.out.below hb); replace HD := Lib.hid (HD.out.below hb); replace HW := Lib.hid (HW.out.below hb); replace FN := Lib.hid (FN.out.below hb); replace FO := Lib.hid (FO.out.below hb)
            clear hw hb
            go_wp2
            go_ret
            exact ⟨ret_bool HVF.out.symm, by first | exact HB.out | (rw [HGE.out]; exact HB.out)⟩
      have d2 : (zz == 2) = false := by simp [s2]
      by_cases s3 : zz = 3
      · have d3 : (zz == 3) = true := by simp [s3]
        replace HV2 := Lib.hid (HV2.out.trans (HSD.out s1 s2 s3)); clear s1 s2 s3 HSW HSR HSD HSN
        go_wp2_with fail
        clear o8_ d1 d2 d3
        have n0_ := FN.out.cell 0 _ rfl
        have n1_ := FN.out.cell 1 _ rfl
        have n2_ := FN.out.cell 2 _ rfl
        have o1_ := FO.out.cell 1 _ rfl
        have o6_ := FO.out.cell 6 _ rfl
        have o7_ := FO.out.cell 7 _ rfl
        have o9_ := FO.out.cell 9 _ rfl
        have o10_ := FO.out.cell 10 _ rfl
        have hnl := FN.out.lt; have hol := FO.out.lt
        have n0F := far_cell hnl n0_
        have n1F := far_cell hnl n1_
        have n2F := far_cell hnl n2_
        have o1F := far_cell hol o1_
        have o6F := far_cell hol o6_
        have o7F := far_cell hol o7_
        have o9F := far_cell hol o9_
        have o10F := far_cell hol o10_
        clear n0_ n1_ n2_ o1_ o6_ o7_ o9_ o10_ hnl hol
        have hqn : ¬ 0 < q := HQP.out
        cases k0 : (zp.toList == zt.toList) with
        | false =>
          have HVF := Lib.hid (HV2.out.trans (show _ = false by cases kk : (zf.toList == zt.toList) with | true => (rw [beq_tr kk]; repeat (first | simp only [k0] | simp only [HQZ.out] | simp only [HGT.out] | simp only [Bool.true_and] | simp only [Bool.false_and] | simp only [Bool.and_false])) | false => repeat (first | simp only [HQZ.out] | simp only [HGT.out] | simp only [Bool.true_and] | simp only [Bool.false_and] | simp only [Bool.and_false])))
          refine wp_region_far (by kernel_rfl) (by kernel_rfl) ?_
          repeat (any_goals (first | go_big_quiet_step (fail) | quiet_step (fail)))
          refine wpQuiet_nil ?_; intro wz hw
          have hb : Below V0.heap.size V0 wz := by obtain ⟨u, rfl⟩ := hw; exact below_far V0 u
          replace HB := Lib.hid (HB.out.trans (hb.mono HSZ.out)); replace HSZ := Lib.hid (Nat.le_trans HSZ.out hb.size); replace HA := Lib.hid (HA.out.below hb); replace HD := Lib.hid (HD.out.below hb); replace HW := Lib.hid (HW.out.below hb); replace FN := Lib.hid (FN.out.below hb); replace FO := Lib.hid (FO.out.below hb)
          clear hw hb
          go_wp2
          go_ret
          exact ⟨ret_bool HVF.out.symm, by first | exact HB.out | (rw [HGE.out]; exact HB.out)⟩
        | true =>
          cases k1 : (zf.toList == zt.toList) with
          | false =>
            have HVF := Lib.hid (HV2.out.trans (show _ = false by repeat (first | simp only [k1] | simp only [HQZ.out] | simp only [HGT.out] | simp only [Bool.true_and] | simp only [Bool.false_and] | simp only [Bool.and_false])))
            refine wp_region_far (by kernel_rfl) (by kernel_rfl) ?_
            repeat (any_goals (first | go_big_quiet_step (fail) | quiet_step (fail)))
            refine wpQuiet_nil ?_; intro wz hw
            have hb : Below V0.heap.size V0 wz := by obtain ⟨u, rfl⟩ := hw; exact below_far V0 u
            replace HB := Lib.hid (HB.out.trans (hb.mono HSZ.out)); replace HSZ := Lib.hid (Nat.le_trans HSZ.out hb.size); replace HA := Lib.hid (HA.out.below hb); replace HD := Lib.hid (HD.out.below hb); replace HW := Lib.hid (HW.out.below hb); replace FN := Lib.hid (FN.out.below hb); replace FO := Lib.hid (FO.out.below hb)
            clear hw hb
            go_wp2
            go_ret
            exact ⟨ret_bool HVF.out.symm, by first | exact HB.out | (rw [HGE.out]; exact HB.out)⟩
          | true =>
            have HVF := Lib.hid (HV2.out.trans (show _ = false by rw [beq_tr k1]; repeat (first | simp only [k0] | simp only [k1] | simp only [HQZ.out] | simp only [HGT.out] | simp only [Bool.true_and] | simp only [Bool.and_true] | simp only [Bool.false_and] | simp only [Bool.and_false])))
            refine wp_region_far (by kernel_rfl) (by kernel_rfl) ?_
            repeat (any_goals (first | go_big_quiet_step (fail) | quiet_step (fail)))
            refine wpQuiet_nil ?_; intro wz hw
            have hb : Below V0.heap.size V0 wz := by obtain ⟨u, rfl⟩ := hw; exact below_far V0 u
            replace HB := Lib.hid (HB.out.trans (hb.mono HSZ.out)); replace HSZ := Lib.hid (Nat.le_trans HSZ.out hb.size); replace HA := Lib.hid (HA.out.below hb); replace HD := Lib.hid (HD.out.below hb); replace HW := Lib.hid (HW.out.below hb); replace FN := Lib.hid (FN.out.below hb); replace FO := Lib.hid (FO.out.below hb)
            clear hw hb
            go_wp2
            go_ret
            exact ⟨ret_bool HVF.out.symm, by first | exact HB.out | (rw [HGE.out]; exact HB.out)⟩
      have d3 : (zz == 3) = false := by simp [s3]
      have HVF := Lib.hid (HV2.out.trans (HSN.out s1 s2 s3))
      go_wp2
      go_ret
      exact ⟨ret_bool HVF.out.symm, by first | exact HB.out | (rw [HGE.out]; exact HB.out)⟩
    | false =>
      have hji : q < zh.length := by have := beq_eq_false_iff_ne.1 hG; omega
      have hjc : (q : Int) < (zh.length : Int) := by omega
      have HGT := Lib.hid hG
      have o8_ := FO.out.cell 8 _ rfl
      by_cases s1 : zz = 1
      · have d1 : (zz == 1) = true := by simp [s1]
        replace HV2 := Lib.hid (HV2.out.trans (HSW.out s1)); clear s1 HSW HSR HSD HSN
        go_wp2_with fail
        clear o8_ d1
        have n0_ := FN.out.cell 0 _ rfl
        have n1_ := FN.out.cell 1 _ rfl
        have n2_ := FN.out.cell 2 _ rfl
        have o1_ := FO.out.cell 1 _ rfl
        have o6_ := FO.out.cell 6 _ rfl
        have o7_ := FO.out.cell 7 _ rfl
        have o9_ := FO.out.cell 9 _ rfl
        have o10_ := FO.out.cell 10 _ rfl
        have hnl := FN.out.lt; have hol := FO.out.lt
        have n0F := far_cell hnl n0_
        have n1F := far_cell hnl n1_
        have n2F := far_cell hnl n2_
        have o1F := far_cell hol o1_
        have o6F := far_cell hol o6_
        have o7F := far_cell hol o7_
        have o9F := far_cell hol o9_
        have o10F := far_cell hol o10_
        clear n0_ n1_ n2_ o1_ o6_ o7_ o9_ o10_ hnl hol
        have hw : InK 2 tpC V0 _ zh := HW.out
        obtain ⟨gq, hZA, hga, c0_, c1_⟩ := hw.tp (q) hji
        first | subst hZA | cases hZA
        clear hw
        have HST := Lib.hid (fun x' => start_tp_spec zh[q] (HTR.out.2 (q) hji) x.A0 x.k0 x.A1 x.k1 (far V0 x') (HA.out.below (below_far V0 x')) (HD.out.below (below_far V0 x')) HN.out)
        have HEN := Lib.hid (fun x' => end_tp_spec zh[q] (HTR.out.2 (q) hji) x.A0 x.k0 x.A1 x.k1 (far V0 x') (HA.out.below (below_far V0 x')) (HD.out.below (below_far V0 x')) HN.out)
        rw [getD_at hji] at HV2
        generalize zh[q] = y at *
        have c0F := far_cell hga c0_; have c1F := far_cell hga c1_
        clear c0_ c1_
        generalize trS x.l y = TS at *
        generalize trE x.l y = TE at *
        cases k0 : (zp.toList == zf.toList) with
        | false =>
          have HVF := Lib.hid (HV2.out.trans (show _ = false by repeat (first | simp only [k0] | simp only [HGT.out] | simp only [Bool.true_and] | simp only [Bool.and_true] | simp only [Bool.false_and] | simp only [Bool.and_false] | simp only [Bool.true_or] | simp only [Bool.false_or])))
          refine wp_region_far (by kernel_rfl) (by kernel_rfl) ?_
          repeat (any_goals (first | go_big_quiet_step ((first | (go_at_call 77; with_reducible exact call_far (HST.out _)) | (go_at_call 51; with_reducible exact call_far (HEN.out _)))) | quiet_step ((first | (go_at_call 77; with_reducible exact call_far (HST.out _)) | (go_at_call 51; with_reducible exact call_far (HEN.out _))))))
          refine wpQuiet_nil ?_; intro wz hw
          have hb : Below V0.heap.size V0 wz := by obtain ⟨u, rfl⟩ := hw; exact below_far V0 u
          replace HB := Lib.hid (HB.out.trans (hb.mono HSZ.out)); replace HSZ := Lib.hid (Nat.le_trans HSZ.out hb.size); replace HA := Lib.hid (HA.out.below hb); replace HD := Lib.hid (HD.out.below hb); replace HW := Lib.hid (HW.out.below hb); replace FN := Lib.hid (FN.out.below hb); replace FO := Lib.hid (FO.out.below hb)
          clear hw hb
          go_wp2
          go_ret
          exact ⟨ret_bool HVF.out.symm, by first | exact HB.out | (rw [HGE.out]; exact HB.out)⟩
        | true =>
          cases k1 : !(zf.toList == zt.toList) with
          | false =>
            have kn : (zf.toList != zt.toList) = false := k1
            have HVF := Lib.hid (HV2.out.trans (show _ = false by repeat (first | simp only [k0] | simp only [k1] | simp only [HGT.out] | simp only [Bool.true_and] | simp only [Bool.and_true] | simp only [Bool.false_and] | simp only [Bool.and_false] | simp only [Bool.true_or] | simp only [Bool.false_or])))
            refine wp_region_far (by kernel_rfl) (by kernel_rfl) ?_
            repeat (any_goals (first | go_big_quiet_step ((first | (go_at_call 77; with_reducible exact call_far (HST.out _)) | (go_at_call 51; with_reducible exact call_far (HEN.out _)))) | quiet_step ((first | (go_at_call 77; with_reducible exact call_far (HST.out _)) | (go_at_call 51; with_reducible exact call_far (HEN.out _))))))
            refine wpQuiet_nil ?_; intro wz hw
            have hb : Below V0.heap.size V0 wz := by obtain ⟨u, rfl⟩ := hw; exact below_far V0 u
            replace HB := Lib.hid (HB.out.trans (hb.mono HSZ.out)); replace HSZ := Lib.hid (Nat.le_trans HSZ.out hb.size); replace HA := Lib.hid (HA.out.below hb); replace HD := Lib.hid (HD.out.below hb); replace HW := Lib.hid (HW.out.below hb); replace FN := Lib.hid (FN.out.below hb); replace FO := Lib.hid (FO.out.below hb)
            clear hw hb
            go_wp2
            go_ret
            exact ⟨ret_bool HVF.out.symm, by first | exact HB.out | (rw [HGE.out]; exact HB.out)⟩
          | true =>
            have kn : (zf.toList != zt.toList) = true := k1
            cases k2 : (ze == 0) with
            | false =>
              have HVF := Lib.hid (HV2.out.trans (show _ = false by repeat (first | simp only [k0] | simp only [k1] | simp only [k2] | simp only [HGT.out] | simp only [Bool.true_and] | simp only [Bool.and_true] | simp only [Bool.false_and] | simp only [Bool.and_false] | simp only [Bool.true_or] | simp only [Bool.false_or])))
              refine wp_region_far (by kernel_rfl) (by kernel_rfl) ?_
              repeat (any_goals (first | go_big_quiet_step ((first | (go_at_call 77; with_reducible exact call_far (HST.out _)) | (go_at_call 51; with_reducible exact call_far (HEN.out _)))) | quiet_step ((first | (go_at_call 77; with_reducible exact call_far (HST.out _)) | (go_at_call 51; with_reducible exact call_far (HEN.out _))))))
              refine wpQuiet_nil ?_; intro wz hw
              have hb : Below V0.heap.size V0 wz := by obtain ⟨u, rfl⟩ := hw; exact below_far V0 u
              replace HB := Lib.hid (HB.out.trans (hb.mono HSZ.out)); replace HSZ := Lib.hid (Nat.le_trans HSZ.out hb.size); replace HA := Lib.hid (HA.out.below hb); replace HD := Lib.hid (HD.out.below hb); replace HW := Lib.hid (HW.out.below hb); replace FN := Lib.hid (FN.out.below hb); replace FO := Lib.hid (FO.out.below hb)
              clear hw hb
              go_wp2
              go_ret
              exact ⟨ret_bool HVF.out.symm, by first | exact HB.out | (rw [HGE.out]; exact HB.out)⟩
            | true =>
              cases k3 : decide (now < TS) with
              | false =>
                have HVF := Lib.hid (HV2.out.trans (show _ = false by repeat (first | simp only [k0] | simp only [k1] | simp only [k2] | simp only [k3] | simp only [HGT.out] | simp only [Bool.true_and] | simp only [Bool.and_true] | simp only [Bool.false_and] | simp only [Bool.and_false] | simp only [Bool.true_or] | simp only [Bool.false_or])))
                refine wp_region_far (by kernel_rfl) (by kernel_rfl) ?_
                repeat (any_goals (first | go_big_quiet_step ((first | (go_at_call 77; with_reducible exact call_far (HST.out _)) | (go_at_call 51; with_reducible exact call_far (HEN.out _)))) | quiet_step ((first | (go_at_call 77; with_reducible exact call_far (HST.out _)) | (go_at_call 51; with_reducible exact call_far (HEN.out _))))))
                refine wpQuiet_nil ?_; intro wz hw
                have hb : Below V0.heap.size V0 wz := by obtain ⟨u, rfl⟩ := hw; exact below_far V0 u
                replace HB := Lib.hid (HB.out.trans (hb.mono HSZ.out)); replace HSZ := Lib.hid (Nat.le_trans HSZ.out hb.size); replace HA := Lib.hid (HA.out.below hb); replace HD := Lib.hid (HD.out.below hb); replace HW := Lib.hid (HW.out.below hb); replace FN := Lib.hid (FN.out.below hb); replace FO := Lib.hid (FO.out.below hb)
                clear hw hb
                go_wp2
                go_ret
                exact ⟨ret_bool HVF.out.symm, by first | exact HB.out | (rw [HGE.out]; exact HB.out)⟩
              | true =>
                have HVF := Lib.hid (HV2.out.trans (show _ = true by repeat (first | simp only [k0] | simp only [k1] | simp only [k2] | simp only [k3] | simp only [HGT.out] | simp only [Bool.true_and] | simp only [Bool.and_true] | simp only [Bool.false_and] | simp only [Bool.and_false] | simp only [Bool.true_or] | simp only [Bool.false_or])))
                refine wp_region_far (by kernel_rfl) (by kernel_rfl) ?_
                repeat (any_goals (first | go_big_quiet_step ((first | (go_at_call 77; with_reducible exact call_far (HST.out _)) | (go_at_call 51; with_reducible exact call_far (HEN.out _)))) | quiet_step ((first | (go_at_call 77; with_reducible exact call_far (HST.out _)) | (go_at_call 51; with_reducible exact call_far (HEN.out _))))))
                refine wpQuiet_nil ?_; intro wz hw
                have hb : Below V0.heap.size V0 wz := by obtain ⟨u, rfl⟩ := hw; exact below_far V0 u
                replace HB := Lib.hid (HB.out.trans (hb.mono HSZ.out)); replace HSZ := Lib.hid (Nat.le_trans HSZ.out hb.size); replace HA := Lib.hid (HA.out.below hb); replace HD := Lib.hid (HD.out.below hb); replace HW := Lib.hid (HW.out.below hb); replace FN := Lib.hid (FN.out.below hb); replace FO := Lib.hid (FO.out.below hb)
                clear hw hb
                go_wp2
                go_ret
                exact ⟨ret_bool HVF.out.symm, by first | exact HB.out | (rw [HGE.out]; exact HB.out)⟩
      have d1 : (zz == 1) = false := by simp [s1]
      by_cases s2 : zz = 2
      · have d2 : (zz == 2) = true := by simp [s2]
        replace HV2 := Lib.hid (HV2.out.trans (HSR.out s1 s2)); clear s1 s2 HSW HSR HSD HSN
        go_wp2_with fail
        clear o8_ d1 d2
        have n0_ := FN.out.cell 0 _ rfl
        have n1_ := FN.out.cell 1 _ rfl
        have n2_ := FN.out.cell 2 _ rfl
        have o1_ := FO.out.cell 1 _ rfl
        have o6_ := FO.out.cell 6 _ rfl
        have o7_ := FO.out.cell 7 _ rfl
        have o9_ := FO.out.cell 9 _ rfl
        have o10_ := FO.out.cell 10 _ rfl
        have hnl := FN.out.lt; have hol := FO.out.lt
        have n0F := far_cell hnl n0_
        have n1F := far_cell hnl n1_
        have n2F := far_cell hnl n2_
        have o1F := far_cell hol o1_
        have o6F := far_cell hol o6_
        have o7F := far_cell hol o7_
        have o9F := far_cell hol o9_
        have o10F := far_cell hol o10_
        clear n0_ n1_ n2_ o1_ o6_ o7_ o9_ o10_ hnl hol
        have hw : InK 2 tpC V0 _ zh := HW.out
        obtain ⟨gq, hZA, hga, c0_, c1_⟩ := hw.tp (q) hji
        first | subst hZA | cases hZA
        clear hw
        have HST := Lib.hid (fun x' => start_tp_spec zh[q] (HTR.out.2 (q) hji) x.A0 x.k0 x.A1 x.k1 (far V0 x') (HA.out.below (below_far V0 x')) (HD.out.below (below_far V0 x')) HN.out)
        have HEN := Lib.hid (fun x' => end_tp_spec zh[q] (HTR.out.2 (q) hji) x.A0 x.k0 x.A1 x.k1 (far V0 x') (HA.out.below (below_far V0 x')) (HD.out.below (below_far V0 x')) HN.out)
        rw [getD_at hji] at HV2
        generalize zh[q] = y at *
        have c0F := far_cell hga c0_; have c1F := far_cell hga c1_
        clear c0_ c1_
        generalize trS x.l y = TS at *
        generalize trE x.l y = TE at *
        cases k0 : (zp.toList == (⟨#[]⟩ : ByteArray).toList) with
        | false =>
          have e0 : (⟨#[]⟩ : ByteArray).toList = [] := by rw [ByteArray.toList_eq]
          have ke : (zp.toList == []) = false := by rw [← e0]; exact k0
          clear e0
          have HVF := Lib.hid (HV2.out.trans (show _ = false by repeat (first | simp only [k0] | simp only [HGT.out] | simp only [Bool.true_and] | simp only [Bool.and_true] | simp only [Bool.false_and] | simp only [Bool.and_false] | simp only [Bool.not_true] | simp only [Bool.not_false])))
          refine wp_region_far (by kernel_rfl) (by kernel_rfl) ?_
          repeat (any_goals (first | go_big_quiet_step ((first | (go_at_call 77; with_reducible exact call_far (HST.out _)) | (go_at_call 51; with_reducible exact call_far (HEN.out _)))) | quiet_step ((first | (go_at_call 77; with_reducible exact call_far (HST.out _)) | (go_at_call 51; with_reducible exact call_far (HEN.out _))))))
          refine wpQuiet_nil ?_; intro wz hw
          have hb : Below V0.heap.size V0 wz := by obtain ⟨u, rfl⟩ := hw; exact below_far V0 u
          replace HB := Lib.hid (HB.out.trans (hb.mono HSZ.out)); replace HSZ := Lib.hid (Nat.le_trans HSZ.out hb.size); replace HA := Lib.hid (HA.out.below hb); replace HD := Lib.hid (HD.out.below hb); replace HW := Lib.hid (HW.out.below hb); replace FN := Lib.hid (FN.out.below hb); replace FO := Lib.hid (FO.out.below hb)
          clear hw hb
          go_wp2
          go_ret
          exact ⟨ret_bool HVF.out.symm, by first | exact HB.out | (rw [HGE.out]; exact HB.out)⟩
        | true =>
          have e0 : (⟨#[]⟩ : ByteArray).toList = [] := by rw [ByteArray.toList_eq]
          have ke : (zp.toList == []) = true := by rw [← e0]; exact k0
          clear e0
          cases k1 : (ze == 0) with
          | false =>
            have HVF := Lib.hid (HV2.out.trans (show _ = false by repeat (first | simp only [k0] | simp only [k1] | simp only [HGT.out] | simp only [Bool.true_and] | simp only [Bool.and_true] | simp only [Bool.false_and] | simp only [Bool.and_false] | simp only [Bool.not_true] | simp only [Bool.not_false])))
            refine wp_region_far (by kernel_rfl) (by kernel_rfl) ?_
            repeat (any_goals (first | go_big_quiet_step ((first | (go_at_call 77; with_reducible exact call_far (HST.out _)) | (go_at_call 51; with_reducible exact call_far (HEN.out _)))) | quiet_step ((first | (go_at_call 77; with_reducible exact call_far (HST.out _)) | (go_at_call 51; with_reducible exact call_far (HEN.out _))))))
            refine wpQuiet_nil ?_; intro wz hw
            have hb : Below V0.heap.size V0 wz := by obtain ⟨u, rfl⟩ := hw; exact below_far V0 u
            replace HB := Lib.hid (HB.out.trans (hb.mono HSZ.out)); replace HSZ := Lib.hid (Nat.le_trans HSZ.out hb.size); replace HA := Lib.hid (HA.out.below hb); replace HD := Lib.hid (HD.out.below hb); replace HW := Lib.hid (HW.out.below hb); replace FN := Lib.hid (FN.out.below hb); replace FO := Lib.hid (FO.out.below hb)
            clear hw hb
            go_wp2
            go_ret
            exact ⟨ret_bool HVF.out.symm, by first | exact HB.out | (rw [HGE.out]; exact HB.out)⟩
          | true =>
            cases k2 : decide (TS ≤ now) with
            | false =>
              have HVF := Lib.hid (HV2.out.trans (show _ = false by repeat (first | simp only [k0] | simp only [k1] | simp only [k2] | simp only [HGT.out] | simp only [Bool.true_and] | simp only [Bool.and_true] | simp only [Bool.false_and] | simp only [Bool.and_false] | simp only [Bool.not_true] | simp only [Bool.not_false])))
              refine wp_region_far (by kernel_rfl) (by kernel_rfl) ?_
              repeat (any_goals (first | go_big_quiet_step ((first | (go_at_call 77; with_reducible exact call_far (HST.out _)) | (go_at_call 51; with_reducible exact call_far (HEN.out _)))) | quiet_step ((first | (go_at_call 77; with_reducible exact call_far (HST.out _)) | (go_at_call 51; with_reducible exact call_far (HEN.out _))))))
              refine wpQuiet_nil ?_; intro wz hw
              have hb : Below V0.heap.size V0 wz := by obtain ⟨u, rfl⟩ := hw; exact below_far V0 u
              replace HB := Lib.hid (HB.out.trans (hb.mono HSZ.out)); replace HSZ := Lib.hid (Nat.le_trans HSZ.out hb.size); replace HA := Lib.hid (HA.out.below hb); replace HD := Lib.hid (HD.out.below hb); replace HW := Lib.hid (HW.out.below hb); replace FN := Lib.hid (FN.out.below hb); replace FO := Lib.hid (FO.out.below hb)
              clear hw hb
              go_wp2
              go_ret
              exact ⟨ret_bool HVF.out.symm, by first | exact HB.out | (rw [HGE.out]; exact HB.out)⟩
            | true =>
              cases k3 : decide (now < TE) with
              | false =>
                have HVF := Lib.hid (HV2.out.trans (show _ = false by repeat (first | simp only [k0] | simp only [k1] | simp only [k2] | simp only [k3] | simp only [HGT.out] | simp only [Bool.true_and] | simp only [Bool.and_true] | simp only [Bool.false_and] | simp only [Bool.and_false] | simp only [Bool.not_true] | simp only [Bool.not_false])))
                refine wp_region_far (by kernel_rfl) (by kernel_rfl) ?_
                repeat (any_goals (first | go_big_quiet_step ((first | (go_at_call 77; with_reducible exact call_far (HST.out _)) | (go_at_call 51; with_reducible exact call_far (HEN.out _)))) | quiet_step ((first | (go_at_call 77; with_reducible exact call_far (HST.out _)) | (go_at_call 51; with_reducible exact call_far (HEN.out _))))))
                refine wpQuiet_nil ?_; intro wz hw
                have hb : Below V0.heap.size V0 wz := by obtain ⟨u, rfl⟩ := hw; exact below_far V0 u
                replace HB := Lib.hid (HB.out.trans (hb.mono HSZ.out)); replace HSZ := Lib.hid (Nat.le_trans HSZ.out hb.size); replace HA := Lib.hid (HA.out.below hb); replace HD := Lib.hid (HD.out.below hb); replace HW := Lib.hid (HW.out.below hb); replace FN := Lib.hid (FN.out.below hb); replace FO := Lib.hid (FO.out.below hb)
                clear hw hb
                go_wp2
                go_ret
                exact ⟨ret_bool HVF.out.symm, by first | exact HB.out | (rw [HGE.out]; exact HB.out)⟩
              | true =>
                have HVF := Lib.hid (HV2.out.trans (show _ = true by repeat (first | simp only [k0] | simp only [k1] | simp only [k2] | simp only [k3] | simp only [HGT.out] | simp only [Bool.true_and] | simp only [Bool.and_true] | simp only [Bool.false_and] | simp only [Bool.and_false] | simp only [Bool.not_true] | simp only [Bool.not_false])))
                refine wp_region_far (by kernel_rfl) (by kernel_rfl) ?_
                repeat (any_goals (first | go_big_quiet_step ((first | (go_at_call 77; with_reducible exact call_far (HST.out _)) | (go_at_call 51; with_reducible exact call_far (HEN.out _)))) | quiet_step ((first | (go_at_call 77; with_reducible exact call_far (HST.out _)) | (go_at_call 51; with_reducible exact call_far (HEN.out _))))))
                refine wpQuiet_nil ?_; intro wz hw
                have hb : Below V0.heap.size V0 wz := by obtain ⟨u, rfl⟩ := hw; exact below_far V0 u
                replace HB := Lib.hid (HB.out.trans (hb.mono HSZ.out)); replace HSZ := Lib.hid (Nat.le_trans HSZ.out hb.size); replace HA := Lib.hid (HA.out.below hb); replace HD := Lib.hid (HD.out.below hb); replace HW := Lib.hid (HW.out.below hb); replace FN := Lib.hid (FN.out.below hb); replace FO := Lib.hid (FO.out.below hb)
                clear hw hb
                go_wp2
                go_ret
                exact ⟨ret_bool HVF.out.symm, by first | exact HB.out | (rw [HGE.out]; exact HB.out)⟩
      have d2 : (zz == 2) = false := by simp [s2]
      by_cases s3 : zz = 3
      · have d3 : (zz == 3) = true := by simp [s3]
        replace HV2 := Lib.hid (HV2.out.trans (HSD.out s1 s2 s3)); clear s1 s2 s3 HSW HSR HSD HSN
        go_wp2_with fail
        clear o8_ d1 d2 d3
        have n0_ := FN.out.cell 0 _ rfl
        have n1_ := FN.out.cell 1 _ rfl
        have n2_ := FN.out.cell 2 _ rfl
        have o1_ := FO.out.cell 1 _ rfl
        have o6_ := FO.out.cell 6 _ rfl
        have o7_ := FO.out.cell 7 _ rfl
        have o9_ := FO.out.cell 9 _ rfl
        have o10_ := FO.out.cell 10 _ rfl
        have hnl := FN.out.lt; have hol := FO.out.lt
        have n0F := far_cell hnl n0_
        have n1F := far_cell hnl n1_
        have n2F := far_cell hnl n2_
        have o1F := far_cell hol o1_
        have o6F := far_cell hol o6_
        have o7F := far_cell hol o7_
        have o9F := far_cell hol o9_
        have o10F := far_cell hol o10_
        clear n0_ n1_ n2_ o1_ o6_ o7_ o9_ o10_ hnl hol
        have hqn : ¬ 0 < q := HQP.out
        cases k0 : (zp.toList == zt.toList) with
        | false =>
          have HVF := Lib.hid (HV2.out.trans (show _ = false by cases kk : (zf.toList == zt.toList) with | true => (rw [beq_tr kk]; repeat (first | simp only [k0] | simp only [HQZ.out] | simp only [HGT.out] | simp only [Bool.true_and] | simp only [Bool.false_and] | simp only [Bool.and_false])) | false => repeat (first | simp only [HQZ.out] | simp only [HGT.out] | simp only [Bool.true_and] | simp only [Bool.false_and] | simp only [Bool.and_false])))
          refine wp_region_far (by kernel_rfl) (by kernel_rfl) ?_
          repeat (any_goals (first | go_big_quiet_step (fail) | quiet_step (fail)))
          refine wpQuiet_nil ?_; intro wz hw
          have hb : Below V0.heap.size V0 wz := by obtain ⟨u, rfl⟩ := hw; exact below_far V0 u
          replace HB := Lib.hid (HB.out.trans (hb.mono HSZ.out)); replace HSZ := Lib.hid (Nat.le_trans HSZ.out hb.size); replace HA := Lib.hid (HA.out.below hb); replace HD := Lib.hid (HD.out.below hb); replace HW := Lib.hid (HW.out.below hb); replace FN := Lib.hid (FN.out.below hb); replace FO := Lib.hid (FO.out.below hb)
          clear hw hb
          go_wp2
          go_ret
          exact ⟨ret_bool HVF.out.symm, by first | exact HB.out | (rw [HGE.out]; exact HB.out)⟩
        | true =>
          cases k1 : (zf.toList == zt.toList) with
          | false =>
            have HVF := Lib.hid (HV2.out.trans (show _ = false by repeat (first | simp only [k1] | simp only [HQZ.out] | simp only [HGT.out] | simp only [Bool.true_and] | simp only [Bool.false_and] | simp only [Bool.and_false])))
            refine wp_region_far (by kernel_rfl) (by kernel_rfl) ?_
            repeat (any_goals (first | go_big_quiet_step (fail) | quiet_step (fail)))
            refine wpQuiet_nil ?_; intro wz hw
            have hb : Below V0.heap.size V0 wz := by obtain ⟨u, rfl⟩ := hw; exact below_far V0 u
            replace HB := Lib.hid (HB.out.trans (hb.mono HSZ.out)); replace HSZ := Lib.hid (Nat.le_trans HSZ.out hb.size); replace HA := Lib.hid (HA.out.below hb); replace HD := Lib.hid (HD.out.below hb); replace HW := Lib.hid (HW.out.below hb); replace FN := Lib.hid (FN.out.below hb); replace FO := Lib.hid (FO.out.below hb)
            clear hw hb
            go_wp2
            go_ret
            exact ⟨ret_bool HVF.out.symm, by first | exact HB.out | (rw [HGE.out]; exact HB.out)⟩
          | true =>
            have HVF := Lib.hid (HV2.out.trans (show _ = false by rw [beq_tr k1]; repeat (first | simp only [k0] | simp only [k1] | simp only [HQZ.out] | simp only [HGT.out] | simp only [Bool.true_and] | simp only [Bool.and_true] | simp only [Bool.false_and] | simp only [Bool.and_false])))
            refine wp_region_far (by kernel_rfl) (by kernel_rfl) ?_
            repeat (any_goals (first | go_big_quiet_step (fail) | quiet_step (fail)))
            refine wpQuiet_nil ?_; intro wz hw
            have hb : Below V0.heap.size V0 wz := by obtain ⟨u, rfl⟩ := hw; exact below_far V0 u
            replace HB := Lib.hid (HB.out.trans (hb.mono HSZ.out)); replace HSZ := Lib.hid (Nat.le_trans HSZ.out hb.size); replace HA := Lib.hid (HA.out.below hb); replace HD := Lib.hid (HD.out.below hb); replace HW := Lib.hid (HW.out.below hb); replace FN := Lib.hid (FN.out.below hb); replace FO := Lib.hid (FO.out.below hb)
            clear hw hb
            go_wp2
            go_ret
            exact ⟨ret_bool HVF.out.symm, by first | exact HB.out | (rw [HGE.out]; exact HB.out)⟩
      have d3 : (zz == 3) = false := by simp [s3]
      have HVF := Lib.hid (HV2.out.trans (HSN.out s1 s2 s3))
      go_wp2
      go_ret
      exact ⟨ret_bool HVF.out.symm, by first | exact HB.out | (rw [HGE.out]; exact HB.out)⟩
  · have hqp : 0 < q := by omega
    have HQP := Lib.hid hqp
    have HQZ := Lib.hid (show decide (0 < (q : Int)) = true from decide_eq_true (by omega))
    have hj1 : q - 1 < zh.length := by omega
    obtain ⟨_, _, k, hkg, hkl, hlg, _⟩ := trB_of (HTR.out.2 (q - 1) hj1)
    have HPV := Lib.hid (HPP.out hqp)
    rw [getD_at hj1, hlg] at HPV
    obtain ⟨gl, hAe, hgl, l0_, l1_, l2_, l3_, l4_, l5_⟩ := HA.out.lg k hkl
    replace hAe := Lib.hid hAe
    have l1F := far_cell hgl l1_
    have HLT := Lib.hid (show PL = x.l[k].t from HPV.out)
    clear l0_ l1_ l2_ l3_ l4_ l5_ HPV HPP HPZ HGZ
    rw [← HLT.out] at l1F
    have hw : InK 2 tpC V0 zA zh := HW.out
    obtain ⟨ga, hZA, hga, c0_, c1_⟩ := hw.tp (q - 1) hj1
    subst hZA
    clear hw
    have HEN := Lib.hid (fun W (h1 : InK 6 lgC W x.A0 x.l) (h2 : IntsIn W x.A1 x.zs) => end_tp_spec zh[q - 1] (HTR.out.2 (q - 1) hj1) x.A0 x.k0 x.A1 x.k1 W h1 h2 HN.out)
    have HG2 := Lib.hid (HGP.out (by omega))
    rw [getD_at hj1] at HG2
    have HYG := Lib.hid hkg; clear hkg hlg
    generalize hyy : zh[q - 1] = yy at *
    have HYY := Lib.hid hyy; clear hyy
    rw [HYG.out] at c0_
    have c0F := far_cell hga c0_; have c1F := far_cell hga c1_
    clear c0_ c1_
    have hk0 : (0 : Int) ≤ (k : Int) := by omega
    have hk1 : (k : Int) < (x.l.length : Int) := by omega
    have hjc1 : (q : Int) - 1 < (zh.length : Int) := by omega
    have o0_ := FO.out.cell 0 _ rfl
    have o7_ := FO.out.cell 7 _ rfl
    go_wp2_with fail
    clear o0_ o7_
    have n0_ := FN.out.cell 0 _ rfl
    have n1_ := FN.out.cell 1 _ rfl
    have n2_ := FN.out.cell 2 _ rfl
    have o1_ := FO.out.cell 1 _ rfl
    have o6_ := FO.out.cell 6 _ rfl
    have o7_ := FO.out.cell 7 _ rfl
    have o9_ := FO.out.cell 9 _ rfl
    have o10_ := FO.out.cell 10 _ rfl
    rw [hAe.out] at n0_
    have hnl := FN.out.lt; have hol := FO.out.lt
    have n0F := far_cell hnl n0_
    have n1F := far_cell hnl n1_
    have n2F := far_cell hnl n2_
    have o1F := far_cell hol o1_
    have o6F := far_cell hol o6_
    have o7F := far_cell hol o7_
    have o9F := far_cell hol o9_
    have o10F := far_cell hol o10_
    clear n0_ n1_ n2_ o1_ o6_ o7_ o9_ o10_ hnl hol
    refine wp_region_far (by kernel_rfl) (by kernel_rfl) ?_
    repeat (any_goals (first | go_big_quiet_step (fail) | quiet_step (fail)))
    refine wpQuiet_nil ?_; intro V1 hw
    have hb : Below V0.heap.size V0 V1 := by obtain ⟨u, rfl⟩ := hw; exact below_far V0 u
    replace HB := Lib.hid (HB.out.trans (hb.mono HSZ.out)); replace HSZ := Lib.hid (Nat.le_trans HSZ.out hb.size); replace HA := Lib.hid (HA.out.below hb); replace HD := Lib.hid (HD.out.below hb); replace HW := Lib.hid (HW.out.below hb); replace FN := Lib.hid (FN.out.below hb); replace FO := Lib.hid (FO.out.below hb)
    clear hw hb n0F n1F n2F o1F o6F o7F o9F o10F l1F c0F c1F
    go_wp2_with fail
    have n0_ := FN.out.cell 0 _ rfl
    have n1_ := FN.out.cell 1 _ rfl
    have n2_ := FN.out.cell 2 _ rfl
    have o1_ := FO.out.cell 1 _ rfl
    have o6_ := FO.out.cell 6 _ rfl
    have o7_ := FO.out.cell 7 _ rfl
    have o9_ := FO.out.cell 9 _ rfl
    have o10_ := FO.out.cell 10 _ rfl
    have hnl := FN.out.lt; have hol := FO.out.lt
    have n0F := far_cell hnl n0_
    have n1F := far_cell hnl n1_
    have n2F := far_cell hnl n2_
    have o1F := far_cell hol o1_
    have o6F := far_cell hol o6_
    have o7F := far_cell hol o7_
    have o9F := far_cell hol o9_
    have o10F := far_cell hol o10_
    clear n0_ n1_ n2_ o1_ o6_ o7_ o9_ o10_ hnl hol
    have hw : InK 2 tpC V1 (some ⟨ga, 0, none⟩) zh := HW.out
    obtain ⟨g2, e2, hg2, c0_, c1_⟩ := hw.tp (q - 1) hj1
    cases e2
    clear hw
    rw [HYY.out] at c0_ c1_
    have c0F := far_cell hg2 c0_; have c1F := far_cell hg2 c1_
    clear c0_ c1_
    have HC := Lib.hid (fun x' => HEN.out (far V1 x') (HA.out.below (below_far V1 x')) (HD.out.below (below_far V1 x')))
    clear HEN
    by_cases hE : trE x.l yy ≤ now
    rotate_left
    · have dE : decide (now < trE x.l yy) = true := decide_eq_true (by omega)
      have HVF := Lib.hid (HV.out.trans (show _ = false by rw [HG2.out, decide_eq_false hE]; rfl))
      generalize trE x.l yy = E at *
      refine wp_region_far (by kernel_rfl) (by kernel_rfl) ?_
      repeat (any_goals (first | go_big_quiet_step ((go_at_call 51; with_reducible exact call_far (HC.out _))) | quiet_step ((go_at_call 51; with_reducible exact call_far (HC.out _)))))
      refine wpQuiet_nil ?_; intro wz hw
      have hb : Below V1.heap.size V1 wz := by obtain ⟨u, rfl⟩ := hw; exact below_far V1 u
      replace HB := Lib.hid (HB.out.trans (hb.mono HSZ.out)); replace HSZ := Lib.hid (Nat.le_trans HSZ.out hb.size); replace HA := Lib.hid (HA.out.below hb); replace HD := Lib.hid (HD.out.below hb); replace HW := Lib.hid (HW.out.below hb); replace FN := Lib.hid (FN.out.below hb); replace FO := Lib.hid (FO.out.below hb)
      clear hw hb
      go_wp2
      go_ret
      exact ⟨ret_bool HVF.out.symm, by first | exact HB.out | (rw [HGE.out]; exact HB.out)⟩
    have dE : decide (now < trE x.l yy) = false := decide_eq_false (by omega)
    have HV2 := Lib.hid (HV.out.trans (show _ = ST by rw [HG2.out, decide_eq_true hE]; rfl))
    clear HV HG2
    generalize trE x.l yy = E at *
    refine wp_region_far (by kernel_rfl) (by kernel_rfl) ?_
    repeat (any_goals (first | go_big_quiet_step ((go_at_call 51; with_reducible exact call_far (HC.out _))) | quiet_step ((go_at_call 51; with_reducible exact call_far (HC.out _)))))
    refine wpQuiet_nil ?_; intro V2 hw
    have hb : Below V1.heap.size V1 V2 := by obtain ⟨u, rfl⟩ := hw; exact below_far V1 u
    replace HB := Lib.hid (HB.out.trans (hb.mono HSZ.out)); replace HSZ := Lib.hid (Nat.le_trans HSZ.out hb.size); replace HA := Lib.hid (HA.out.below hb); replace HD := Lib.hid (HD.out.below hb); replace HW := Lib.hid (HW.out.below hb); replace FN := Lib.hid (FN.out.below hb); replace FO := Lib.hid (FO.out.below hb)
    clear hw hb HC c0F c1F n0F n1F n2F o1F o6F o7F o9F o10F
    go_upto_region 6 with (fail)
    clear dE hjc1 hk0 hk1 HGP HLT HYG HYY hAe hqp
    cases hG : ((q : Int) == (zh.length : Int)) with
    | true =>
      have hql : q = zh.length := by have := beq_iff_eq.1 hG; omega
      have HQL := Lib.hid hql; clear hql
      have d7 : decide (q < zh.length) = false := decide_eq_false (by have := HQL.out; omega)
      have d7b : decide ((q : Int) < (zh.length : Int)) = false := decide_eq_false (by have := HQL.out; omega)
      have HGT := Lib.hid hG
      have o8_ := FO.out.cell 8 _ rfl
      by_cases s1 : zz = 1
      · have d1 : (zz == 1) = true := by simp [s1]
        replace HV2 := Lib.hid (HV2.out.trans (HSW.out s1)); clear s1 HSW HSR HSD HSN
        go_wp2_with fail
        clear o8_ d1
        have n0_ := FN.out.cell 0 _ rfl
        have n1_ := FN.out.cell 1 _ rfl
        have n2_ := FN.out.cell 2 _ rfl
        have o1_ := FO.out.cell 1 _ rfl
        have o6_ := FO.out.cell 6 _ rfl
        have o7_ := FO.out.cell 7 _ rfl
        have o9_ := FO.out.cell 9 _ rfl
        have o10_ := FO.out.cell 10 _ rfl
        have hnl := FN.out.lt; have hol := FO.out.lt
        have n0F := far_cell hnl n0_
        have n1F := far_cell hnl n1_
        have n2F := far_cell hnl n2_
        have o1F := far_cell hol o1_
        have o6F := far_cell hol o6_
        have o7F := far_cell hol o7_
        have o9F := far_cell hol o9_
        have o10F := far_cell hol o10_
        clear n0_ n1_ n2_ o1_ o6_ o7_ o9_ o10_ hnl hol
        cases k0 : (zp.toList == PL.toList) with
        | false =>
          have HVF := Lib.hid (HV2.out.trans (show _ = false by repeat (first | simp only [k0] | simp only [HGT.out] | simp only [Bool.true_and] | simp only [Bool.and_true] | simp only [Bool.false_and] | simp only [Bool.and_false] | simp only [Bool.true_or] | simp only [Bool.false_or])))
          refine wp_region_far (by kernel_rfl) (by kernel_rfl) ?_
          repeat (any_goals (first | go_big_quiet_step (fail) | quiet_step (fail)))
          refine wpQuiet_nil ?_; intro wz hw
          have hb : Below V2.heap.size V2 wz := by obtain ⟨u, rfl⟩ := hw; exact below_far V2 u
          replace HB := Lib.hid (HB.out.trans (hb.mono HSZ.out)); replace HSZ := Lib.hid (Nat.le_trans HSZ.out hb.size); replace HA := Lib.hid (HA.out.below hb); replace HD := Lib.hid (HD.out.below hb); replace HW := Lib.hid (HW.out.below hb); replace FN := Lib.hid (FN.out.below hb); replace FO := Lib.hid (FO.out.below hb)
          clear hw hb
          go_wp2
          go_ret
          exact ⟨ret_bool HVF.out.symm, by first | exact HB.out | (rw [HGE.out]; exact HB.out)⟩
        | true =>
          cases k1 : !(PL.toList == zt.toList) with
          | false =>
            have kn : (PL.toList != zt.toList) = false := k1
            have HVF := Lib.hid (HV2.out.trans (show _ = false by repeat (first | simp only [k0] | simp only [k1] | simp only [HGT.out] | simp only [Bool.true_and] | simp only [Bool.and_true] | simp only [Bool.false_and] | simp only [Bool.and_false] | simp only [Bool.true_or] | simp only [Bool.false_or])))
            refine wp_region_far (by kernel_rfl) (by kernel_rfl) ?_
            repeat (any_goals (first | go_big_quiet_step (fail) | quiet_step (fail)))
            refine wpQuiet_nil ?_; intro wz hw
            have hb : Below V2.heap.size V2 wz := by obtain ⟨u, rfl⟩ := hw; exact below_far V2 u
            replace HB := Lib.hid (HB.out.trans (hb.mono HSZ.out)); replace HSZ := Lib.hid (Nat.le_trans HSZ.out hb.size); replace HA := Lib.hid (HA.out.below hb); replace HD := Lib.hid (HD.out.below hb); replace HW := Lib.hid (HW.out.below hb); replace FN := Lib.hid (FN.out.below hb); replace FO := Lib.hid (FO.out.below hb)
            clear hw hb
            go_wp2
            go_ret
            exact ⟨ret_bool HVF.out.symm, by first | exact HB.out | (rw [HGE.out]; exact HB.out)⟩
          | true =>
            have kn : (PL.toList != zt.toList) = true := k1
            cases k2 : (ze == 0) with
            | false =>
              have HVF := Lib.hid (HV2.out.trans (show _ = false by repeat (first | simp only [k0] | simp only [k1] | simp only [k2] | simp only [HGT.out] | simp only [Bool.true_and] | simp only [Bool.and_true] | simp only [Bool.false_and] | simp only [Bool.and_false] | simp only [Bool.true_or] | simp only [Bool.false_or])))
              refine wp_region_far (by kernel_rfl) (by kernel_rfl) ?_
              repeat (any_goals (first | go_big_quiet_step (fail) | quiet_step (fail)))
              refine wpQuiet_nil ?_; intro wz hw
              have hb : Below V2.heap.size V2 wz := by obtain ⟨u, rfl⟩ := hw; exact below_far V2 u
              replace HB := Lib.hid (HB.out.trans (hb.mono HSZ.out)); replace HSZ := Lib.hid (Nat.le_trans HSZ.out hb.size); replace HA := Lib.hid (HA.out.below hb); replace HD := Lib.hid (HD.out.below hb); replace HW := Lib.hid (HW.out.below hb); replace FN := Lib.hid (FN.out.below hb); replace FO := Lib.hid (FO.out.below hb)
              clear hw hb
              go_wp2
              go_ret
              exact ⟨ret_bool HVF.out.symm, by first | exact HB.out | (rw [HGE.out]; exact HB.out)⟩
            | true =>
              have HVF := Lib.hid (HV2.out.trans (show _ = true by repeat (first | simp only [k0] | simp only [k1] | simp only [k2] | simp only [HGT.out] | simp only [Bool.true_and] | simp only [Bool.and_true] | simp only [Bool.false_and] | simp only [Bool.and_false] | simp only [Bool.true_or] | simp only [Bool.false_or])))
              refine wp_region_far (by kernel_rfl) (by kernel_rfl) ?_
              repeat (any_goals (first | go_big_quiet_step (fail) | quiet_step (fail)))
              refine wpQuiet_nil ?_; intro wz hw
              have hb : Below V2.heap.size V2 wz := by obtain ⟨u, rfl⟩ := hw; exact below_far V2 u
              replace HB := Lib.hid (HB.out.trans (hb.mono HSZ.out)); replace HSZ := Lib.hid (Nat.le_trans HSZ.out hb.size); replace HA := Lib.hid (HA.out.below hb); replace HD := Lib.hid (HD.out.below hb); replace HW := Lib.hid (HW.out.below hb); replace FN := Lib.hid (FN.out.below hb); replace FO := Lib.hid (FO.out.below hb)
              clear hw hb
              go_wp2
              go_ret
              exact ⟨ret_bool HVF.out.symm, by first | exact HB.out | (rw [HGE.out]; exact HB.out)⟩
      have d1 : (zz == 1) = false := by simp [s1]
      by_cases s2 : zz = 2
      · have d2 : (zz == 2) = true := by simp [s2]
        replace HV2 := Lib.hid (HV2.out.trans (HSR.out s1 s2)); clear s1 s2 HSW HSR HSD HSN
        go_wp2_with fail
        clear o8_ d1 d2
        have n0_ := FN.out.cell 0 _ rfl
        have n1_ := FN.out.cell 1 _ rfl
        have n2_ := FN.out.cell 2 _ rfl
        have o1_ := FO.out.cell 1 _ rfl
        have o6_ := FO.out.cell 6 _ rfl
        have o7_ := FO.out.cell 7 _ rfl
        have o9_ := FO.out.cell 9 _ rfl
        have o10_ := FO.out.cell 10 _ rfl
        have hnl := FN.out.lt; have hol := FO.out.lt
        have n0F := far_cell hnl n0_
        have n1F := far_cell hnl n1_
        have n2F := far_cell hnl n2_
        have o1F := far_cell hol o1_
        have o6F := far_cell hol o6_
        have o7F := far_cell hol o7_
        have o9F := far_cell hol o9_
        have o10F := far_cell hol o10_
        clear n0_ n1_ n2_ o1_ o6_ o7_ o9_ o10_ hnl hol
        cases k0 : (zp.toList == (⟨#[]⟩ : ByteArray).toList) with
        | false =>
          have e0 : (⟨#[]⟩ : ByteArray).toList = [] := by rw [ByteArray.toList_eq]
          have ke : (zp.toList == []) = false := by rw [← e0]; exact k0
          clear e0
          have HVF := Lib.hid (HV2.out.trans (show _ = false by repeat (first | simp only [k0] | simp only [HGT.out] | simp only [Bool.true_and] | simp only [Bool.and_true] | simp only [Bool.false_and] | simp only [Bool.and_false] | simp only [Bool.not_true] | simp only [Bool.not_false])))
          refine wp_region_far (by kernel_rfl) (by kernel_rfl) ?_
          repeat (any_goals (first | go_big_quiet_step (fail) | quiet_step (fail)))
          refine wpQuiet_nil ?_; intro wz hw
          have hb : Below V2.heap.size V2 wz := by obtain ⟨u, rfl⟩ := hw; exact below_far V2 u
          replace HB := Lib.hid (HB.out.trans (hb.mono HSZ.out)); replace HSZ := Lib.hid (Nat.le_trans HSZ.out hb.size); replace HA := Lib.hid (HA.out.below hb); replace HD := Lib.hid (HD.out.below hb); replace HW := Lib.hid (HW.out.below hb); replace FN := Lib.hid (FN.out.below hb); replace FO := Lib.hid (FO.out.below hb)
          clear hw hb
          go_wp2
          go_ret
          exact ⟨ret_bool HVF.out.symm, by first | exact HB.out | (rw [HGE.out]; exact HB.out)⟩
        | true =>
          have e0 : (⟨#[]⟩ : ByteArray).toList = [] := by rw [ByteArray.toList_eq]
          have ke : (zp.toList == []) = true := by rw [← e0]; exact k0
          clear e0
          cases k1 : (ze == 0) with
          | false =>
            have HVF := Lib.hid (HV2.out.trans (show _ = false by repeat (first | simp only [k0] | simp only [k1] | simp only [HGT.out] | simp only [Bool.true_and] | simp only [Bool.and_true] | simp only [Bool.false_and] | simp only [Bool.and_false] | simp only [Bool.not_true] | simp only [Bool.not_false])))
            refine wp_region_far (by kernel_rfl) (by kernel_rfl) ?_
            repeat (any_goals (first | go_big_quiet_step (fail) | quiet_step (fail)))
            refine wpQuiet_nil ?_; intro wz hw
            have hb : Below V2.heap.size V2 wz := by obtain ⟨u, rfl⟩ := hw; exact below_far V2 u
            replace HB := Lib.hid (HB.out.trans (hb.mono HSZ.out)); replace HSZ := Lib.hid (Nat.le_trans HSZ.out hb.size); replace HA := Lib.hid (HA.out.below hb); replace HD := Lib.hid (HD.out.below hb); replace HW := Lib.hid (HW.out.below hb); replace FN := Lib.hid (FN.out.below hb); replace FO := Lib.hid (FO.out.below hb)
            clear hw hb
            go_wp2
            go_ret
            exact ⟨ret_bool HVF.out.symm, by first | exact HB.out | (rw [HGE.out]; exact HB.out)⟩
          | true =>
            have HVF := Lib.hid (HV2.out.trans (show _ = false by repeat (first | simp only [k0] | simp only [k1] | simp only [HGT.out] | simp only [Bool.true_and] | simp only [Bool.and_true] | simp only [Bool.false_and] | simp only [Bool.and_false] | simp only [Bool.not_true] | simp only [Bool.not_false])))
            refine wp_region_far (by kernel_rfl) (by kernel_rfl) ?_
            repeat (any_goals (first | go_big_quiet_step (fail) | quiet_step (fail)))
            refine wpQuiet_nil ?_; intro wz hw
            have hb : Below V2.heap.size V2 wz := by obtain ⟨u, rfl⟩ := hw; exact below_far V2 u
            replace HB := Lib.hid (HB.out.trans (hb.mono HSZ.out)); replace HSZ := Lib.hid (Nat.le_trans HSZ.out hb.size); replace HA := Lib.hid (HA.out.below hb); replace HD := Lib.hid (HD.out.below hb); replace HW := Lib.hid (HW.out.below hb); replace FN := Lib.hid (FN.out.below hb); replace FO := Lib.hid (FO.out.below hb)
            clear hw hb
            go_wp2
            go_ret
            exact ⟨ret_bool HVF.out.symm, by first | exact HB.out | (rw [HGE.out]; exact HB.out)⟩
      have d2 : (zz == 2) = false := by simp [s2]
      by_cases s3 : zz = 3
      · have d3 : (zz == 3) = true := by simp [s3]
        replace HV2 := Lib.hid (HV2.out.trans (HSD.out s1 s2 s3)); clear s1 s2 s3 HSW HSR HSD HSN
        go_wp2_with fail
        clear o8_ d1 d2 d3
        have n0_ := FN.out.cell 0 _ rfl
        have n1_ := FN.out.cell 1 _ rfl
        have n2_ := FN.out.cell 2 _ rfl
        have o1_ := FO.out.cell 1 _ rfl
        have o6_ := FO.out.cell 6 _ rfl
        have o7_ := FO.out.cell 7 _ rfl
        have o9_ := FO.out.cell 9 _ rfl
        have o10_ := FO.out.cell 10 _ rfl
        have hnl := FN.out.lt; have hol := FO.out.lt
        have n0F := far_cell hnl n0_
        have n1F := far_cell hnl n1_
        have n2F := far_cell hnl n2_
        have o1F := far_cell hol o1_
        have o6F := far_cell hol o6_
        have o7F := far_cell hol o7_
        have o9F := far_cell hol o9_
        have o10F := far_cell hol o10_
        clear n0_ n1_ n2_ o1_ o6_ o7_ o9_ o10_ hnl hol
        have hqp : 0 < q := HQP.out
        have hji : q - 1 < zh.length := by omega
        have hjc : (q : Int) - 1 < (zh.length : Int) := by omega
        have hw : InK 2 tpC V2 _ zh := HW.out
        obtain ⟨gq, hZA, hga, c0_, c1_⟩ := hw.tp (q - 1) hji
        first | subst hZA | cases hZA
        clear hw
        have HST := Lib.hid (fun x' => start_tp_spec zh[q - 1] (HTR.out.2 (q - 1) hji) x.A0 x.k0 x.A1 x.k1 (far V2 x') (HA.out.below (below_far V2 x')) (HD.out.below (below_far V2 x')) HN.out)
        have HEN := Lib.hid (fun x' => end_tp_spec zh[q - 1] (HTR.out.2 (q - 1) hji) x.A0 x.k0 x.A1 x.k1 (far V2 x') (HA.out.below (below_far V2 x')) (HD.out.below (below_far V2 x')) HN.out)
        rw [getD_at hji] at HV2
        generalize zh[q - 1] = y at *
        have c0F := far_cell hga c0_; have c1F := far_cell hga c1_
        clear c0_ c1_
        generalize trS x.l y = TS at *
        generalize trE x.l y = TE at *
        cases k0 : (zp.toList == zt.toList) with
        | false =>
          have HVF := Lib.hid (HV2.out.trans (show _ = false by cases kk : (PL.toList == zt.toList) with | true => (rw [beq_tr kk]; repeat (first | simp only [k0] | simp only [HQZ.out] | simp only [HGT.out] | simp only [Bool.true_and] | simp only [Bool.false_and] | simp only [Bool.and_false])) | false => repeat (first | simp only [HQZ.out] | simp only [HGT.out] | simp only [Bool.true_and] | simp only [Bool.false_and] | simp only [Bool.and_false])))
          refine wp_region_far (by kernel_rfl) (by kernel_rfl) ?_
          repeat (any_goals (first | go_big_quiet_step ((first | (go_at_call 77; with_reducible exact call_far (HST.out _)) | (go_at_call 51; with_reducible exact call_far (HEN.out _)))) | quiet_step ((first | (go_at_call 77; with_reducible exact call_far (HST.out _)) | (go_at_call 51; with_reducible exact call_far (HEN.out _))))))
          refine wpQuiet_nil ?_; intro wz hw
          have hb : Below V2.heap.size V2 wz := by obtain ⟨u, rfl⟩ := hw; exact below_far V2 u
          replace HB := Lib.hid (HB.out.trans (hb.mono HSZ.out)); replace HSZ := Lib.hid (Nat.le_trans HSZ.out hb.size); replace HA := Lib.hid (HA.out.below hb); replace HD := Lib.hid (HD.out.below hb); replace HW := Lib.hid (HW.out.below hb); replace FN := Lib.hid (FN.out.below hb); replace FO := Lib.hid (FO.out.below hb)
          clear hw hb
          go_wp2
          go_ret
          exact ⟨ret_bool HVF.out.symm, by first | exact HB.out | (rw [HGE.out]; exact HB.out)⟩
        | true =>
          cases k1 : (PL.toList == zt.toList) with
          | false =>
            have HVF := Lib.hid (HV2.out.trans (show _ = false by repeat (first | simp only [k1] | simp only [HQZ.out] | simp only [HGT.out] | simp only [Bool.true_and] | simp only [Bool.false_and] | simp only [Bool.and_false])))
            refine wp_region_far (by kernel_rfl) (by kernel_rfl) ?_
            repeat (any_goals (first | go_big_quiet_step ((first | (go_at_call 77; with_reducible exact call_far (HST.out _)) | (go_at_call 51; with_reducible exact call_far (HEN.out _)))) | quiet_step ((first | (go_at_call 77; with_reducible exact call_far (HST.out _)) | (go_at_call 51; with_reducible exact call_far (HEN.out _))))))
            refine wpQuiet_nil ?_; intro wz hw
            have hb : Below V2.heap.size V2 wz := by obtain ⟨u, rfl⟩ := hw; exact below_far V2 u
            replace HB := Lib.hid (HB.out.trans (hb.mono HSZ.out)); replace HSZ := Lib.hid (Nat.le_trans HSZ.out hb.size); replace HA := Lib.hid (HA.out.below hb); replace HD := Lib.hid (HD.out.below hb); replace HW := Lib.hid (HW.out.below hb); replace FN := Lib.hid (FN.out.below hb); replace FO := Lib.hid (FO.out.below hb)
            clear hw hb
            go_wp2
            go_ret
            exact ⟨ret_bool HVF.out.symm, by first | exact HB.out | (rw [HGE.out]; exact HB.out)⟩
          | true =>
            cases k2 : (ze == TE) with
            | false =>
              have HVF := Lib.hid (HV2.out.trans (show _ = false by rw [beq_tr k1]; repeat (first | simp only [k0] | simp only [k1] | simp only [k2] | simp only [HQZ.out] | simp only [HGT.out] | simp only [Bool.true_and] | simp only [Bool.and_true] | simp only [Bool.false_and] | simp only [Bool.and_false])))
              refine wp_region_far (by kernel_rfl) (by kernel_rfl) ?_
              repeat (any_goals (first | go_big_quiet_step ((first | (go_at_call 77; with_reducible exact call_far (HST.out _)) | (go_at_call 51; with_reducible exact call_far (HEN.out _)))) | quiet_step ((first | (go_at_call 77; with_reducible exact call_far (HST.out _)) | (go_at_call 51; with_reducible exact call_far (HEN.out _))))))
              refine wpQuiet_nil ?_; intro wz hw
              have hb : Below V2.heap.size V2 wz := by obtain ⟨u, rfl⟩ := hw; exact below_far V2 u
              replace HB := Lib.hid (HB.out.trans (hb.mono HSZ.out)); replace HSZ := Lib.hid (Nat.le_trans HSZ.out hb.size); replace HA := Lib.hid (HA.out.below hb); replace HD := Lib.hid (HD.out.below hb); replace HW := Lib.hid (HW.out.below hb); replace FN := Lib.hid (FN.out.below hb); replace FO := Lib.hid (FO.out.below hb)
              clear hw hb
              go_wp2
              go_ret
              exact ⟨ret_bool HVF.out.symm, by first | exact HB.out | (rw [HGE.out]; exact HB.out)⟩
            | true =>
              have HVF := Lib.hid (HV2.out.trans (show _ = true by rw [beq_tr k1]; repeat (first | simp only [k0] | simp only [k1] | simp only [k2] | simp only [HQZ.out] | simp only [HGT.out] | simp only [Bool.true_and] | simp only [Bool.and_true] | simp only [Bool.false_and] | simp only [Bool.and_false])))
              refine wp_region_far (by kernel_rfl) (by kernel_rfl) ?_
              repeat (any_goals (first | go_big_quiet_step ((first | (go_at_call 77; with_reducible exact call_far (HST.out _)) | (go_at_call 51; with_reducible exact call_far (HEN.out _)))) | quiet_step ((first | (go_at_call 77; with_reducible exact call_far (HST.out _)) | (go_at_call 51; with_reducible exact call_far (HEN.out _))))))
              refine wpQuiet_nil ?_; intro wz hw
              have hb : Below V2.heap.size V2 wz := by obtain ⟨u, rfl⟩ := hw; exact below_far V2 u
              replace HB := Lib.hid (HB.out.trans (hb.mono HSZ.out)); replace HSZ := Lib.hid (Nat.le_trans HSZ.out hb.size); replace HA := Lib.hid (HA.out.below hb); replace HD := Lib.hid (HD.out.below hb); replace HW := Lib.hid (HW.out.below hb); replace FN := Lib.hid (FN.out.below hb); replace FO := Lib.hid (FO.out.below hb)
              clear hw hb
              go_wp2
              go_ret
              exact ⟨ret_bool HVF.out.symm, by first | exact HB.out | (rw [HGE.out]; exact HB.out)⟩
      have d3 : (zz == 3) = false := by simp [s3]
      have HVF := Lib.hid (HV2.out.trans (HSN.out s1 s2 s3))
      go_wp2
      go_ret
      exact ⟨ret_bool HVF.out.symm, by first | exact HB.out | (rw [HGE.out]; exact HB.out)⟩
    | false =>
      have hji : q < zh.length := by have := beq_eq_false_iff_ne.1 hG; omega
      have hjc : (q : Int) < (zh.length : Int) := by omega
      have HGT := Lib.hid hG
      have o8_ := FO.out.cell 8 _ rfl
      by_cases s1 : zz = 1
      · have d1 : (zz == 1) = true := by simp [s1]
        replace HV2 := Lib.hid (HV2.out.trans (HSW.out s1)); clear s1 HSW HSR HSD HSN
        go_wp2_with fail
        clear o8_ d1
        have n0_ := FN.out.cell 0 _ rfl
        have n1_ := FN.out.cell 1 _ rfl
        have n2_ := FN.out.cell 2 _ rfl
        have o1_ := FO.out.cell 1 _ rfl
        have o6_ := FO.out.cell 6 _ rfl
        have o7_ := FO.out.cell 7 _ rfl
        have o9_ := FO.out.cell 9 _ rfl
        have o10_ := FO.out.cell 10 _ rfl
        have hnl := FN.out.lt; have hol := FO.out.lt
        have n0F := far_cell hnl n0_
        have n1F := far_cell hnl n1_
        have n2F := far_cell hnl n2_
        have o1F := far_cell hol o1_
        have o6F := far_cell hol o6_
        have o7F := far_cell hol o7_
        have o9F := far_cell hol o9_
        have o10F := far_cell hol o10_
        clear n0_ n1_ n2_ o1_ o6_ o7_ o9_ o10_ hnl hol
        have hw : InK 2 tpC V2 _ zh := HW.out
        obtain ⟨gq, hZA, hga, c0_, c1_⟩ := hw.tp (q) hji
        first | subst hZA | cases hZA
        clear hw
        have HST := Lib.hid (fun x' => start_tp_spec zh[q] (HTR.out.2 (q) hji) x.A0 x.k0 x.A1 x.k1 (far V2 x') (HA.out.below (below_far V2 x')) (HD.out.below (below_far V2 x')) HN.out)
        have HEN := Lib.hid (fun x' => end_tp_spec zh[q] (HTR.out.2 (q) hji) x.A0 x.k0 x.A1 x.k1 (far V2 x') (HA.out.below (below_far V2 x')) (HD.out.below (below_far V2 x')) HN.out)
        rw [getD_at hji] at HV2
        generalize zh[q] = y at *
        have c0F := far_cell hga c0_; have c1F := far_cell hga c1_
        clear c0_ c1_
        generalize trS x.l y = TS at *
        generalize trE x.l y = TE at *
        cases k0 : (zp.toList == PL.toList) with
        | false =>
          have HVF := Lib.hid (HV2.out.trans (show _ = false by repeat (first | simp only [k0] | simp only [HGT.out] | simp only [Bool.true_and] | simp only [Bool.and_true] | simp only [Bool.false_and] | simp only [Bool.and_false] | simp only [Bool.true_or] | simp only [Bool.false_or])))
          refine wp_region_far (by kernel_rfl) (by kernel_rfl) ?_
          repeat (any_goals (first | go_big_quiet_step ((first | (go_at_call 77; with_reducible exact call_far (HST.out _)) | (go_at_call 51; with_reducible exact call_far (HEN.out _)))) | quiet_step ((first | (go_at_call 77; with_reducible exact call_far (HST.out _)) | (go_at_call 51; with_reducible exact call_far (HEN.out _))))))
          refine wpQuiet_nil ?_; intro wz hw
          have hb : Below V2.heap.size V2 wz := by obtain ⟨u, rfl⟩ := hw; exact below_far V2 u
          replace HB := Lib.hid (HB.out.trans (hb.mono HSZ.out)); replace HSZ := Lib.hid (Nat.le_trans HSZ.out hb.size); replace HA := Lib.hid (HA.out.below hb); replace HD := Lib.hid (HD.out.below hb); replace HW := Lib.hid (HW.out.below hb); replace FN := Lib.hid (FN.out.below hb); replace FO := Lib.hid (FO.out.below hb)
          clear hw hb
          go_wp2
          go_ret
          exact ⟨ret_bool HVF.out.symm, by first | exact HB.out | (rw [HGE.out]; exact HB.out)⟩
        | true =>
          cases k1 : !(PL.toList == zt.toList) with
          | false =>
            have kn : (PL.toList != zt.toList) = false := k1
            have HVF := Lib.hid (HV2.out.trans (show _ = false by repeat (first | simp only [k0] | simp only [k1] | simp only [HGT.out] | simp only [Bool.true_and] | simp only [Bool.and_true] | simp only [Bool.false_and] | simp only [Bool.and_false] | simp only [Bool.true_or] | simp only [Bool.false_or])))
            refine wp_region_far (by kernel_rfl) (by kernel_rfl) ?_
            repeat (any_goals (first | go_big_quiet_step ((first | (go_at_call 77; with_reducible exact call_far (HST.out _)) | (go_at_call 51; with_reducible exact call_far (HEN.out _)))) | quiet_step ((first | (go_at_call 77; with_reducible exact call_far (HST.out _)) | (go_at_call 51; with_reducible exact call_far (HEN.out _))))))
            refine wpQuiet_nil ?_; intro wz hw
            have hb : Below V2.heap.size V2 wz := by obtain ⟨u, rfl⟩ := hw; exact below_far V2 u
            replace HB := Lib.hid (HB.out.trans (hb.mono HSZ.out)); replace HSZ := Lib.hid (Nat.le_trans HSZ.out hb.size); replace HA := Lib.hid (HA.out.below hb); replace HD := Lib.hid (HD.out.below hb); replace HW := Lib.hid (HW.out.below hb); replace FN := Lib.hid (FN.out.below hb); replace FO := Lib.hid (FO.out.below hb)
            clear hw hb
            go_wp2
            go_ret
            exact ⟨ret_bool HVF.out.symm, by first | exact HB.out | (rw [HGE.out]; exact HB.out)⟩
          | true =>
            have kn : (PL.toList != zt.toList) = true := k1
            cases k2 : (ze == 0) with
            | false =>
              have HVF := Lib.hid (HV2.out.trans (show _ = false by repeat (first | simp only [k0] | simp only [k1] | simp only [k2] | simp only [HGT.out] | simp only [Bool.true_and] | simp only [Bool.and_true] | simp only [Bool.false_and] | simp only [Bool.and_false] | simp only [Bool.true_or] | simp only [Bool.false_or])))
              refine wp_region_far (by kernel_rfl) (by kernel_rfl) ?_
              repeat (any_goals (first | go_big_quiet_step ((first | (go_at_call 77; with_reducible exact call_far (HST.out _)) | (go_at_call 51; with_reducible exact call_far (HEN.out _)))) | quiet_step ((first | (go_at_call 77; with_reducible exact call_far (HST.out _)) | (go_at_call 51; with_reducible exact call_far (HEN.out _))))))
              refine wpQuiet_nil ?_; intro wz hw
              have hb : Below V2.heap.size V2 wz := by obtain ⟨u, rfl⟩ := hw; exact below_far V2 u
              replace HB := Lib.hid (HB.out.trans (hb.mono HSZ.out)); replace HSZ := Lib.hid (Nat.le_trans HSZ.out hb.size); replace HA := Lib.hid (HA.out.below hb); replace HD := Lib.hid (HD.out.below hb); replace HW := Lib.hid (HW.out.below hb); replace FN := Lib.hid (FN.out.below hb); replace FO := Lib.hid (FO.out.below hb)
              clear hw hb
              go_wp2
              go_ret
              exact ⟨ret_bool HVF.out.symm, by first | exact HB.out | (rw [HGE.out]; exact HB.out)⟩
            | true =>
              cases k3 : decide (now < TS) with
              | false =>
                have HVF := Lib.hid (HV2.out.trans (show _ = false by repeat (first | simp only [k0] | simp only [k1] | simp only [k2] | simp only [k3] | simp only [HGT.out] | simp only [Bool.true_and] | simp only [Bool.and_true] | simp only [Bool.false_and] | simp only [Bool.and_false] | simp only [Bool.true_or] | simp only [Bool.false_or])))
                refine wp_region_far (by kernel_rfl) (by kernel_rfl) ?_
                repeat (any_goals (first | go_big_quiet_step ((first | (go_at_call 77; with_reducible exact call_far (HST.out _)) | (go_at_call 51; with_reducible exact call_far (HEN.out _)))) | quiet_step ((first | (go_at_call 77; with_reducible exact call_far (HST.out _)) | (go_at_call 51; with_reducible exact call_far (HEN.out _))))))
                refine wpQuiet_nil ?_; intro wz hw
                have hb : Below V2.heap.size V2 wz := by obtain ⟨u, rfl⟩ := hw; exact below_far V2 u
                replace HB := Lib.hid (HB.out.trans (hb.mono HSZ.out)); replace HSZ := Lib.hid (Nat.le_trans HSZ.out hb.size); replace HA := Lib.hid (HA.out.below hb); replace HD := Lib.hid (HD.out.below hb); replace HW := Lib.hid (HW.out.below hb); replace FN := Lib.hid (FN.out.below hb); replace FO := Lib.hid (FO.out.below hb)
                clear hw hb
                go_wp2
                go_ret
                exact ⟨ret_bool HVF.out.symm, by first | exact HB.out | (rw [HGE.out]; exact HB.out)⟩
              | true =>
                have HVF := Lib.hid (HV2.out.trans (show _ = true by repeat (first | simp only [k0] | simp only [k1] | simp only [k2] | simp only [k3] | simp only [HGT.out] | simp only [Bool.true_and] | simp only [Bool.and_true] | simp only [Bool.false_and] | simp only [Bool.and_false] | simp only [Bool.true_or] | simp only [Bool.false_or])))
                refine wp_region_far (by kernel_rfl) (by kernel_rfl) ?_
                repeat (any_goals (first | go_big_quiet_step ((first | (go_at_call 77; with_reducible exact call_far (HST.out _)) | (go_at_call 51; with_reducible exact call_far (HEN.out _)))) | quiet_step ((first | (go_at_call 77; with_reducible exact call_far (HST.out _)) | (go_at_call 51; with_reducible exact call_far (HEN.out _))))))
                refine wpQuiet_nil ?_; intro wz hw
                have hb : Below V2.heap.size V2 wz := by obtain ⟨u, rfl⟩ := hw; exact below_far V2 u
                replace HB := Lib.hid (HB.out.trans (hb.mono HSZ.out)); replace HSZ := Lib.hid (Nat.le_trans HSZ.out hb.size); replace HA := Lib.hid (HA.out.below hb); replace HD := Lib.hid (HD.out.below hb); replace HW := Lib.hid (HW.out.below hb); replace FN := Lib.hid (FN.out.below hb); replace FO := Lib.hid (FO.out.below hb)
                clear hw hb
                go_wp2
                go_ret
                exact ⟨ret_bool HVF.out.symm, by first | exact HB.out | (rw [HGE.out]; exact HB.out)⟩
      have d1 : (zz == 1) = false := by simp [s1]
      by_cases s2 : zz = 2
      · have d2 : (zz == 2) = true := by simp [s2]
        replace HV2 := Lib.hid (HV2.out.trans (HSR.out s1 s2)); clear s1 s2 HSW HSR HSD HSN
        go_wp2_with fail
        clear o8_ d1 d2
        have n0_ := FN.out.cell 0 _ rfl
        have n1_ := FN.out.cell 1 _ rfl
        have n2_ := FN.out.cell 2 _ rfl
        have o1_ := FO.out.cell 1 _ rfl
        have o6_ := FO.out.cell 6 _ rfl
        have o7_ := FO.out.cell 7 _ rfl
        have o9_ := FO.out.cell 9 _ rfl
        have o10_ := FO.out.cell 10 _ rfl
        have hnl := FN.out.lt; have hol := FO.out.lt
        have n0F := far_cell hnl n0_
        have n1F := far_cell hnl n1_
        have n2F := far_cell hnl n2_
        have o1F := far_cell hol o1_
        have o6F := far_cell hol o6_
        have o7F := far_cell hol o7_
        have o9F := far_cell hol o9_
        have o10F := far_cell hol o10_
        clear n0_ n1_ n2_ o1_ o6_ o7_ o9_ o10_ hnl hol
        have hw : InK 2 tpC V2 _ zh := HW.out
        obtain ⟨gq, hZA, hga, c0_, c1_⟩ := hw.tp (q) hji
        first | subst hZA | cases hZA
        clear hw
        have HST := Lib.hid (fun x' => start_tp_spec zh[q] (HTR.out.2 (q) hji) x.A0 x.k0 x.A1 x.k1 (far V2 x') (HA.out.below (below_far V2 x')) (HD.out.below (below_far V2 x')) HN.out)
        have HEN := Lib.hid (fun x' => end_tp_spec zh[q] (HTR.out.2 (q) hji) x.A0 x.k0 x.A1 x.k1 (far V2 x') (HA.out.below (below_far V2 x')) (HD.out.below (below_far V2 x')) HN.out)
        rw [getD_at hji] at HV2
        generalize zh[q] = y at *
        have c0F := far_cell hga c0_; have c1F := far_cell hga c1_
        clear c0_ c1_
        generalize trS x.l y = TS at *
        generalize trE x.l y = TE at *
        cases k0 : (zp.toList == (⟨#[]⟩ : ByteArray).toList) with
        | false =>
          have e0 : (⟨#[]⟩ : ByteArray).toList = [] := by rw [ByteArray.toList_eq]
          have ke : (zp.toList == []) = false := by rw [← e0]; exact k0
          clear e0
          have HVF := Lib.hid (HV2.out.trans (show _ = false by repeat (first | simp only [k0] | simp only [HGT.out] | simp only [Bool.true_and] | simp only [Bool.and_true] | simp only [Bool.false_and] | simp only [Bool.and_false] | simp only [Bool.not_true] | simp only [Bool.not_false])))
          refine wp_region_far (by kernel_rfl) (by kernel_rfl) ?_
          repeat (any_goals (first | go_big_quiet_step ((first | (go_at_call 77; with_reducible exact call_far (HST.out _)) | (go_at_call 51; with_reducible exact call_far (HEN.out _)))) | quiet_step ((first | (go_at_call 77; with_reducible exact call_far (HST.out _)) | (go_at_call 51; with_reducible exact call_far (HEN.out _))))))
          refine wpQuiet_nil ?_; intro wz hw
          have hb : Below V2.heap.size V2 wz := by obtain ⟨u, rfl⟩ := hw; exact below_far V2 u
          replace HB := Lib.hid (HB.out.trans (hb.mono HSZ.out)); replace HSZ := Lib.hid (Nat.le_trans HSZ.out hb.size); replace HA := Lib.hid (HA.out.below hb); replace HD := Lib.hid (HD.out.below hb); replace HW := Lib.hid (HW.out.below hb); replace FN := Lib.hid (FN.out.below hb); replace FO := Lib.hid (FO.out.below hb)
          clear hw hb
          go_wp2
          go_ret
          exact ⟨ret_bool HVF.out.symm, by first | exact HB.out | (rw [HGE.out]; exact HB.out)⟩
        | true =>
          have e0 : (⟨#[]⟩ : ByteArray).toList = [] := by rw [ByteArray.toList_eq]
          have ke : (zp.toList == []) = true := by rw [← e0]; exact k0
          clear e0
          cases k1 : (ze == 0) with
          | false =>
            have HVF := Lib.hid (HV2.out.trans (show _ = false by repeat (first | simp only [k0] | simp only [k1] | simp only [HGT.out] | simp only [Bool.true_and] | simp only [Bool.and_true] | simp only [Bool.false_and] | simp only [Bool.and_false] | simp only [Bool.not_true] | simp only [Bool.not_false])))
            refine wp_region_far (by kernel_rfl) (by kernel_rfl) ?_
            repeat (any_goals (first | go_big_quiet_step ((first | (go_at_call 77; with_reducible exact call_far (HST.out _)) | (go_at_call 51; with_reducible exact call_far (HEN.out _)))) | quiet_step ((first | (go_at_call 77; with_reducible exact call_far (HST.out _)) | (go_at_call 51; with_reducible exact call_far (HEN.out _))))))
            refine wpQuiet_nil ?_; intro wz hw
            have hb : Below V2.heap.size V2 wz := by obtain ⟨u, rfl⟩ := hw; exact below_far V2 u
            replace HB := Lib.hid (HB.out.trans (hb.mono HSZ.out)); replace HSZ := Lib.hid (Nat.le_trans HSZ.out hb.size); replace HA := Lib.hid (HA.out.below hb); replace HD := Lib.hid (HD.out.below hb); replace HW := Lib.hid (HW.out.below hb); replace FN := Lib.hid (FN.out.below hb); replace FO := Lib.hid (FO.out.below hb)
            clear hw hb
            go_wp2
            go_ret
            exact ⟨ret_bool HVF.out.symm, by first | exact HB.out | (rw [HGE.out]; exact HB.out)⟩
          | true =>
            cases k2 : decide (TS ≤ now) with
            | false =>
              have HVF := Lib.hid (HV2.out.trans (show _ = false by repeat (first | simp only [k0] | simp only [k1] | simp only [k2] | simp only [HGT.out] | simp only [Bool.true_and] | simp only [Bool.and_true] | simp only [Bool.false_and] | simp only [Bool.and_false] | simp only [Bool.not_true] | simp only [Bool.not_false])))
              refine wp_region_far (by kernel_rfl) (by kernel_rfl) ?_
              repeat (any_goals (first | go_big_quiet_step ((first | (go_at_call 77; with_reducible exact call_far (HST.out _)) | (go_at_call 51; with_reducible exact call_far (HEN.out _)))) | quiet_step ((first | (go_at_call 77; with_reducible exact call_far (HST.out _)) | (go_at_call 51; with_reducible exact call_far (HEN.out _))))))
              refine wpQuiet_nil ?_; intro wz hw
              have hb : Below V2.heap.size V2 wz := by obtain ⟨u, rfl⟩ := hw; exact below_far V2 u
              replace HB := Lib.hid (HB.out.trans (hb.mono HSZ.out)); replace HSZ := Lib.hid (Nat.le_trans HSZ.out hb.size); replace HA := Lib.hid (HA.out.below hb); replace HD := Lib.hid (HD.out.below hb); replace HW := Lib.hid (HW.out.below hb); replace FN := Lib.hid (FN.out.below hb); replace FO := Lib.hid (FO.out.below hb)
              clear hw hb
              go_wp2
              go_ret
              exact ⟨ret_bool HVF.out.symm, by first | exact HB.out | (rw [HGE.out]; exact HB.out)⟩
            | true =>
              cases k3 : decide (now < TE) with
              | false =>
                have HVF := Lib.hid (HV2.out.trans (show _ = false by repeat (first | simp only [k0] | simp only [k1] | simp only [k2] | simp only [k3] | simp only [HGT.out] | simp only [Bool.true_and] | simp only [Bool.and_true] | simp only [Bool.false_and] | simp only [Bool.and_false] | simp only [Bool.not_true] | simp only [Bool.not_false])))
                refine wp_region_far (by kernel_rfl) (by kernel_rfl) ?_
                repeat (any_goals (first | go_big_quiet_step ((first | (go_at_call 77; with_reducible exact call_far (HST.out _)) | (go_at_call 51; with_reducible exact call_far (HEN.out _)))) | quiet_step ((first | (go_at_call 77; with_reducible exact call_far (HST.out _)) | (go_at_call 51; with_reducible exact call_far (HEN.out _))))))
                refine wpQuiet_nil ?_; intro wz hw
                have hb : Below V2.heap.size V2 wz := by obtain ⟨u, rfl⟩ := hw; exact below_far V2 u
                replace HB := Lib.hid (HB.out.trans (hb.mono HSZ.out)); replace HSZ := Lib.hid (Nat.le_trans HSZ.out hb.size); replace HA := Lib.hid (HA.out.below hb); replace HD := Lib.hid (HD.out.below hb); replace HW := Lib.hid (HW.out.below hb); replace FN := Lib.hid (FN.out.below hb); replace FO := Lib.hid (FO.out.below hb)
                clear hw hb
                go_wp2
                go_ret
                exact ⟨ret_bool HVF.out.symm, by first | exact HB.out | (rw [HGE.out]; exact HB.out)⟩
              | true =>
                have HVF := Lib.hid (HV2.out.trans (show _ = true by repeat (first | simp only [k0] | simp only [k1] | simp only [k2] | simp only [k3] | simp only [HGT.out] | simp only [Bool.true_and] | simp only [Bool.and_true] | simp only [Bool.false_and] | simp only [Bool.and_false] | simp only [Bool.not_true] | simp only [Bool.not_false])))
                refine wp_region_far (by kernel_rfl) (by kernel_rfl) ?_
                repeat (any_goals (first | go_big_quiet_step ((first | (go_at_call 77; with_reducible exact call_far (HST.out _)) | (go_at_call 51; with_reducible exact call_far (HEN.out _)))) | quiet_step ((first | (go_at_call 77; with_reducible exact call_far (HST.out _)) | (go_at_call 51; with_reducible exact call_far (HEN.out _))))))
                refine wpQuiet_nil ?_; intro wz hw
                have hb : Below V2.heap.size V2 wz := by obtain ⟨u, rfl⟩ := hw; exact below_far V2 u
                replace HB := Lib.hid (HB.out.trans (hb.mono HSZ.out)); replace HSZ := Lib.hid (Nat.le_trans HSZ.out hb.size); replace HA := Lib.hid (HA.out.below hb); replace HD := Lib.hid (HD.out.below hb); replace HW := Lib.hid (HW.out.below hb); replace FN := Lib.hid (FN.out.below hb); replace FO := Lib.hid (FO.out.below hb)
                clear hw hb
                go_wp2
                go_ret
                exact ⟨ret_bool HVF.out.symm, by first | exact HB.out | (rw [HGE.out]; exact HB.out)⟩
      have d2 : (zz == 2) = false := by simp [s2]
      by_cases s3 : zz = 3
      · have d3 : (zz == 3) = true := by simp [s3]
        replace HV2 := Lib.hid (HV2.out.trans (HSD.out s1 s2 s3)); clear s1 s2 s3 HSW HSR HSD HSN
        go_wp2_with fail
        clear o8_ d1 d2 d3
        have n0_ := FN.out.cell 0 _ rfl
        have n1_ := FN.out.cell 1 _ rfl
        have n2_ := FN.out.cell 2 _ rfl
        have o1_ := FO.out.cell 1 _ rfl
        have o6_ := FO.out.cell 6 _ rfl
        have o7_ := FO.out.cell 7 _ rfl
        have o9_ := FO.out.cell 9 _ rfl
        have o10_ := FO.out.cell 10 _ rfl
        have hnl := FN.out.lt; have hol := FO.out.lt
        have n0F := far_cell hnl n0_
        have n1F := far_cell hnl n1_
        have n2F := far_cell hnl n2_
        have o1F := far_cell hol o1_
        have o6F := far_cell hol o6_
        have o7F := far_cell hol o7_
        have o9F := far_cell hol o9_
        have o10F := far_cell hol o10_
        clear n0_ n1_ n2_ o1_ o6_ o7_ o9_ o10_ hnl hol
        cases k0 : (zp.toList == zt.toList) with
        | false =>
          have HVF := Lib.hid (HV2.out.trans (show _ = false by cases kk : (PL.toList == zt.toList) with | true => (rw [beq_tr kk]; repeat (first | simp only [k0] | simp only [HQZ.out] | simp only [HGT.out] | simp only [Bool.true_and] | simp only [Bool.false_and] | simp only [Bool.and_false])) | false => repeat (first | simp only [HQZ.out] | simp only [HGT.out] | simp only [Bool.true_and] | simp only [Bool.false_and] | simp only [Bool.and_false])))
          refine wp_region_far (by kernel_rfl) (by kernel_rfl) ?_
          repeat (any_goals (first | go_big_quiet_step (fail) | quiet_step (fail)))
          refine wpQuiet_nil ?_; intro wz hw
          have hb : Below V2.heap.size V2 wz := by obtain ⟨u, rfl⟩ := hw; exact below_far V2 u
          replace HB := Lib.hid (HB.out.trans (hb.mono HSZ.out)); replace HSZ := Lib.hid (Nat.le_trans HSZ.out hb.size); replace HA := Lib.hid (HA.out.below hb); replace HD := Lib.hid (HD.out.below hb); replace HW := Lib.hid (HW.out.below hb); replace FN := Lib.hid (FN.out.below hb); replace FO := Lib.hid (FO.out.below hb)
          clear hw hb
          go_wp2
          go_ret
          exact ⟨ret_bool HVF.out.symm, by first | exact HB.out | (rw [HGE.out]; exact HB.out)⟩
        | true =>
          cases k1 : (PL.toList == zt.toList) with
          | false =>
            have HVF := Lib.hid (HV2.out.trans (show _ = false by repeat (first | simp only [k1] | simp only [HQZ.out] | simp only [HGT.out] | simp only [Bool.true_and] | simp only [Bool.false_and] | simp only [Bool.and_false])))
            refine wp_region_far (by kernel_rfl) (by kernel_rfl) ?_
            repeat (any_goals (first | go_big_quiet_step (fail) | quiet_step (fail)))
            refine wpQuiet_nil ?_; intro wz hw
            have hb : Below V2.heap.size V2 wz := by obtain ⟨u, rfl⟩ := hw; exact below_far V2 u
            replace HB := Lib.hid (HB.out.trans (hb.mono HSZ.out)); replace HSZ := Lib.hid (Nat.le_trans HSZ.out hb.size); replace HA := Lib.hid (HA.out.below hb); replace HD := Lib.hid (HD.out.below hb); replace HW := Lib.hid (HW.out.below hb); replace FN := Lib.hid (FN.out.below hb); replace FO := Lib.hid (FO.out.below hb)
            clear hw hb
            go_wp2
            go_ret
            exact ⟨ret_bool HVF.out.symm, by first | exact HB.out | (rw [HGE.out]; exact HB.out)⟩
          | true =>
            have HVF := Lib.hid (HV2.out.trans (show _ = false by rw [beq_tr k1]; repeat (first | simp only [k0] | simp only [k1] | simp only [HQZ.out] | simp only [HGT.out] | simp only [Bool.true_and] | simp only [Bool.and_true] | simp only [Bool.false_and] | simp only [Bool.and_false])))
            refine wp_region_far (by kernel_rfl) (by kernel_rfl) ?_
            repeat (any_goals (first | go_big_quiet_step (fail) | quiet_step (fail)))
            refine wpQuiet_nil ?_; intro wz hw
            have hb : Below V2.heap.size V2 wz := by obtain ⟨u, rfl⟩ := hw; exact below_far V2 u
            replace HB := Lib.hid (HB.out.trans (hb.mono HSZ.out)); replace HSZ := Lib.hid (Nat.le_trans HSZ.out hb.size); replace HA := Lib.hid (HA.out.below hb); replace HD := Lib.hid (HD.out.below hb); replace HW := Lib.hid (HW.out.below hb); replace FN := Lib.hid (FN.out.below hb); replace FO := Lib.hid (FO.out.below hb)
            clear hw hb
            go_wp2
            go_ret
            exact ⟨ret_bool HVF.out.symm, by first | exact HB.out | (rw [HGE.out]; exact HB.out)⟩
      have d3 : (zz == 3) = false := by simp [s3]
      have HVF := Lib.hid (HV2.out.trans (HSN.out s1 s2 s3))
      go_wp2
      go_ret
      exact ⟨ret_bool HVF.out.symm, by first | exact HB.out | (rw [HGE.out]; exact HB.out)⟩
end Go.Proofs.YtadcmngooobeiabGreat

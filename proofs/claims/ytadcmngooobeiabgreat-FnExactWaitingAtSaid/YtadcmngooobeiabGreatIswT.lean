/- Where an order is: isSomewhere. Written by mk/isw6.py. -/
import Derived.Test.YtadcmngooobeiabGreatIswW
import Derived.Test.YtadcmngooobeiabGreatBg
import Derived.Deep.RegionHeld3
namespace Go.Proofs.YtadcmngooobeiabGreat
open Go.RowKit
def stateB (l : List Lg) (now : Int) (z : OrRD) : Bool :=
  if z.z = 1 then (z.e == 0) && ((z.p.toList == (ordPl l z z.g.toNat).toList) && (!((ordPl l z z.g.toNat).toList == z.t.toList) && (((z.g == (z.h.length : Int)) || decide (now < trS l (z.h.getD z.g.toNat ⟨0, 0⟩))))))
  else if z.z = 2 then (z.e == 0) && ((z.p.toList == (⟨#[]⟩ : ByteArray).toList) && (!(z.g == (z.h.length : Int)) && (decide (trS l (z.h.getD z.g.toNat ⟨0, 0⟩) ≤ now) && (decide (now < trE l (z.h.getD z.g.toNat ⟨0, 0⟩))))))
  else if z.z = 3 then decide (0 < z.g) && ((z.g == (z.h.length : Int)) && ((z.p.toList == (ordPl l z z.g.toNat).toList) && (((ordPl l z z.g.toNat).toList == z.t.toList) && ((z.e == trE l (z.h.getD (z.g.toNat - 1) ⟨0, 0⟩))))))
  else false
set_option maxRecDepth 100000 in
set_option maxHeartbeats 16000000 in
theorem is_some (z : OrR) (b o : Nat) (x : Wp) (B : Nat) (w : World) (h : OrAt w b o z) (hx : WoAt w B x) (hz : WorSz x) (hm : z.h.length ≤ 1048576) (hg : 0 ≤ z.g ∧ z.g ≤ z.h.length) (hT : tripsB x.l x.zs x.c z.h = true) :
    Calls Tryz.prog 108 #[.pointer (some ⟨b, o, none⟩), .pointer (some ⟨B, 0, none⟩)] w fun e w' => e = .returned (.bool (stateB x.l x.n z.d)) ∧ Below w.heap.size w w' := by
  obtain ⟨zf, zt, zs, zm, za, zu, zh, zg, zz, zp, ze, zA, zk⟩ := z
  dsimp only [OrR.d] at hm hg hT ⊢
  obtain ⟨q, rfl⟩ : ∃ q : Nat, zg = (q : Int) := ⟨zg.toNat, by omega⟩
  have hq : q ≤ zh.length := by omega
  clear hg
  have HTR := Lib.hid (tripsB_iff.1 hT); clear hT
  have HTG := Lib.hid (show ∀ j (hj : j < zh.length), ∃ k : Nat, zh[j].g = k ∧ k < x.l.length from fun j hj => by
    obtain ⟨_, _, k, h1, h2, _⟩ := trB_of (HTR.out.2 j hj)
    exact ⟨k, h1, h2⟩)
  have HM := Lib.hid hm
  have HSW := Lib.hid (fun (h : zz = 1) => show stateB x.l x.n ⟨zf, zt, zs, zm, za, zu, zh, (q : Int), zz, zp, ze⟩ = ((ze == 0) && ((zp.toList == (ordPl x.l ⟨zf, zt, zs, zm, za, zu, zh, (q : Int), zz, zp, ze⟩ q).toList) && (!((ordPl x.l ⟨zf, zt, zs, zm, za, zu, zh, (q : Int), zz, zp, ze⟩ q).toList == zt.toList) && ((((q : Int) == (zh.length : Int)) || decide (x.n < trS x.l (zh.getD q ⟨0, 0⟩))))))) from if_pos h)
  have HSR := Lib.hid (fun (h1 : ¬ zz = 1) (h : zz = 2) => show stateB x.l x.n ⟨zf, zt, zs, zm, za, zu, zh, (q : Int), zz, zp, ze⟩ = ((ze == 0) && ((zp.toList == (⟨#[]⟩ : ByteArray).toList) && (!((q : Int) == (zh.length : Int)) && (decide (trS x.l (zh.getD q ⟨0, 0⟩) ≤ x.n) && (decide (x.n < trE x.l (zh.getD q ⟨0, 0⟩))))))) from (if_neg h1).trans (if_pos h))
  have HSD := Lib.hid (fun (h1 : ¬ zz = 1) (h2 : ¬ zz = 2) (h : zz = 3) => show stateB x.l x.n ⟨zf, zt, zs, zm, za, zu, zh, (q : Int), zz, zp, ze⟩ = (decide (0 < (q : Int)) && (((q : Int) == (zh.length : Int)) && ((zp.toList == (ordPl x.l ⟨zf, zt, zs, zm, za, zu, zh, (q : Int), zz, zp, ze⟩ q).toList) && (((ordPl x.l ⟨zf, zt, zs, zm, za, zu, zh, (q : Int), zz, zp, ze⟩ q).toList == zt.toList) && ((ze == trE x.l (zh.getD (q - 1) ⟨0, 0⟩))))))) from (if_neg h1).trans ((if_neg h2).trans (if_pos h)))
  have HSN := Lib.hid (fun (h1 : ¬ zz = 1) (h2 : ¬ zz = 2) (h3 : ¬ zz = 3) => show stateB x.l x.n ⟨zf, zt, zs, zm, za, zu, zh, (q : Int), zz, zp, ze⟩ = false from (if_neg h1).trans ((if_neg h2).trans (if_neg h3)))
  have HO := Lib.hid h; clear h
  have HX := Lib.hid hx; clear hx
  have HZ := Lib.hid hz; clear hz
  have HPL := Lib.hid (fun W (h : Below w.heap.size w W) => place_any ⟨zf, zt, zs, zm, za, zu, zh, (q : Int), zz, zp, ze, zA, zk⟩ b o x q W (HO.out.below h) (HX.out.below h).i.l HTG.out hq HM.out)
  dsimp only [OrR.d] at HPL
  generalize stateB x.l x.n ⟨zf, zt, zs, zm, za, zu, zh, (q : Int), zz, zp, ze⟩ = V at *
  generalize ordPl x.l ⟨zf, zt, zs, zm, za, zu, zh, (q : Int), zz, zp, ze⟩ q = PL at *
  have b0_ := HX.out.bx.cell 0 _ rfl
  have b1_ := HX.out.bx.cell 1 _ rfl
  have b2_ := HX.out.bx.cell 2 _ rfl
  have o7_ := HO.out.c7
  dsimp only at o7_
  have hxl := HX.out.bx.lt; have hol := HO.out.lt
  go_enter Tryz.func108, Tryz.ntmps108
  go_upto_region 1 with (fail)
  go_cut [5, 6] from 8 (fun v5 v6 wx => (∃ G, v5 = .pointer (some ⟨G, 0, none⟩) ∧ Bx 36 wx G [.slice x.A0 x.l.length x.k0, .slice x.A1 x.zs.length x.k1, .int .i64 x.c]) ∧ v6 = .string PL ∧ Below w.heap.size w wx)
  case first =>
    obtain ⟨WW, hWW⟩ : ∃ W : World, W = w := ⟨_, rfl⟩
    subst hWW
    have nB1 : ¬ WW.heap.size = B := by omega
    have nB2 : ¬ B = WW.heap.size := by omega
    have nb1 : ¬ WW.heap.size = b := by omega
    have nb2 : ¬ b = WW.heap.size := by omega
    go_region_held3 (fun w' => w'.cell? ⟨B, 0, none⟩ = some (.slice x.A0 x.l.length x.k0) ∧ w'.cell? ⟨B, 1, none⟩ = some (.slice x.A1 x.zs.length x.k1) ∧ w'.cell? ⟨B, 2, none⟩ = some (.int .i64 x.c) ∧ w'.cell? ⟨b, o + 7, none⟩ = some (.int .i64 (q : Int)))
      (go_keep)
      (first
        | (go_at_call 109; refine (HPL.out _ ?_).mono ?_; (focus (first | exact Below.refl _ _ | exact (Below.refl _ _).drew | exact (Below.refl _ _).alloc (Nat.le_refl _) _ | exact ((Below.refl _ _).alloc (Nat.le_refl _) _).drew)); (rintro e w7 ⟨rfl, hb⟩; (first | (have hb1 : Below WW.heap.size WW w7 := below_undrew hb) | (have hb1 : Below WW.heap.size WW w7 := hb) | (have hbz : Below (WW.alloc (.cells ⟨[.slice none 0 0, .slice none 0 0, .int .i64 0]⟩ 36)).heap.size (WW.alloc (.cells ⟨[.slice none 0 0, .slice none 0 0, .int .i64 0]⟩ 36)) w7 := below_undrew hb; have hb1 : Below WW.heap.size WW w7 := al_below hbz; have fz := (Bx.new (T := 36) WW [.slice none 0 0, .slice none 0 0, .int .i64 0]).below hbz; have z0 := fz.cell 0 _ rfl; have z1 := fz.cell 1 _ rfl; have z2 := fz.cell 2 _ rfl; have y0 := fz.free 0; have y1 := fz.free 1; have y2 := fz.free 2) | (have hbz : Below (WW.alloc (.cells ⟨[.slice none 0 0, .slice none 0 0, .int .i64 0]⟩ 36)).heap.size (WW.alloc (.cells ⟨[.slice none 0 0, .slice none 0 0, .int .i64 0]⟩ 36)) w7 := hb; have hb1 : Below WW.heap.size WW w7 := al_below hbz; have fz := (Bx.new (T := 36) WW [.slice none 0 0, .slice none 0 0, .int .i64 0]).below hbz; have z0 := fz.cell 0 _ rfl; have z1 := fz.cell 1 _ rfl; have z2 := fz.cell 2 _ rfl; have y0 := fz.free 0; have y1 := fz.free 1; have y2 := fz.free 2)); have eb0 := (hb1.cell (p := ⟨B, 0, none⟩) hxl).trans b0_; have eb1 := (hb1.cell (p := ⟨B, 1, none⟩) hxl).trans b1_; have eb2 := (hb1.cell (p := ⟨B, 2, none⟩) hxl).trans b2_; have eo7 := (hb1.cell (p := ⟨b, o + 7, none⟩) hol).trans o7_))
        | fail)
    all_goals go_wp2
    all_goals go_meet
    all_goals first
      | exact ⟨⟨_, rfl, Bx.new _ _⟩, rfl, hb1.alloc hb1.size _⟩
      | exact ⟨⟨_, rfl, ((fz.set 0 _).set 1 _).set 2 _⟩, rfl, ((hb1.setCell (Nat.le_refl _) _).setCell (Nat.le_refl _) _).setCell (Nat.le_refl _) _⟩
  case rest =>
    obtain ⟨⟨G, rfl, hbx⟩, rfl, hb⟩ := hcut
    generalize wc = V0 at *
    have HB := Lib.hid hb
    replace HO := Lib.hid (HO.out.below hb)
    replace HX := Lib.hid (HX.out.below hb)
    have FN := Lib.hid hbx
    clear hb hbx b0_ b1_ b2_ o7_ hxl hol HPL
    go_upto_region 2 with (fail)
    cases hG : ((q : Int) == (zh.length : Int)) with
    | true =>
      have n0_ := FN.out.cell 0 _ rfl
      have n1_ := FN.out.cell 1 _ rfl
      have n2_ := FN.out.cell 2 _ rfl
      have o1_ := HO.out.c1
      have o6_ := HO.out.c6
      have o7_ := HO.out.c7
      have o9_ := HO.out.c9
      have o10_ := HO.out.c10
      dsimp only at o1_ o6_ o7_ o9_ o10_
      have b6_ := HX.out.bx.cell 6 _ rfl
      have hxl := HX.out.bx.lt; have hnl := FN.out.lt; have hol := HO.out.lt
      have b6F := far_cell hxl b6_
      have n0F := far_cell hnl n0_
      have n1F := far_cell hnl n1_
      have n2F := far_cell hnl n2_
      have o1F := far_cell hol o1_
      have o6F := far_cell hol o6_
      have o7F := far_cell hol o7_
      have o9F := far_cell hol o9_
      have o10F := far_cell hol o10_
      clear n0_ n1_ n2_ o1_ o6_ o7_ o9_ o10_ b6_ hxl hnl hol
      refine wp_region_far (by kernel_rfl) (by kernel_rfl) ?_
      repeat (any_goals (first | go_big_quiet_step (fail) | quiet_step (fail)))
      refine wpQuiet_nil ?_; intro V1 hw
      have hb : Below V0.heap.size V0 V1 := by obtain ⟨u, rfl⟩ := hw; exact below_far V0 u
      replace HB := Lib.hid (HB.out.trans (hb.mono HB.out.size)); replace HX := Lib.hid (HX.out.below hb); replace HO := Lib.hid (HO.out.below hb); replace FN := Lib.hid (FN.out.below hb)
      clear hw hb b6F n0F n1F n2F o1F o6F o7F o9F o10F
      have hql : q = zh.length := by have := beq_iff_eq.1 hG; omega
      have HQL := Lib.hid hql; clear hql
      have HGT := Lib.hid hG; clear hG
      have o8_ := HO.out.c8
      dsimp only at o8_
      by_cases s1 : zz = 1
      · have d1 : (zz == 1) = true := by simp [s1]
        have HVS := Lib.hid (HSW.out s1); clear s1 HSW HSR HSD HSN
        go_wp2_with fail
        clear o8_ d1
        have n0_ := FN.out.cell 0 _ rfl
        have n1_ := FN.out.cell 1 _ rfl
        have n2_ := FN.out.cell 2 _ rfl
        have o1_ := HO.out.c1
        have o6_ := HO.out.c6
        have o7_ := HO.out.c7
        have o9_ := HO.out.c9
        have o10_ := HO.out.c10
        dsimp only at o1_ o6_ o7_ o9_ o10_
        have b6_ := HX.out.bx.cell 6 _ rfl
        have hxl := HX.out.bx.lt; have hnl := FN.out.lt; have hol := HO.out.lt
        have b6F := far_cell hxl b6_
        have n0F := far_cell hnl n0_
        have n1F := far_cell hnl n1_
        have n2F := far_cell hnl n2_
        have o1F := far_cell hol o1_
        have o6F := far_cell hol o6_
        have o7F := far_cell hol o7_
        have o9F := far_cell hol o9_
        have o10F := far_cell hol o10_
        clear n0_ n1_ n2_ o1_ o6_ o7_ o9_ o10_ b6_ hxl hnl hol
        cases k0 : (ze == 0) with
        | false =>
          have HVF := Lib.hid (HVS.out.trans (show _ = false by rw [HGT.out, k0]; rfl))
          refine wp_region_far (by kernel_rfl) (by kernel_rfl) ?_
          repeat (any_goals (first | go_big_quiet_step (fail) | quiet_step (fail)))
          refine wpQuiet_nil ?_; intro wz hw
          have hb : Below V1.heap.size V1 wz := by obtain ⟨u, rfl⟩ := hw; exact below_far V1 u
          replace HB := Lib.hid (HB.out.trans (hb.mono HB.out.size)); replace HX := Lib.hid (HX.out.below hb); replace HO := Lib.hid (HO.out.below hb); replace FN := Lib.hid (FN.out.below hb)
          clear hw hb
          go_wp2
          go_ret
          exact ⟨ret_bool HVF.out.symm, HB.out⟩
        | true =>
          cases k1 : (zp.toList == PL.toList) with
          | false =>
            have HVF := Lib.hid (HVS.out.trans (show _ = false by rw [HGT.out, k0, k1]; rfl))
            refine wp_region_far (by kernel_rfl) (by kernel_rfl) ?_
            repeat (any_goals (first | go_big_quiet_step (fail) | quiet_step (fail)))
            refine wpQuiet_nil ?_; intro wz hw
            have hb : Below V1.heap.size V1 wz := by obtain ⟨u, rfl⟩ := hw; exact below_far V1 u
            replace HB := Lib.hid (HB.out.trans (hb.mono HB.out.size)); replace HX := Lib.hid (HX.out.below hb); replace HO := Lib.hid (HO.out.below hb); replace FN := Lib.hid (FN.out.below hb)
            clear hw hb
            go_wp2
            go_ret
            exact ⟨ret_bool HVF.out.symm, HB.out⟩
          | true =>
            cases k2 : !(PL.toList == zt.toList) with
            | false =>
              have kn : (PL.toList != zt.toList) = false := k2
              have HVF := Lib.hid (HVS.out.trans (show _ = false by rw [HGT.out, k0, k1, k2]; rfl))
              refine wp_region_far (by kernel_rfl) (by kernel_rfl) ?_
              repeat (any_goals (first | go_big_quiet_step (fail) | quiet_step (fail)))
              refine wpQuiet_nil ?_; intro wz hw
              have hb : Below V1.heap.size V1 wz := by obtain ⟨u, rfl⟩ := hw; exact below_far V1 u
              replace HB := Lib.hid (HB.out.trans (hb.mono HB.out.size)); replace HX := Lib.hid (HX.out.below hb); replace HO := Lib.hid (HO.out.below hb); replace FN := Lib.hid (FN.out.below hb)
              clear hw hb
              go_wp2
              go_ret
              exact ⟨ret_bool HVF.out.symm, HB.out⟩
            | true =>
              have kn : (PL.toList != zt.toList) = true := k2
              have HVF := Lib.hid (HVS.out.trans (show _ = true by rw [HGT.out, k0, k1, k2]; rfl))
              refine wp_region_far (by kernel_rfl) (by kernel_rfl) ?_
              repeat (any_goals (first | go_big_quiet_step (fail) | quiet_step (fail)))
              refine wpQuiet_nil ?_; intro wz hw
              have hb : Below V1.heap.size V1 wz := by obtain ⟨u, rfl⟩ := hw; exact below_far V1 u
              replace HB := Lib.hid (HB.out.trans (hb.mono HB.out.size)); replace HX := Lib.hid (HX.out.below hb); replace HO := Lib.hid (HO.out.below hb); replace FN := Lib.hid (FN.out.below hb)
              clear hw hb
              go_wp2
              go_ret
              exact ⟨ret_bool HVF.out.symm, HB.out⟩
      have d1 : (zz == 1) = false := by simp [s1]
      by_cases s2 : zz = 2
      · have d2 : (zz == 2) = true := by simp [s2]
        have HVS := Lib.hid (HSR.out s1 s2); clear s1 s2 HSW HSR HSD HSN
        go_wp2_with fail
        clear o8_ d1 d2
        have n0_ := FN.out.cell 0 _ rfl
        have n1_ := FN.out.cell 1 _ rfl
        have n2_ := FN.out.cell 2 _ rfl
        have o1_ := HO.out.c1
        have o6_ := HO.out.c6
        have o7_ := HO.out.c7
        have o9_ := HO.out.c9
        have o10_ := HO.out.c10
        dsimp only at o1_ o6_ o7_ o9_ o10_
        have b6_ := HX.out.bx.cell 6 _ rfl
        have hxl := HX.out.bx.lt; have hnl := FN.out.lt; have hol := HO.out.lt
        have b6F := far_cell hxl b6_
        have n0F := far_cell hnl n0_
        have n1F := far_cell hnl n1_
        have n2F := far_cell hnl n2_
        have o1F := far_cell hol o1_
        have o6F := far_cell hol o6_
        have o7F := far_cell hol o7_
        have o9F := far_cell hol o9_
        have o10F := far_cell hol o10_
        clear n0_ n1_ n2_ o1_ o6_ o7_ o9_ o10_ b6_ hxl hnl hol
        cases k0 : (ze == 0) with
        | false =>
          have HVF := Lib.hid (HVS.out.trans (show _ = false by rw [HGT.out, k0]; rfl))
          refine wp_region_far (by kernel_rfl) (by kernel_rfl) ?_
          repeat (any_goals (first | go_big_quiet_step (fail) | quiet_step (fail)))
          refine wpQuiet_nil ?_; intro wz hw
          have hb : Below V1.heap.size V1 wz := by obtain ⟨u, rfl⟩ := hw; exact below_far V1 u
          replace HB := Lib.hid (HB.out.trans (hb.mono HB.out.size)); replace HX := Lib.hid (HX.out.below hb); replace HO := Lib.hid (HO.out.below hb); replace FN := Lib.hid (FN.out.below hb)
          clear hw hb
          go_wp2
          go_ret
          exact ⟨ret_bool HVF.out.symm, HB.out⟩
        | true =>
          cases k1 : (zp.toList == (⟨#[]⟩ : ByteArray).toList) with
          | false =>
            have e0 : (⟨#[]⟩ : ByteArray).toList = [] := by rw [ByteArray.toList_eq]
            have ke : (zp.toList == []) = false := by rw [← e0]; exact k1
            clear e0
            have HVF := Lib.hid (HVS.out.trans (show _ = false by rw [HGT.out, k0, k1]; rfl))
            refine wp_region_far (by kernel_rfl) (by kernel_rfl) ?_
            repeat (any_goals (first | go_big_quiet_step (fail) | quiet_step (fail)))
            refine wpQuiet_nil ?_; intro wz hw
            have hb : Below V1.heap.size V1 wz := by obtain ⟨u, rfl⟩ := hw; exact below_far V1 u
            replace HB := Lib.hid (HB.out.trans (hb.mono HB.out.size)); replace HX := Lib.hid (HX.out.below hb); replace HO := Lib.hid (HO.out.below hb); replace FN := Lib.hid (FN.out.below hb)
            clear hw hb
            go_wp2
            go_ret
            exact ⟨ret_bool HVF.out.symm, HB.out⟩
          | true =>
            have e0 : (⟨#[]⟩ : ByteArray).toList = [] := by rw [ByteArray.toList_eq]
            have ke : (zp.toList == []) = true := by rw [← e0]; exact k1
            clear e0
            have HVF := Lib.hid (HVS.out.trans (show _ = false by rw [HGT.out, k0, k1]; rfl))
            refine wp_region_far (by kernel_rfl) (by kernel_rfl) ?_
            repeat (any_goals (first | go_big_quiet_step (fail) | quiet_step (fail)))
            refine wpQuiet_nil ?_; intro wz hw
            have hb : Below V1.heap.size V1 wz := by obtain ⟨u, rfl⟩ := hw; exact below_far V1 u
            replace HB := Lib.hid (HB.out.trans (hb.mono HB.out.size)); replace HX := Lib.hid (HX.out.below hb); replace HO := Lib.hid (HO.out.below hb); replace FN := Lib.hid (FN.out.below hb)
            clear hw hb
            go_wp2
            go_ret
            exact ⟨ret_bool HVF.out.symm, HB.out⟩
      have d2 : (zz == 2) = false := by simp [s2]
      by_cases s3 : zz = 3
      · have d3 : (zz == 3) = true := by simp [s3]
        have HVS := Lib.hid (HSD.out s1 s2 s3); clear s1 s2 s3 HSW HSR HSD HSN
        go_wp2_with fail
        clear o8_ d1 d2 d3
        have n0_ := FN.out.cell 0 _ rfl
        have n1_ := FN.out.cell 1 _ rfl
        have n2_ := FN.out.cell 2 _ rfl
        have o1_ := HO.out.c1
        have o6_ := HO.out.c6
        have o7_ := HO.out.c7
        have o9_ := HO.out.c9
        have o10_ := HO.out.c10
        dsimp only at o1_ o6_ o7_ o9_ o10_
        have b6_ := HX.out.bx.cell 6 _ rfl
        have hxl := HX.out.bx.lt; have hnl := FN.out.lt; have hol := HO.out.lt
        have b6F := far_cell hxl b6_
        have n0F := far_cell hnl n0_
        have n1F := far_cell hnl n1_
        have n2F := far_cell hnl n2_
        have o1F := far_cell hol o1_
        have o6F := far_cell hol o6_
        have o7F := far_cell hol o7_
        have o9F := far_cell hol o9_
        have o10F := far_cell hol o10_
        clear n0_ n1_ n2_ o1_ o6_ o7_ o9_ o10_ b6_ hxl hnl hol
        cases kq : decide (0 < (q : Int)) with
        | false =>
          have HVF := Lib.hid (HVS.out.trans (show _ = false by rw [kq]; rfl))
          have hqn : ¬ 0 < q := by have := of_decide_eq_false kq; omega
          refine wp_region_far (by kernel_rfl) (by kernel_rfl) ?_
          repeat (any_goals (first | go_big_quiet_step (fail) | quiet_step (fail)))
          refine wpQuiet_nil ?_; intro wz hw
          have hb : Below V1.heap.size V1 wz := by obtain ⟨u, rfl⟩ := hw; exact below_far V1 u
          replace HB := Lib.hid (HB.out.trans (hb.mono HB.out.size)); replace HX := Lib.hid (HX.out.below hb); replace HO := Lib.hid (HO.out.below hb); replace FN := Lib.hid (FN.out.below hb)
          clear hw hb
          go_wp2
          go_ret
          exact ⟨ret_bool HVF.out.symm, HB.out⟩
        | true =>
          have hqp : 0 < q := by have := of_decide_eq_true kq; omega
          have hji : q - 1 < zh.length := by have := HQL.out; omega
          have hjc : (q : Int) - 1 < (zh.length : Int) := by have := HQL.out; omega
          have hw : InK 2 tpC V1 zA zh := HO.out.way
          obtain ⟨ga, rfl, hga, c0_, c1_⟩ := hw.tp (q - 1) hji
          clear hw
          have HST := Lib.hid (fun x' => start_tp_impl zh[q - 1] (HTR.out.2 (q - 1) hji) x.A0 x.k0 x.A1 x.k1 (far V1 x') (HX.out.below (below_far V1 x')).i.l (HX.out.below (below_far V1 x')).i.zs HZ.out.l)
          have HEN := Lib.hid (fun x' => end_tp_impl zh[q - 1] (HTR.out.2 (q - 1) hji) x.A0 x.k0 x.A1 x.k1 (far V1 x') (HX.out.below (below_far V1 x')).i.l (HX.out.below (below_far V1 x')).i.zs HZ.out.l)
          rw [getD_at hji] at HVS
          generalize zh[q - 1] = y at *
          have c0F := far_cell hga c0_; have c1F := far_cell hga c1_
          clear c0_ c1_
          generalize trS x.l y = TS at *
          generalize trE x.l y = TE at *
          cases k0 : (zp.toList == PL.toList) with
          | false =>
            have HVF := Lib.hid (HVS.out.trans (show _ = false by rw [kq, HGT.out, k0]; rfl))
            refine wp_region_far (by kernel_rfl) (by kernel_rfl) ?_
            repeat (any_goals (first | go_big_quiet_step ((first | (go_at_call 111; with_reducible exact call_far (HST.out _)) | (go_at_call 85; with_reducible exact call_far (HEN.out _)))) | quiet_step ((first | (go_at_call 111; with_reducible exact call_far (HST.out _)) | (go_at_call 85; with_reducible exact call_far (HEN.out _))))))
            refine wpQuiet_nil ?_; intro wz hw
            have hb : Below V1.heap.size V1 wz := by obtain ⟨u, rfl⟩ := hw; exact below_far V1 u
            replace HB := Lib.hid (HB.out.trans (hb.mono HB.out.size)); replace HX := Lib.hid (HX.out.below hb); replace HO := Lib.hid (HO.out.below hb); replace FN := Lib.hid (FN.out.below hb)
            clear hw hb
            go_wp2
            go_ret
            exact ⟨ret_bool HVF.out.symm, HB.out⟩
          | true =>
            cases k1 : (PL.toList == zt.toList) with
            | false =>
              have HVF := Lib.hid (HVS.out.trans (show _ = false by rw [kq, HGT.out, k0, k1]; rfl))
              refine wp_region_far (by kernel_rfl) (by kernel_rfl) ?_
              repeat (any_goals (first | go_big_quiet_step ((first | (go_at_call 111; with_reducible exact call_far (HST.out _)) | (go_at_call 85; with_reducible exact call_far (HEN.out _)))) | quiet_step ((first | (go_at_call 111; with_reducible exact call_far (HST.out _)) | (go_at_call 85; with_reducible exact call_far (HEN.out _))))))
              refine wpQuiet_nil ?_; intro wz hw
              have hb : Below V1.heap.size V1 wz := by obtain ⟨u, rfl⟩ := hw; exact below_far V1 u
              replace HB := Lib.hid (HB.out.trans (hb.mono HB.out.size)); replace HX := Lib.hid (HX.out.below hb); replace HO := Lib.hid (HO.out.below hb); replace FN := Lib.hid (FN.out.below hb)
              clear hw hb
              go_wp2
              go_ret
              exact ⟨ret_bool HVF.out.symm, HB.out⟩
            | true =>
              cases k2 : (ze == TE) with
              | false =>
                have HVF := Lib.hid (HVS.out.trans (show _ = false by rw [kq, HGT.out, k0, k1, k2]; rfl))
                refine wp_region_far (by kernel_rfl) (by kernel_rfl) ?_
                repeat (any_goals (first | go_big_quiet_step ((first | (go_at_call 111; with_reducible exact call_far (HST.out _)) | (go_at_call 85; with_reducible exact call_far (HEN.out _)))) | quiet_step ((first | (go_at_call 111; with_reducible exact call_far (HST.out _)) | (go_at_call 85; with_reducible exact call_far (HEN.out _))))))
                refine wpQuiet_nil ?_; intro wz hw
                have hb : Below V1.heap.size V1 wz := by obtain ⟨u, rfl⟩ := hw; exact below_far V1 u
                replace HB := Lib.hid (HB.out.trans (hb.mono HB.out.size)); replace HX := Lib.hid (HX.out.below hb); replace HO := Lib.hid (HO.out.below hb); replace FN := Lib.hid (FN.out.below hb)
                clear hw hb
                go_wp2
                go_ret
                exact ⟨ret_bool HVF.out.symm, HB.out⟩
              | true =>
                have HVF := Lib.hid (HVS.out.trans (show _ = true by rw [kq, HGT.out, k0, k1, k2]; rfl))
                refine wp_region_far (by kernel_rfl) (by kernel_rfl) ?_
                repeat (any_goals (first | go_big_quiet_step ((first | (go_at_call 111; with_reducible exact call_far (HST.out _)) | (go_at_call 85; with_reducible exact call_far (HEN.out _)))) | quiet_step ((first | (go_at_call 111; with_reducible exact call_far (HST.out _)) | (go_at_call 85; with_reducible exact call_far (HEN.out _))))))
                refine wpQuiet_nil ?_; intro wz hw
                have hb : Below V1.heap.size V1 wz := by obtain ⟨u, rfl⟩ := hw; exact below_far V1 u
                replace HB := Lib.hid (HB.out.trans (hb.mono HB.out.size)); replace HX := Lib.hid (HX.out.below hb); replace HO := Lib.hid (HO.out.below hb); replace FN := Lib.hid (FN.out.below hb)
                clear hw hb
                go_wp2
                go_ret
                exact ⟨ret_bool HVF.out.symm, HB.out⟩
      have d3 : (zz == 3) = false := by simp [s3]
      have HVF := Lib.hid (HSN.out s1 s2 s3)
      go_wp2
      go_ret
      exact ⟨ret_bool HVF.out.symm, HB.out⟩
    | false =>
      have n0_ := FN.out.cell 0 _ rfl
      have n1_ := FN.out.cell 1 _ rfl
      have n2_ := FN.out.cell 2 _ rfl
      have o1_ := HO.out.c1
      have o6_ := HO.out.c6
      have o7_ := HO.out.c7
      have o9_ := HO.out.c9
      have o10_ := HO.out.c10
      dsimp only at o1_ o6_ o7_ o9_ o10_
      have b6_ := HX.out.bx.cell 6 _ rfl
      have hxl := HX.out.bx.lt; have hnl := FN.out.lt; have hol := HO.out.lt
      have b6F := far_cell hxl b6_
      have n0F := far_cell hnl n0_
      have n1F := far_cell hnl n1_
      have n2F := far_cell hnl n2_
      have o1F := far_cell hol o1_
      have o6F := far_cell hol o6_
      have o7F := far_cell hol o7_
      have o9F := far_cell hol o9_
      have o10F := far_cell hol o10_
      clear n0_ n1_ n2_ o1_ o6_ o7_ o9_ o10_ b6_ hxl hnl hol
      refine wp_region_far (by kernel_rfl) (by kernel_rfl) ?_
      repeat (any_goals (first | go_big_quiet_step (fail) | quiet_step (fail)))
      refine wpQuiet_nil ?_; intro V1 hw
      have hb : Below V0.heap.size V0 V1 := by obtain ⟨u, rfl⟩ := hw; exact below_far V0 u
      replace HB := Lib.hid (HB.out.trans (hb.mono HB.out.size)); replace HX := Lib.hid (HX.out.below hb); replace HO := Lib.hid (HO.out.below hb); replace FN := Lib.hid (FN.out.below hb)
      clear hw hb b6F n0F n1F n2F o1F o6F o7F o9F o10F
      have hji : q < zh.length := by have := beq_eq_false_iff_ne.1 hG; omega
      have hjc : (q : Int) < (zh.length : Int) := by omega
      have o8_ := HO.out.c8
      dsimp only at o8_
      by_cases s1 : zz = 1
      · have d1 : (zz == 1) = true := by simp [s1]
        have HVS := Lib.hid (HSW.out s1); clear s1 HSW HSR HSD HSN
        go_wp2_with fail
        clear o8_ d1
        have n0_ := FN.out.cell 0 _ rfl
        have n1_ := FN.out.cell 1 _ rfl
        have n2_ := FN.out.cell 2 _ rfl
        have o1_ := HO.out.c1
        have o6_ := HO.out.c6
        have o7_ := HO.out.c7
        have o9_ := HO.out.c9
        have o10_ := HO.out.c10
        dsimp only at o1_ o6_ o7_ o9_ o10_
        have b6_ := HX.out.bx.cell 6 _ rfl
        have hxl := HX.out.bx.lt; have hnl := FN.out.lt; have hol := HO.out.lt
        have b6F := far_cell hxl b6_
        have n0F := far_cell hnl n0_
        have n1F := far_cell hnl n1_
        have n2F := far_cell hnl n2_
        have o1F := far_cell hol o1_
        have o6F := far_cell hol o6_
        have o7F := far_cell hol o7_
        have o9F := far_cell hol o9_
        have o10F := far_cell hol o10_
        clear n0_ n1_ n2_ o1_ o6_ o7_ o9_ o10_ b6_ hxl hnl hol
        have hw : InK 2 tpC V1 zA zh := HO.out.way
        obtain ⟨ga, rfl, hga, c0_, c1_⟩ := hw.tp (q) hji
        clear hw
        have HST := Lib.hid (fun x' => start_tp_impl zh[q] (HTR.out.2 (q) hji) x.A0 x.k0 x.A1 x.k1 (far V1 x') (HX.out.below (below_far V1 x')).i.l (HX.out.below (below_far V1 x')).i.zs HZ.out.l)
        have HEN := Lib.hid (fun x' => end_tp_impl zh[q] (HTR.out.2 (q) hji) x.A0 x.k0 x.A1 x.k1 (far V1 x') (HX.out.below (below_far V1 x')).i.l (HX.out.below (below_far V1 x')).i.zs HZ.out.l)
        rw [getD_at hji] at HVS
        generalize zh[q] = y at *
        have c0F := far_cell hga c0_; have c1F := far_cell hga c1_
        clear c0_ c1_
        generalize trS x.l y = TS at *
        generalize trE x.l y = TE at *
        cases k0 : (ze == 0) with
        | false =>
          have HVF := Lib.hid (HVS.out.trans (show _ = false by rw [hG, k0]; rfl))
          refine wp_region_far (by kernel_rfl) (by kernel_rfl) ?_
          repeat (any_goals (first | go_big_quiet_step ((first | (go_at_call 111; with_reducible exact call_far (HST.out _)) | (go_at_call 85; with_reducible exact call_far (HEN.out _)))) | quiet_step ((first | (go_at_call 111; with_reducible exact call_far (HST.out _)) | (go_at_call 85; with_reducible exact call_far (HEN.out _))))))
          refine wpQuiet_nil ?_; intro wz hw
          have hb : Below V1.heap.size V1 wz := by obtain ⟨u, rfl⟩ := hw; exact below_far V1 u
          replace HB := Lib.hid (HB.out.trans (hb.mono HB.out.size)); replace HX := Lib.hid (HX.out.below hb); replace HO := Lib.hid (HO.out.below hb); replace FN := Lib.hid (FN.out.below hb)
          clear hw hb
          go_wp2
          go_ret
          exact ⟨ret_bool HVF.out.symm, HB.out⟩
        | true =>
          cases k1 : (zp.toList == PL.toList) with
          | false =>
            have HVF := Lib.hid (HVS.out.trans (show _ = false by rw [hG, k0, k1]; rfl))
            refine wp_region_far (by kernel_rfl) (by kernel_rfl) ?_
            repeat (any_goals (first | go_big_quiet_step ((first | (go_at_call 111; with_reducible exact call_far (HST.out _)) | (go_at_call 85; with_reducible exact call_far (HEN.out _)))) | quiet_step ((first | (go_at_call 111; with_reducible exact call_far (HST.out _)) | (go_at_call 85; with_reducible exact call_far (HEN.out _))))))
            refine wpQuiet_nil ?_; intro wz hw
            have hb : Below V1.heap.size V1 wz := by obtain ⟨u, rfl⟩ := hw; exact below_far V1 u
            replace HB := Lib.hid (HB.out.trans (hb.mono HB.out.size)); replace HX := Lib.hid (HX.out.below hb); replace HO := Lib.hid (HO.out.below hb); replace FN := Lib.hid (FN.out.below hb)
            clear hw hb
            go_wp2
            go_ret
            exact ⟨ret_bool HVF.out.symm, HB.out⟩
          | true =>
            cases k2 : !(PL.toList == zt.toList) with
            | false =>
              have kn : (PL.toList != zt.toList) = false := k2
              have HVF := Lib.hid (HVS.out.trans (show _ = false by rw [hG, k0, k1, k2]; rfl))
              refine wp_region_far (by kernel_rfl) (by kernel_rfl) ?_
              repeat (any_goals (first | go_big_quiet_step ((first | (go_at_call 111; with_reducible exact call_far (HST.out _)) | (go_at_call 85; with_reducible exact call_far (HEN.out _)))) | quiet_step ((first | (go_at_call 111; with_reducible exact call_far (HST.out _)) | (go_at_call 85; with_reducible exact call_far (HEN.out _))))))
              refine wpQuiet_nil ?_; intro wz hw
              have hb : Below V1.heap.size V1 wz := by obtain ⟨u, rfl⟩ := hw; exact below_far V1 u
              replace HB := Lib.hid (HB.out.trans (hb.mono HB.out.size)); replace HX := Lib.hid (HX.out.below hb); replace HO := Lib.hid (HO.out.below hb); replace FN := Lib.hid (FN.out.below hb)
              clear hw hb
              go_wp2
              go_ret
              exact ⟨ret_bool HVF.out.symm, HB.out⟩
            | true =>
              have kn : (PL.toList != zt.toList) = true := k2
              cases k3 : decide (x.n < TS) with
              | false =>
                have HVF := Lib.hid (HVS.out.trans (show _ = false by rw [hG, k0, k1, k2, k3]; rfl))
                refine wp_region_far (by kernel_rfl) (by kernel_rfl) ?_
                repeat (any_goals (first | go_big_quiet_step ((first | (go_at_call 111; with_reducible exact call_far (HST.out _)) | (go_at_call 85; with_reducible exact call_far (HEN.out _)))) | quiet_step ((first | (go_at_call 111; with_reducible exact call_far (HST.out _)) | (go_at_call 85; with_reducible exact call_far (HEN.out _))))))
                refine wpQuiet_nil ?_; intro wz hw
                have hb : Below V1.heap.size V1 wz := by obtain ⟨u, rfl⟩ := hw; exact below_far V1 u
                replace HB := Lib.hid (HB.out.trans (hb.mono HB.out.size)); replace HX := Lib.hid (HX.out.below hb); replace HO := Lib.hid (HO.out.below hb); replace FN := Lib.hid (FN.out.below hb)
                clear hw hb
                go_wp2
                go_ret
                exact ⟨ret_bool HVF.out.symm, HB.out⟩
              | true =>
                have HVF := Lib.hid (HVS.out.trans (show _ = true by rw [hG, k0, k1, k2, k3]; rfl))
                refine wp_region_far (by kernel_rfl) (by kernel_rfl) ?_
                repeat (any_goals (first | go_big_quiet_step ((first | (go_at_call 111; with_reducible exact call_far (HST.out _)) | (go_at_call 85; with_reducible exact call_far (HEN.out _)))) | quiet_step ((first | (go_at_call 111; with_reducible exact call_far (HST.out _)) | (go_at_call 85; with_reducible exact call_far (HEN.out _))))))
                refine wpQuiet_nil ?_; intro wz hw
                have hb : Below V1.heap.size V1 wz := by obtain ⟨u, rfl⟩ := hw; exact below_far V1 u
                replace HB := Lib.hid (HB.out.trans (hb.mono HB.out.size)); replace HX := Lib.hid (HX.out.below hb); replace HO := Lib.hid (HO.out.below hb); replace FN := Lib.hid (FN.out.below hb)
                clear hw hb
                go_wp2
                go_ret
                exact ⟨ret_bool HVF.out.symm, HB.out⟩
      have d1 : (zz == 1) = false := by simp [s1]
      by_cases s2 : zz = 2
      · have d2 : (zz == 2) = true := by simp [s2]
        have HVS := Lib.hid (HSR.out s1 s2); clear s1 s2 HSW HSR HSD HSN
        go_wp2_with fail
        clear o8_ d1 d2
        have n0_ := FN.out.cell 0 _ rfl
        have n1_ := FN.out.cell 1 _ rfl
        have n2_ := FN.out.cell 2 _ rfl
        have o1_ := HO.out.c1
        have o6_ := HO.out.c6
        have o7_ := HO.out.c7
        have o9_ := HO.out.c9
        have o10_ := HO.out.c10
        dsimp only at o1_ o6_ o7_ o9_ o10_
        have b6_ := HX.out.bx.cell 6 _ rfl
        have hxl := HX.out.bx.lt; have hnl := FN.out.lt; have hol := HO.out.lt
        have b6F := far_cell hxl b6_
        have n0F := far_cell hnl n0_
        have n1F := far_cell hnl n1_
        have n2F := far_cell hnl n2_
        have o1F := far_cell hol o1_
        have o6F := far_cell hol o6_
        have o7F := far_cell hol o7_
        have o9F := far_cell hol o9_
        have o10F := far_cell hol o10_
        clear n0_ n1_ n2_ o1_ o6_ o7_ o9_ o10_ b6_ hxl hnl hol
        have hw : InK 2 tpC V1 zA zh := HO.out.way
        obtain ⟨ga, rfl, hga, c0_, c1_⟩ := hw.tp (q) hji
        clear hw
        have HST := Lib.hid (fun x' => start_tp_impl zh[q] (HTR.out.2 (q) hji) x.A0 x.k0 x.A1 x.k1 (far V1 x') (HX.out.below (below_far V1 x')).i.l (HX.out.below (below_far V1 x')).i.zs HZ.out.l)
        have HEN := Lib.hid (fun x' => end_tp_impl zh[q] (HTR.out.2 (q) hji) x.A0 x.k0 x.A1 x.k1 (far V1 x') (HX.out.below (below_far V1 x')).i.l (HX.out.below (below_far V1 x')).i.zs HZ.out.l)
        rw [getD_at hji] at HVS
        generalize zh[q] = y at *
        have c0F := far_cell hga c0_; have c1F := far_cell hga c1_
        clear c0_ c1_
        generalize trS x.l y = TS at *
        generalize trE x.l y = TE at *
        cases k0 : (ze == 0) with
        | false =>
          have HVF := Lib.hid (HVS.out.trans (show _ = false by rw [hG, k0]; rfl))
          refine wp_region_far (by kernel_rfl) (by kernel_rfl) ?_
          repeat (any_goals (first | go_big_quiet_step ((first | (go_at_call 111; with_reducible exact call_far (HST.out _)) | (go_at_call 85; with_reducible exact call_far (HEN.out _)))) | quiet_step ((first | (go_at_call 111; with_reducible exact call_far (HST.out _)) | (go_at_call 85; with_reducible exact call_far (HEN.out _))))))
          refine wpQuiet_nil ?_; intro wz hw
          have hb : Below V1.heap.size V1 wz := by obtain ⟨u, rfl⟩ := hw; exact below_far V1 u
          replace HB := Lib.hid (HB.out.trans (hb.mono HB.out.size)); replace HX := Lib.hid (HX.out.below hb); replace HO := Lib.hid (HO.out.below hb); replace FN := Lib.hid (FN.out.below hb)
          clear hw hb
          go_wp2
          go_ret
          exact ⟨ret_bool HVF.out.symm, HB.out⟩
        | true =>
          cases k1 : (zp.toList == (⟨#[]⟩ : ByteArray).toList) with
          | false =>
            have e0 : (⟨#[]⟩ : ByteArray).toList = [] := by rw [ByteArray.toList_eq]
            have ke : (zp.toList == []) = false := by rw [← e0]; exact k1
            clear e0
            have HVF := Lib.hid (HVS.out.trans (show _ = false by rw [hG, k0, k1]; rfl))
            refine wp_region_far (by kernel_rfl) (by kernel_rfl) ?_
            repeat (any_goals (first | go_big_quiet_step ((first | (go_at_call 111; with_reducible exact call_far (HST.out _)) | (go_at_call 85; with_reducible exact call_far (HEN.out _)))) | quiet_step ((first | (go_at_call 111; with_reducible exact call_far (HST.out _)) | (go_at_call 85; with_reducible exact call_far (HEN.out _))))))
            refine wpQuiet_nil ?_; intro wz hw
            have hb : Below V1.heap.size V1 wz := by obtain ⟨u, rfl⟩ := hw; exact below_far V1 u
            replace HB := Lib.hid (HB.out.trans (hb.mono HB.out.size)); replace HX := Lib.hid (HX.out.below hb); replace HO := Lib.hid (HO.out.below hb); replace FN := Lib.hid (FN.out.below hb)
            clear hw hb
            go_wp2
            go_ret
            exact ⟨ret_bool HVF.out.symm, HB.out⟩
          | true =>
            have e0 : (⟨#[]⟩ : ByteArray).toList = [] := by rw [ByteArray.toList_eq]
            have ke : (zp.toList == []) = true := by rw [← e0]; exact k1
            clear e0
            cases k2 : decide (TS ≤ x.n) with
            | false =>
              have HVF := Lib.hid (HVS.out.trans (show _ = false by rw [hG, k0, k1, k2]; rfl))
              refine wp_region_far (by kernel_rfl) (by kernel_rfl) ?_
              repeat (any_goals (first | go_big_quiet_step ((first | (go_at_call 111; with_reducible exact call_far (HST.out _)) | (go_at_call 85; with_reducible exact call_far (HEN.out _)))) | quiet_step ((first | (go_at_call 111; with_reducible exact call_far (HST.out _)) | (go_at_call 85; with_reducible exact call_far (HEN.out _))))))
              refine wpQuiet_nil ?_; intro wz hw
              have hb : Below V1.heap.size V1 wz := by obtain ⟨u, rfl⟩ := hw; exact below_far V1 u
              replace HB := Lib.hid (HB.out.trans (hb.mono HB.out.size)); replace HX := Lib.hid (HX.out.below hb); replace HO := Lib.hid (HO.out.below hb); replace FN := Lib.hid (FN.out.below hb)
              clear hw hb
              go_wp2
              go_ret
              exact ⟨ret_bool HVF.out.symm, HB.out⟩
            | true =>
              cases k3 : decide (x.n < TE) with
              | false =>
                have HVF := Lib.hid (HVS.out.trans (show _ = false by rw [hG, k0, k1, k2, k3]; rfl))
                refine wp_region_far (by kernel_rfl) (by kernel_rfl) ?_
                repeat (any_goals (first | go_big_quiet_step ((first | (go_at_call 111; with_reducible exact call_far (HST.out _)) | (go_at_call 85; with_reducible exact call_far (HEN.out _)))) | quiet_step ((first | (go_at_call 111; with_reducible exact call_far (HST.out _)) | (go_at_call 85; with_reducible exact call_far (HEN.out _))))))
                refine wpQuiet_nil ?_; intro wz hw
                have hb : Below V1.heap.size V1 wz := by obtain ⟨u, rfl⟩ := hw; exact below_far V1 u
                replace HB := Lib.hid (HB.out.trans (hb.mono HB.out.size)); replace HX := Lib.hid (HX.out.below hb); replace HO := Lib.hid (HO.out.below hb); replace FN := Lib.hid (FN.out.below hb)
                clear hw hb
                go_wp2
                go_ret
                exact ⟨ret_bool HVF.out.symm, HB.out⟩
              | true =>
                have HVF := Lib.hid (HVS.out.trans (show _ = true by rw [hG, k0, k1, k2, k3]; rfl))
                refine wp_region_far (by kernel_rfl) (by kernel_rfl) ?_
                repeat (any_goals (first | go_big_quiet_step ((first | (go_at_call 111; with_reducible exact call_far (HST.out _)) | (go_at_call 85; with_reducible exact call_far (HEN.out _)))) | quiet_step ((first | (go_at_call 111; with_reducible exact call_far (HST.out _)) | (go_at_call 85; with_reducible exact call_far (HEN.out _))))))
                refine wpQuiet_nil ?_; intro wz hw
                have hb : Below V1.heap.size V1 wz := by obtain ⟨u, rfl⟩ := hw; exact below_far V1 u
                replace HB := Lib.hid (HB.out.trans (hb.mono HB.out.size)); replace HX := Lib.hid (HX.out.below hb); replace HO := Lib.hid (HO.out.below hb); replace FN := Lib.hid (FN.out.below hb)
                clear hw hb
                go_wp2
                go_ret
                exact ⟨ret_bool HVF.out.symm, HB.out⟩
      have d2 : (zz == 2) = false := by simp [s2]
      by_cases s3 : zz = 3
      · have d3 : (zz == 3) = true := by simp [s3]
        have HVS := Lib.hid (HSD.out s1 s2 s3); clear s1 s2 s3 HSW HSR HSD HSN
        go_wp2_with fail
        clear o8_ d1 d2 d3
        have n0_ := FN.out.cell 0 _ rfl
        have n1_ := FN.out.cell 1 _ rfl
        have n2_ := FN.out.cell 2 _ rfl
        have o1_ := HO.out.c1
        have o6_ := HO.out.c6
        have o7_ := HO.out.c7
        have o9_ := HO.out.c9
        have o10_ := HO.out.c10
        dsimp only at o1_ o6_ o7_ o9_ o10_
        have b6_ := HX.out.bx.cell 6 _ rfl
        have hxl := HX.out.bx.lt; have hnl := FN.out.lt; have hol := HO.out.lt
        have b6F := far_cell hxl b6_
        have n0F := far_cell hnl n0_
        have n1F := far_cell hnl n1_
        have n2F := far_cell hnl n2_
        have o1F := far_cell hol o1_
        have o6F := far_cell hol o6_
        have o7F := far_cell hol o7_
        have o9F := far_cell hol o9_
        have o10F := far_cell hol o10_
        clear n0_ n1_ n2_ o1_ o6_ o7_ o9_ o10_ b6_ hxl hnl hol
        cases k0 : decide (0 < (q : Int)) with
        | false =>
          have hqn : ¬ 0 < q := by have := of_decide_eq_false k0; omega
          have HVF := Lib.hid (HVS.out.trans (show _ = false by rw [hG, k0]; rfl))
          refine wp_region_far (by kernel_rfl) (by kernel_rfl) ?_
          repeat (any_goals (first | go_big_quiet_step (fail) | quiet_step (fail)))
          refine wpQuiet_nil ?_; intro wz hw
          have hb : Below V1.heap.size V1 wz := by obtain ⟨u, rfl⟩ := hw; exact below_far V1 u
          replace HB := Lib.hid (HB.out.trans (hb.mono HB.out.size)); replace HX := Lib.hid (HX.out.below hb); replace HO := Lib.hid (HO.out.below hb); replace FN := Lib.hid (FN.out.below hb)
          clear hw hb
          go_wp2
          go_ret
          exact ⟨ret_bool HVF.out.symm, HB.out⟩
        | true =>
          have hqp : 0 < q := by have := of_decide_eq_true k0; omega
          have HVF := Lib.hid (HVS.out.trans (show _ = false by rw [hG, k0]; rfl))
          refine wp_region_far (by kernel_rfl) (by kernel_rfl) ?_
          repeat (any_goals (first | go_big_quiet_step (fail) | quiet_step (fail)))
          refine wpQuiet_nil ?_; intro wz hw
          have hb : Below V1.heap.size V1 wz := by obtain ⟨u, rfl⟩ := hw; exact below_far V1 u
          replace HB := Lib.hid (HB.out.trans (hb.mono HB.out.size)); replace HX := Lib.hid (HX.out.below hb); replace HO := Lib.hid (HO.out.below hb); replace FN := Lib.hid (FN.out.below hb)
          clear hw hb
          go_wp2
          go_ret
          exact ⟨ret_bool HVF.out.symm, HB.out⟩
      have d3 : (zz == 3) = false := by simp [s3]
      have HVF := Lib.hid (HSN.out s1 s2 s3)
      go_wp2
      go_ret
      exact ⟨ret_bool HVF.out.symm, HB.out⟩
end Go.Proofs.YtadcmngooobeiabGreat

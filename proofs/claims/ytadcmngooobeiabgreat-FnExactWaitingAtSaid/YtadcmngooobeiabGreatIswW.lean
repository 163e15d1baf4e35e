/- The way of an order: hasWay. Written by mk/isw5.py. -/
import Derived.Test.YtadcmngooobeiabGreatOrd1
import Derived.Test.YtadcmngooobeiabGreatIsWay
import Derived.Test.YtadcmngooobeiabGreatIswR
import Derived.Deep.Cut
namespace Go.Proofs.YtadcmngooobeiabGreat
open Go.RowKit
def noEnd (l : List Lg) (z : OrRD) (k : Nat) : Bool := decide (k = 0) || !((ordPl l z k).toList == z.t.toList)
def goneB (l : List Lg) (now : Int) (z : OrRD) : Bool := decide (z.g = 0) || decide (trE l (z.h.getD (z.g.toNat - 1) ⟨0, 0⟩) ≤ now)
def wayB (l : List Lg) (zs : List Int) (c now : Int) (z : OrRD) : Bool := tripsB l zs c z.h && (decide (0 ≤ z.g) && (decide (z.g ≤ (z.h.length : Int)) && (iswB l zs c z.h z.f (ordPl l z z.h.length) (z.a + 1) && ((List.range z.h.length).all (noEnd l z) && (goneB l now z)))))
theorem place_any (z : OrR) (b o : Nat) (x : Wp) (c : Nat) (w : World) (h : OrAt w b o z) (hA : InK 6 lgC w x.A0 x.l) (hT : ∀ j (hj : j < z.h.length), ∃ k : Nat, z.h[j].g = k ∧ k < x.l.length) (hc : c ≤ z.h.length) (hm : z.h.length ≤ 1048576) :
    Calls Tryz.prog 109 #[.pointer (some ⟨b, o, none⟩), .agg #[.slice x.A0 x.l.length x.k0, .slice x.A1 x.zs.length x.k1, .int .i64 x.c], .int .i64 (c : Int)] w fun e w' => e = .returned (.string (ordPl x.l z.d c)) ∧ Below w.heap.size w w' := by
  cases c with
  | zero => exact place_zero z b o x w h
  | succ j =>
    obtain ⟨k, hk, hkl⟩ := hT j (by omega)
    have e : ((j + 1 : Nat) : Int) = (j : Int) + 1 := by omega
    rw [e]
    exact place_pos z b o x j k w h hA (by omega) hkl hk hm
set_option maxRecDepth 100000 in
set_option maxHeartbeats 8000000 in
theorem has_way (z : OrR) (b o : Nat) (x : Wp) (B : Nat) (w : World) (h : OrAt w b o z) (hx : WoAt w B x) (hz : WorSz x) (hm : z.h.length ≤ 1048576) (ha : 0 ≤ z.a ∧ z.a ≤ 100000) :
    Calls Tryz.prog 106 #[.pointer (some ⟨b, o, none⟩), .pointer (some ⟨B, 0, none⟩)] w fun e w' => e = .returned (.bool (wayB x.l x.zs x.c x.n z.d)) ∧ Below w.heap.size w w' := by
  obtain ⟨zf, zt, zs, zm, za, zu, zh, zg, zz, zp, ze, zA, zk⟩ := z
  dsimp only [OrR.d] at hm ha ⊢
  have HV := Lib.hid (show wayB x.l x.zs x.c x.n ⟨zf, zt, zs, zm, za, zu, zh, zg, zz, zp, ze⟩ = (tripsB x.l x.zs x.c zh && (decide (0 ≤ zg) && (decide (zg ≤ (zh.length : Int)) && (iswB x.l x.zs x.c zh zf (ordPl x.l ⟨zf, zt, zs, zm, za, zu, zh, zg, zz, zp, ze⟩ zh.length) (za + 1) && ((List.range zh.length).all (noEnd x.l ⟨zf, zt, zs, zm, za, zu, zh, zg, zz, zp, ze⟩) && (goneB x.l x.n ⟨zf, zt, zs, zm, za, zu, zh, zg, zz, zp, ze⟩)))))) from rfl)
  generalize wayB x.l x.zs x.c x.n ⟨zf, zt, zs, zm, za, zu, zh, zg, zz, zp, ze⟩ = V at *
  have HO := Lib.hid h; clear h
  have HX := Lib.hid hx; clear hx
  have HZ := Lib.hid hz; clear hz
  have HM := Lib.hid hm
  have b0_ := HX.out.bx.cell 0 _ rfl
  have b1_ := HX.out.bx.cell 1 _ rfl
  have b2_ := HX.out.bx.cell 2 _ rfl
  have hbA := (Below.refl w.heap.size w).alloc (Nat.le_refl _) (.cells ⟨[.slice x.A0 x.l.length x.k0, .slice x.A1 x.zs.length x.k1, .int .i64 x.c]⟩ 36)
  have FN := Lib.hid (Bx.new (T := 36) w [.slice x.A0 x.l.length x.k0, .slice x.A1 x.zs.length x.k1, .int .i64 x.c])
  have HB := Lib.hid hbA
  replace HO := Lib.hid (HO.out.below hbA)
  have HX1 := Lib.hid (HX.out.below hbA)
  clear hbA
  go_enter Tryz.func106, Tryz.ntmps106
  go_wp2_with fail
  clear b0_ b1_ b2_ HX
  have HX := HX1; clear HX1
  have HSZ := Lib.hid (show w.heap.size ≤ (w.alloc (.cells ⟨[.slice x.A0 x.l.length x.k0, .slice x.A1 x.zs.length x.k1, .int .i64 x.c]⟩ 36)).heap.size by simp)
  generalize hG : w.heap.size = G at *
  have HGE := Lib.hid hG; clear hG
  change Hid (Bx 36 (w.alloc (.cells ⟨[.slice x.A0 x.l.length x.k0, .slice x.A1 x.zs.length x.k1, .int .i64 x.c]⟩ 36)) G [.slice x.A0 x.l.length x.k0, .slice x.A1 x.zs.length x.k1, .int .i64 x.c]) at FN
  change Hid (Below G w (w.alloc (.cells ⟨[.slice x.A0 x.l.length x.k0, .slice x.A1 x.zs.length x.k1, .int .i64 x.c]⟩ 36))) at HB
  change Hid (WoAt (w.alloc (.cells ⟨[.slice x.A0 x.l.length x.k0, .slice x.A1 x.zs.length x.k1, .int .i64 x.c]⟩ 36)) B x) at HX
  change Hid (OrAt (w.alloc (.cells ⟨[.slice x.A0 x.l.length x.k0, .slice x.A1 x.zs.length x.k1, .int .i64 x.c]⟩ 36)) b o ⟨zf, zt, zs, zm, za, zu, zh, zg, zz, zp, ze, zA, zk⟩) at HO
  change Hid (G ≤ (w.alloc (.cells ⟨[.slice x.A0 x.l.length x.k0, .slice x.A1 x.zs.length x.k1, .int .i64 x.c]⟩ 36)).heap.size) at HSZ
  change Code.wp _ _ _ _ (w.alloc (.cells ⟨[.slice x.A0 x.l.length x.k0, .slice x.A1 x.zs.length x.k1, .int .i64 x.c]⟩ 36))
  generalize w.alloc (.cells ⟨[.slice x.A0 x.l.length x.k0, .slice x.A1 x.zs.length x.k1, .int .i64 x.c]⟩ 36) = V0 at *
  have n0_ := FN.out.cell 0 _ rfl
  have n1_ := FN.out.cell 1 _ rfl
  have n2_ := FN.out.cell 2 _ rfl
  have o6_ := HO.out.c6
  have o7_ := HO.out.c7
  dsimp only at o6_ o7_
  have hnl := FN.out.lt; have hol := HO.out.lt
  have n0F := far_cell hnl n0_
  have n1F := far_cell hnl n1_
  have n2F := far_cell hnl n2_
  have o6F := far_cell hol o6_
  have o7F := far_cell hol o7_
  clear n0_ n1_ n2_ o6_ o7_ hnl hol
  have HC := Lib.hid (fun x' => are_trips zA zk zh x.A0 x.k0 x.l x.A1 x.k1 x.zs x.c (far V0 x') (HX.out.below (below_far V0 x')).i.l (HX.out.below (below_far V0 x')).i.zs (HO.out.below (below_far V0 x')).way HZ.out.ls HZ.out.l HZ.out.zs HM.out)
  cases hT : tripsB x.l x.zs x.c zh with
  | false =>
    rw [hT] at HC
    have HVF := Lib.hid (HV.out.trans (show _ = false by rw [hT]; simp only [Bool.false_and]))
    refine wp_region_far (by kernel_rfl) (by kernel_rfl) ?_
    repeat (any_goals (first | go_big_quiet_step ((go_at_call 84; with_reducible exact call_far (HC.out _))) | quiet_step ((go_at_call 84; with_reducible exact call_far (HC.out _)))))
    refine wpQuiet_nil ?_; intro wz hw
    have hb : Below V0.heap.size V0 wz := by obtain ⟨u, rfl⟩ := hw; exact below_far V0 u
    replace HB := Lib.hid (HB.out.trans (hb.mono HSZ.out)); replace HSZ := Lib.hid (Nat.le_trans HSZ.out hb.size); replace HX := Lib.hid (HX.out.below hb); replace HO := Lib.hid (HO.out.below hb); replace FN := Lib.hid (FN.out.below hb)
    clear hw hb
    go_wp2
    go_ret
    exact ⟨ret_bool HVF.out.symm, by rw [HGE.out]; exact HB.out⟩
  | true =>
    rw [hT] at HC
    by_cases hg0 : 0 ≤ zg
    rotate_left
    · have d0 : decide (zg < 0) = true := decide_eq_true (by omega)
      have HVF := Lib.hid (HV.out.trans (show _ = false by rw [show decide (0 ≤ zg) = false from decide_eq_false hg0]; simp only [Bool.and_false, Bool.false_and]))
      refine wp_region_far (by kernel_rfl) (by kernel_rfl) ?_
      repeat (any_goals (first | go_big_quiet_step ((go_at_call 84; with_reducible exact call_far (HC.out _))) | quiet_step ((go_at_call 84; with_reducible exact call_far (HC.out _)))))
      refine wpQuiet_nil ?_; intro wz hw
      have hb : Below V0.heap.size V0 wz := by obtain ⟨u, rfl⟩ := hw; exact below_far V0 u
      replace HB := Lib.hid (HB.out.trans (hb.mono HSZ.out)); replace HSZ := Lib.hid (Nat.le_trans HSZ.out hb.size); replace HX := Lib.hid (HX.out.below hb); replace HO := Lib.hid (HO.out.below hb); replace FN := Lib.hid (FN.out.below hb)
      clear hw hb
      go_wp2
      go_ret
      exact ⟨ret_bool HVF.out.symm, by rw [HGE.out]; exact HB.out⟩
    have d0 : decide (zg < 0) = false := decide_eq_false (by omega)
    by_cases hg1 : zg ≤ (zh.length : Int)
    rotate_left
    · have d1 : decide ((zh.length : Int) < zg) = true := decide_eq_true (by omega)
      have HVF := Lib.hid (HV.out.trans (show _ = false by rw [show decide (zg ≤ (zh.length : Int)) = false from decide_eq_false hg1]; simp only [Bool.and_false, Bool.false_and]))
      refine wp_region_far (by kernel_rfl) (by kernel_rfl) ?_
      repeat (any_goals (first | go_big_quiet_step ((go_at_call 84; with_reducible exact call_far (HC.out _))) | quiet_step ((go_at_call 84; with_reducible exact call_far (HC.out _)))))
      refine wpQuiet_nil ?_; intro wz hw
      have hb : Below V0.heap.size V0 wz := by obtain ⟨u, rfl⟩ := hw; exact below_far V0 u
      replace HB := Lib.hid (HB.out.trans (hb.mono HSZ.out)); replace HSZ := Lib.hid (Nat.le_trans HSZ.out hb.size); replace HX := Lib.hid (HX.out.below hb); replace HO := Lib.hid (HO.out.below hb); replace FN := Lib.hid (FN.out.below hb)
      clear hw hb
      go_wp2
      go_ret
      exact ⟨ret_bool HVF.out.symm, by rw [HGE.out]; exact HB.out⟩
    have d1 : decide ((zh.length : Int) < zg) = false := decide_eq_false (by omega)
    refine wp_region_far (by kernel_rfl) (by kernel_rfl) ?_
    repeat (any_goals (first | go_big_quiet_step ((go_at_call 84; with_reducible exact call_far (HC.out _))) | quiet_step ((go_at_call 84; with_reducible exact call_far (HC.out _)))))
    refine wpQuiet_nil ?_; intro V1 hw
    have hb : Below V0.heap.size V0 V1 := by obtain ⟨u, rfl⟩ := hw; exact below_far V0 u
    replace HB := Lib.hid (HB.out.trans (hb.mono HSZ.out)); replace HSZ := Lib.hid (Nat.le_trans HSZ.out hb.size); replace HX := Lib.hid (HX.out.below hb); replace HO := Lib.hid (HO.out.below hb); replace FN := Lib.hid (FN.out.below hb)
    clear hw hb HC n0F n1F n2F o6F o7F
    have HTR := Lib.hid (tripsB_iff.1 hT)
    have HTG := Lib.hid (show ∀ j (hj : j < zh.length), ∃ k : Nat, zh[j].g = k ∧ k < x.l.length from fun j hj => by
      obtain ⟨_, _, k, h1, h2, _⟩ := trB_of (HTR.out.2 j hj)
      exact ⟨k, h1, h2⟩)
    replace HV := Lib.hid (HV.out.trans (show _ = (iswB x.l x.zs x.c zh zf (ordPl x.l ⟨zf, zt, zs, zm, za, zu, zh, zg, zz, zp, ze⟩ zh.length) (za + 1) && ((List.range zh.length).all (noEnd x.l ⟨zf, zt, zs, zm, za, zu, zh, zg, zz, zp, ze⟩) && (goneB x.l x.n ⟨zf, zt, zs, zm, za, zu, zh, zg, zz, zp, ze⟩))) by rw [hT, show decide (0 ≤ zg) = true from decide_eq_true hg0, show decide (zg ≤ (zh.length : Int)) = true from decide_eq_true hg1]; rfl))
    clear hT
    go_wp2_with fail
    clear d0 d1
    have n0_ := FN.out.cell 0 _ rfl
    have n1_ := FN.out.cell 1 _ rfl
    have n2_ := FN.out.cell 2 _ rfl
    have o0_ := HO.out.c0
    have o4_ := HO.out.c4
    have o6_ := HO.out.c6
    dsimp only at o0_ o4_ o6_
    have hnl := FN.out.lt; have hol := HO.out.lt
    have n0F := far_cell hnl n0_
    have n1F := far_cell hnl n1_
    have n2F := far_cell hnl n2_
    have o0F := far_cell hol o0_
    have o4F := far_cell hol o4_
    have o6F := far_cell hol o6_
    clear n0_ n1_ n2_ o0_ o4_ o6_ hnl hol
    have HC1 := Lib.hid (fun x' => place_any ⟨zf, zt, zs, zm, za, zu, zh, zg, zz, zp, ze, zA, zk⟩ b o x zh.length (far V1 x') (HO.out.below (below_far V1 x')) (HX.out.below (below_far V1 x')).i.l HTG.out (Nat.le_refl _) HM.out)
    have HC2 := Lib.hid (fun x' => isway_impl zf (ordPl x.l ⟨zf, zt, zs, zm, za, zu, zh, zg, zz, zp, ze⟩ zh.length) (za + 1) zA zk zh x.A0 x.k0 x.l x.A1 x.k1 x.zs x.c (far V1 x') (HX.out.below (below_far V1 x')).i.l (HX.out.below (below_far V1 x')).i.zs (HO.out.below (below_far V1 x')).way HZ.out.ls HZ.out.l HZ.out.zs HM.out)
    dsimp only [OrR.d] at HC1
    generalize ordPl x.l ⟨zf, zt, zs, zm, za, zu, zh, zg, zz, zp, ze⟩ zh.length = PL at *
    have hwr : IntKind.i64.wrap (za + 1) = za + 1 := IntWalk.i64_in _ (by omega)
    cases hW : iswB x.l x.zs x.c zh zf PL (za + 1) with
    | false =>
      rw [hW] at HC2
      have HVF := Lib.hid (HV.out.trans (show _ = false by rw [hW]; simp only [Bool.false_and]))
      refine wp_region_far (by kernel_rfl) (by kernel_rfl) ?_
      repeat (any_goals (first | go_big_quiet_step ((first | (go_at_call 109; with_reducible exact call_far (HC1.out _)) | (go_at_call 124; with_reducible exact call_far (HC2.out _)))) | quiet_step ((first | (go_at_call 109; with_reducible exact call_far (HC1.out _)) | (go_at_call 124; with_reducible exact call_far (HC2.out _))))))
      refine wpQuiet_nil ?_; intro wz hw
      have hb : Below V1.heap.size V1 wz := by obtain ⟨u, rfl⟩ := hw; exact below_far V1 u
      replace HB := Lib.hid (HB.out.trans (hb.mono HSZ.out)); replace HSZ := Lib.hid (Nat.le_trans HSZ.out hb.size); replace HX := Lib.hid (HX.out.below hb); replace HO := Lib.hid (HO.out.below hb); replace FN := Lib.hid (FN.out.below hb)
      clear hw hb
      go_wp2
      go_ret
      exact ⟨ret_bool HVF.out.symm, by rw [HGE.out]; exact HB.out⟩
    | true =>
      rw [hW] at HC2
      replace HV := Lib.hid (HV.out.trans (show _ = ((List.range zh.length).all (noEnd x.l ⟨zf, zt, zs, zm, za, zu, zh, zg, zz, zp, ze⟩) && (goneB x.l x.n ⟨zf, zt, zs, zm, za, zu, zh, zg, zz, zp, ze⟩)) by rw [hW]; rfl))
      clear hW
      refine wp_region_far (by kernel_rfl) (by kernel_rfl) ?_
      repeat (any_goals (first | go_big_quiet_step ((first | (go_at_call 109; with_reducible exact call_far (HC1.out _)) | (go_at_call 124; with_reducible exact call_far (HC2.out _)))) | quiet_step ((first | (go_at_call 109; with_reducible exact call_far (HC1.out _)) | (go_at_call 124; with_reducible exact call_far (HC2.out _))))))
      refine wpQuiet_nil ?_; intro V2 hw
      have hb : Below V1.heap.size V1 V2 := by obtain ⟨u, rfl⟩ := hw; exact below_far V1 u
      replace HB := Lib.hid (HB.out.trans (hb.mono HSZ.out)); replace HSZ := Lib.hid (Nat.le_trans HSZ.out hb.size); replace HX := Lib.hid (HX.out.below hb); replace HO := Lib.hid (HO.out.below hb); replace FN := Lib.hid (FN.out.below hb)
      clear hw hb HC1 HC2 n0F n1F n2F o0F o4F o6F hwr
      have o6_ := HO.out.c6
      dsimp only at o6_
      go_wp2
      clear o6_
      go_loopw [6] (fun q wr => ∃ k : Nat, q = .int .i64 k ∧ 1 ≤ k ∧ k ≤ zh.length + 1 ∧ Hid (∀ j, j < zh.length → j < k → noEnd x.l ⟨zf, zt, zs, zm, za, zu, zh, zg, zz, zp, ze⟩ j = true) ∧ Hid (Below V2.heap.size V2 wr)) (fun q _ => zh.length + 1 - (intOf q).toNat)
      case atStart => exact ⟨1, rfl, by omega, by omega, Lib.hid (fun j _ h => by
        obtain rfl : j = 0 := by omega
        exact rfl), Lib.hid (Below.refl _ _)⟩
      case round =>
        obtain ⟨k, rfl, hk1, hk, hall, hbw⟩ := hrel
        have HBV := HB; have HSV := HSZ; have HXV := HX; have HOV := HO; have FNV := FN
        replace HB := Lib.hid (HBV.out.trans (hbw.out.mono HSV.out)); replace HSZ := Lib.hid (Nat.le_trans HSV.out hbw.out.size); replace HX := Lib.hid (HXV.out.below hbw.out); replace HO := Lib.hid (HOV.out.below hbw.out); replace FN := Lib.hid (FNV.out.below hbw.out)
        clear HBV HSV HXV HOV FNV
        have o6_ := HO.out.c6
        dsimp only at o6_
        by_cases hlt : (k : Int) < (zh.length : Int)
        · have hkl : k < zh.length := by omega
          have HQ := Lib.hid (show noEnd x.l ⟨zf, zt, zs, zm, za, zu, zh, zg, zz, zp, ze⟩ k = !((ordPl x.l ⟨zf, zt, zs, zm, za, zu, zh, zg, zz, zp, ze⟩ k).toList == zt.toList) by unfold noEnd; rw [decide_eq_false (by omega)]; rfl)
          have HH := Lib.hid (fun h => rngL_no (p := noEnd x.l ⟨zf, zt, zs, zm, za, zu, zh, zg, zz, zp, ze⟩) hkl h)
          have HN := Lib.hid (fun (h : noEnd x.l ⟨zf, zt, zs, zm, za, zu, zh, zg, zz, zp, ze⟩ k = true) j (hj : j < zh.length) (hjk : j < k + 1) => show noEnd x.l ⟨zf, zt, zs, zm, za, zu, zh, zg, zz, zp, ze⟩ j = true by
            by_cases e : j = k
            · subst e; exact h
            · exact hall.out j hj (by omega))
          clear hall
          go_wp2_with fail
          clear o6_
          have n0_ := FN.out.cell 0 _ rfl
          have n1_ := FN.out.cell 1 _ rfl
          have n2_ := FN.out.cell 2 _ rfl
          have o1_ := HO.out.c1
          dsimp only at o1_
          have hnl := FN.out.lt; have hol := HO.out.lt
          have n0F := far_cell hnl n0_
          have n1F := far_cell hnl n1_
          have n2F := far_cell hnl n2_
          have o1F := far_cell hol o1_
          clear n0_ n1_ n2_ o1_ hnl hol
          have HC := Lib.hid (fun x' => place_any ⟨zf, zt, zs, zm, za, zu, zh, zg, zz, zp, ze, zA, zk⟩ b o x k (far wr x') (HO.out.below (below_far wr x')) (HX.out.below (below_far wr x')).i.l HTG.out (by dsimp only; omega) HM.out)
          dsimp only [OrR.d] at HC
          generalize ordPl x.l ⟨zf, zt, zs, zm, za, zu, zh, zg, zz, zp, ze⟩ k = PL at *
          cases hq : (PL.toList == zt.toList) with
          | true =>
            have HVF := Lib.hid (HV.out.trans (show _ = false by rw [HH.out (HQ.out.trans (by rw [hq]; rfl))]; rfl))
            refine wp_region_far (by kernel_rfl) (by kernel_rfl) ?_
            repeat (any_goals (first | go_big_quiet_step ((go_at_call 109; with_reducible exact call_far (HC.out _))) | quiet_step ((go_at_call 109; with_reducible exact call_far (HC.out _)))))
            refine wpQuiet_nil ?_; intro wz hw
            have hb : Below wr.heap.size wr wz := by obtain ⟨u, rfl⟩ := hw; exact below_far wr u
            replace HB := Lib.hid (HB.out.trans (hb.mono HSZ.out)); replace HSZ := Lib.hid (Nat.le_trans HSZ.out hb.size); replace HX := Lib.hid (HX.out.below hb); replace HO := Lib.hid (HO.out.below hb); replace FN := Lib.hid (FN.out.below hb)
            clear hw hb
            go_wp2
            go_ret
            exact ⟨ret_bool HVF.out.symm, by rw [HGE.out]; exact HB.out⟩
          | false =>
            have HVN := Lib.hid (HN.out (HQ.out.trans (by rw [hq]; rfl)))
            clear HH HN HQ
            refine wp_region_far (by kernel_rfl) (by kernel_rfl) ?_
            repeat (any_goals (first | go_big_quiet_step ((go_at_call 109; with_reducible exact call_far (HC.out _))) | quiet_step ((go_at_call 109; with_reducible exact call_far (HC.out _)))))
            refine wpQuiet_nil ?_; intro wz hw
            have hb : Below wr.heap.size wr wz := by obtain ⟨u, rfl⟩ := hw; exact below_far wr u
            replace hbw := Lib.hid (hbw.out.trans (hb.mono hbw.out.size))
            clear hw hb
            go_wp2
            go_roundw
            case rel => exact ⟨k + 1, by go_num, by omega, by omega, HVN, hbw⟩
            case measure => simp [intOf]; omega
        · replace HV := Lib.hid (HV.out.trans (show _ = goneB x.l x.n ⟨zf, zt, zs, zm, za, zu, zh, zg, zz, zp, ze⟩ by rw [rngL_yes (p := noEnd x.l ⟨zf, zt, zs, zm, za, zu, zh, zg, zz, zp, ze⟩) (fun j hj => hall.out j hj (by omega))]; rfl))
          clear hall
          go_upto_region 11 with (fail)
          clear o6_
          by_cases hz0 : zg = 0
          · have HVF := Lib.hid (HV.out.trans (show goneB x.l x.n ⟨zf, zt, zs, zm, za, zu, zh, zg, zz, zp, ze⟩ = true by unfold goneB; rw [decide_eq_true (show (⟨zf, zt, zs, zm, za, zu, zh, zg, zz, zp, ze⟩ : OrRD).g = 0 from hz0)]; rfl))
            have d0 : (zg == 0) = true := by rw [hz0]; rfl
            replace hz0 := Lib.hid hz0
            have n0_ := FN.out.cell 0 _ rfl
            have n1_ := FN.out.cell 1 _ rfl
            have n2_ := FN.out.cell 2 _ rfl
            have o6_ := HO.out.c6
            have o7_ := HO.out.c7
            dsimp only at o6_ o7_
            have b6_ := HX.out.bx.cell 6 _ rfl
            have hxl := HX.out.bx.lt
            have b6F := far_cell hxl b6_
            have hnl := FN.out.lt; have hol := HO.out.lt
            have n0F := far_cell hnl n0_
            have n1F := far_cell hnl n1_
            have n2F := far_cell hnl n2_
            have o6F := far_cell hol o6_
            have o7F := far_cell hol o7_
            clear n0_ n1_ n2_ o6_ o7_ hnl hol b6_ hxl
            refine wp_region_far (by kernel_rfl) (by kernel_rfl) ?_
            repeat (any_goals (first | go_big_quiet_step (fail) | quiet_step (fail)))
            refine wpQuiet_nil ?_; intro wz hw
            have hb : Below wr.heap.size wr wz := by obtain ⟨u, rfl⟩ := hw; exact below_far wr u
            replace HB := Lib.hid (HB.out.trans (hb.mono HSZ.out)); replace HSZ := Lib.hid (Nat.le_trans HSZ.out hb.size); replace HX := Lib.hid (HX.out.below hb); replace HO := Lib.hid (HO.out.below hb); replace FN := Lib.hid (FN.out.below hb)
            clear hw hb
            go_wp2
            go_ret
            exact ⟨ret_bool HVF.out.symm, by rw [HGE.out]; exact HB.out⟩
          · obtain ⟨j, hj⟩ : ∃ j : Nat, zg = (j : Int) + 1 := ⟨(zg - 1).toNat, by omega⟩
            have hjl : j < zh.length := by omega
            have HGV := Lib.hid (show goneB x.l x.n ⟨zf, zt, zs, zm, za, zu, zh, zg, zz, zp, ze⟩ = decide (trE x.l zh[j] ≤ x.n) by
              unfold goneB
              rw [decide_eq_false (show ¬ (⟨zf, zt, zs, zm, za, zu, zh, zg, zz, zp, ze⟩ : OrRD).g = 0 from hz0)]
              show (false || decide (trE x.l (zh.getD (zg.toNat - 1) ⟨0, 0⟩) ≤ x.n)) = _
              rw [show zg.toNat - 1 = j by omega, getD_at hjl, Bool.false_or])
            subst hj
            have d0 : (((j : Int) + 1) == 0) = false := by simp; omega
            have hw : InK 2 tpC wr zA zh := HO.out.way
            obtain ⟨ga, rfl, hga, c0_, c1_⟩ := hw.tp j hjl
            clear hw
            have HEN := Lib.hid (fun x' => end_tp_impl zh[j] (HTR.out.2 j hjl) x.A0 x.k0 x.A1 x.k1 (far wr x') (HX.out.below (below_far wr x')).i.l (HX.out.below (below_far wr x')).i.zs HZ.out.l)
            generalize zh[j] = y at *
            have c0F := far_cell hga c0_; have c1F := far_cell hga c1_
            clear c0_ c1_ hz0
            have hji : (j : Int) < (zh.length : Int) := by omega
            have n0_ := FN.out.cell 0 _ rfl
            have n1_ := FN.out.cell 1 _ rfl
            have n2_ := FN.out.cell 2 _ rfl
            have o6_ := HO.out.c6
            have o7_ := HO.out.c7
            dsimp only at o6_ o7_
            have b6_ := HX.out.bx.cell 6 _ rfl
            have hxl := HX.out.bx.lt
            have b6F := far_cell hxl b6_
            have hnl := FN.out.lt; have hol := HO.out.lt
            have n0F := far_cell hnl n0_
            have n1F := far_cell hnl n1_
            have n2F := far_cell hnl n2_
            have o6F := far_cell hol o6_
            have o7F := far_cell hol o7_
            clear n0_ n1_ n2_ o6_ o7_ hnl hol b6_ hxl
            by_cases hE : trE x.l y ≤ x.n
            · have dE : decide (trE x.l y ≤ x.n) = true := decide_eq_true hE
              have HVF := Lib.hid (HV.out.trans (HGV.out.trans dE))
              generalize trE x.l y = E at *
              refine wp_region_far (by kernel_rfl) (by kernel_rfl) ?_
              repeat (any_goals (first | go_big_quiet_step ((go_at_call 85; with_reducible exact call_far (HEN.out _))) | quiet_step ((go_at_call 85; with_reducible exact call_far (HEN.out _)))))
              refine wpQuiet_nil ?_; intro wz hw
              have hb : Below wr.heap.size wr wz := by obtain ⟨u, rfl⟩ := hw; exact below_far wr u
              replace HB := Lib.hid (HB.out.trans (hb.mono HSZ.out)); replace HSZ := Lib.hid (Nat.le_trans HSZ.out hb.size); replace HX := Lib.hid (HX.out.below hb); replace HO := Lib.hid (HO.out.below hb); replace FN := Lib.hid (FN.out.below hb)
              clear hw hb
              go_wp2
              go_ret
              exact ⟨ret_bool HVF.out.symm, by rw [HGE.out]; exact HB.out⟩
            · have dE : decide (trE x.l y ≤ x.n) = false := decide_eq_false hE
              have HVF := Lib.hid (HV.out.trans (HGV.out.trans dE))
              generalize trE x.l y = E at *
              refine wp_region_far (by kernel_rfl) (by kernel_rfl) ?_
              repeat (any_goals (first | go_big_quiet_step ((go_at_call 85; with_reducible exact call_far (HEN.out _))) | quiet_step ((go_at_call 85; with_reducible exact call_far (HEN.out _)))))
              refine wpQuiet_nil ?_; intro wz hw
              have hb : Below wr.heap.size wr wz := by obtain ⟨u, rfl⟩ := hw; exact below_far wr u
              replace HB := Lib.hid (HB.out.trans (hb.mono HSZ.out)); replace HSZ := Lib.hid (Nat.le_trans HSZ.out hb.size); replace HX := Lib.hid (HX.out.below hb); replace HO := Lib.hid (HO.out.below hb); replace FN := Lib.hid (FN.out.below hb)
              clear hw hb
              go_wp2
              go_ret
              exact ⟨ret_bool HVF.out.symm, by rw [HGE.out]; exact HB.out⟩
end Go.Proofs.YtadcmngooobeiabGreat

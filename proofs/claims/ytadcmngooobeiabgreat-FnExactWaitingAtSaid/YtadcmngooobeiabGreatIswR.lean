/- The room of an order: hasRoom. Written by mk/isw4.py. -/
import Derived.Test.YtadcmngooobeiabGreatOrd1
import Derived.Test.YtadcmngooobeiabGreatHasX
import Derived.Deep.Cut
namespace Go.Proofs.YtadcmngooobeiabGreat
open Go.RowKit
theorem rngL_no {p : Nat → Bool} {n k : Nat} (hk : k < n) (h : p k = false) : (List.range n).all p = false := by
  rw [List.all_eq_false]
  exact ⟨k, List.mem_range.2 hk, by rw [h]; exact Bool.false_ne_true⟩
theorem rngL_yes {p : Nat → Bool} {n : Nat} (h : ∀ k, k < n → p k = true) : (List.range n).all p = true := by
  rw [List.all_eq_true]
  exact fun k hk => h k (List.mem_range.1 hk)
def roomOk (bs : List Bk) (cs : List Tp) (i wt M : Int) (h : List Tp) (k : Nat) : Bool := anyE eqBk ⟨i, (h.getD k ⟨0, 0⟩).g, (h.getD k ⟨0, 0⟩).d, wt⟩ bs && !(decide (M ≤ (k : Int)) && anyE eqTp (h.getD k ⟨0, 0⟩) cs)
def roomB (bs : List Bk) (cs : List Tp) (i : Int) (z : OrRD) : Bool := (List.range z.h.length).all (roomOk bs cs i z.m (comI z) z.h)
theorem getD_at {h : List Tp} {k : Nat} (hk : k < h.length) : h.getD k ⟨0, 0⟩ = h[k] := by simp [List.getD, hk]
set_option maxRecDepth 100000 in
set_option maxHeartbeats 4000000 in
theorem has_room (z : OrR) (b o : Nat) (x : Wp) (B : Nat) (i : Int) (w : World) (h : OrAt w b o z) (hx : WoAt w B x) (hz : WorSz x) (hm : z.h.length ≤ 1048576) (hg : 0 ≤ z.g ∧ z.g ≤ z.h.length) :
    Calls Tryz.prog 107 #[.pointer (some ⟨b, o, none⟩), .pointer (some ⟨B, 0, none⟩), .int .i64 i] w fun e w' => e = .returned (.bool (roomB x.bs x.cs i z.d)) ∧ Below w.heap.size w w' := by
  obtain ⟨zf, zt, zs, zm, za, zu, zh, zg, zz, zp, ze, zA, zk⟩ := z
  dsimp only [OrR.d] at hm hg ⊢
  have HFC := Lib.hid (fun W (h1 : OrAt W b o ⟨zf, zt, zs, zm, za, zu, zh, zg, zz, zp, ze, zA, zk⟩) => first_come ⟨zf, zt, zs, zm, za, zu, zh, zg, zz, zp, ze, zA, zk⟩ b o W h1 ⟨by dsimp only; omega, by dsimp only; omega⟩)
  have HV := Lib.hid (show roomB x.bs x.cs i ⟨zf, zt, zs, zm, za, zu, zh, zg, zz, zp, ze⟩ = (List.range zh.length).all (roomOk x.bs x.cs i zm (comI ⟨zf, zt, zs, zm, za, zu, zh, zg, zz, zp, ze⟩) zh) from rfl)
  dsimp only [OrR.d] at HFC
  generalize roomB x.bs x.cs i ⟨zf, zt, zs, zm, za, zu, zh, zg, zz, zp, ze⟩ = V at *
  generalize comI ⟨zf, zt, zs, zm, za, zu, zh, zg, zz, zp, ze⟩ = M at *
  have HO := Lib.hid h; clear h
  have HX := Lib.hid hx; clear hx
  have HZ := Lib.hid hz; clear hz
  clear hg
  have c6_ := HO.out.c6
  dsimp only at c6_
  go_enter Tryz.func107, Tryz.ntmps107
  go_wp2
  clear c6_
  go_loopw [14] (fun q wr => ∃ k : Nat, q = .int .i64 k ∧ k ≤ zh.length ∧ Hid (∀ j, j < k → roomOk x.bs x.cs i zm M zh j = true) ∧ Hid (Below w.heap.size w wr)) (fun q _ => zh.length - (intOf q).toNat)
  case atStart => exact ⟨0, rfl, Nat.zero_le _, Lib.hid (fun j h => absurd h (by omega)), Lib.hid (Below.refl _ _)⟩
  case round =>
    obtain ⟨k, rfl, hk, hall, hbw⟩ := hrel
    have HXw := Lib.hid (HX.out.below hbw.out)
    have HOw := Lib.hid (HO.out.below hbw.out)
    by_cases hlt : (k : Int) < (zh.length : Int)
    · have hkl : k < zh.length := by omega
      have hw : InK 2 tpC wr zA zh := HOw.out.way
      obtain ⟨ga, rfl, hga, c0_, c1_⟩ := hw.tp k hkl
      clear hw
      have HQ := Lib.hid (show roomOk x.bs x.cs i zm M zh k = (anyE eqBk ⟨i, zh[k].g, zh[k].d, zm⟩ x.bs && !(decide (M ≤ (k : Int)) && anyE eqTp zh[k] x.cs)) by unfold roomOk; rw [getD_at hkl])
      have HH := Lib.hid (fun h => rngL_no (p := roomOk x.bs x.cs i zm M zh) hkl h)
      have HN := Lib.hid (fun (h : roomOk x.bs x.cs i zm M zh k = true) j (hjk : j < k + 1) => show roomOk x.bs x.cs i zm M zh j = true by
        by_cases e : j = k
        · subst e; exact h
        · exact hall.out j (by omega))
      clear hall
      generalize zh[k] = y at *
      have hbA := (Below.refl wr.heap.size wr).alloc (Nat.le_refl _) (.cells ⟨[.int .i64 y.g, .int .i64 y.d]⟩ 52)
      have FT := Lib.hid (Bx.new (T := 52) wr [.int .i64 y.g, .int .i64 y.d])
      have HX2 := Lib.hid (HXw.out.below hbA)
      have HO2 := Lib.hid (HOw.out.below hbA)
      have HB2 := Lib.hid (hbw.out.trans (hbA.mono hbw.out.size))
      clear hbA
      go_wp2_with fail
      generalize wr.heap.size = G at *
      change Hid (Bx 52 (wr.alloc (.cells ⟨[.int .i64 y.g, .int .i64 y.d]⟩ 52)) G [.int .i64 y.g, .int .i64 y.d]) at FT
      generalize wr.alloc (.cells ⟨[.int .i64 y.g, .int .i64 y.d]⟩ 52) = V1 at *
      have b4_ := HX2.out.bx.cell 4 _ rfl
      have b5_ := HX2.out.bx.cell 5 _ rfl
      have t0_ := FT.out.cell 0 _ rfl
      have t1_ := FT.out.cell 1 _ rfl
      have o3_ := HO2.out.c3
      dsimp only at o3_
      have hxl := HX2.out.bx.lt; have htl := FT.out.lt; have hol := HO2.out.lt
      have b4F := far_cell hxl b4_; have b5F := far_cell hxl b5_; have t0F := far_cell htl t0_; have t1F := far_cell htl t1_; have o3F := far_cell hol o3_
      have HC := Lib.hid (fun x' => hasX_bk ⟨i, y.g, y.d, zm⟩ x.A3 x.k3 x.bs (far V1 x') (HX2.out.below (below_far V1 x')).i.bs HZ.out.bs)
      dsimp only at HC
      clear c0_ c1_
      clear b4_ b5_ t0_ t1_ o3_
      cases hq : anyE eqBk ⟨i, y.g, y.d, zm⟩ x.bs with
      | false =>
        have HVF := Lib.hid (HV.out.trans (HH.out (HQ.out.trans (show _ = false by rw [hq]; rfl))))
        rw [hq] at HC
        refine wp_region_far (by kernel_rfl) (by kernel_rfl) ?_
        repeat (any_goals (first | go_big_quiet_step ((go_at_call 125; with_reducible exact call_far (HC.out _))) | quiet_step ((go_at_call 125; with_reducible exact call_far (HC.out _)))))
        refine wpQuiet_nil ?_; intro wz hw
        have hb : Below V1.heap.size V1 wz := by obtain ⟨u, rfl⟩ := hw; exact below_far V1 u
        replace HB2 := Lib.hid (HB2.out.trans (hb.mono HB2.out.size))
        clear hw hb
        go_wp2
        go_ret
        exact ⟨ret_bool HVF.out.symm, HB2.out⟩
      | true =>
        rw [hq] at HC
        replace HQ := Lib.hid (HQ.out.trans (show _ = !(decide (M ≤ (k : Int)) && anyE eqTp y x.cs) by rw [hq]; rfl))
        clear hq
        refine wp_region_far (by kernel_rfl) (by kernel_rfl) ?_
        repeat (any_goals (first | go_big_quiet_step ((go_at_call 125; with_reducible exact call_far (HC.out _))) | quiet_step ((go_at_call 125; with_reducible exact call_far (HC.out _)))))
        refine wpQuiet_nil ?_; intro V2 hw
        have hb : Below V1.heap.size V1 V2 := by obtain ⟨u, rfl⟩ := hw; exact below_far V1 u
        replace HB2 := Lib.hid (HB2.out.trans (hb.mono HB2.out.size))
        replace HX2 := Lib.hid (HX2.out.below hb); replace HO2 := Lib.hid (HO2.out.below hb); replace FT := Lib.hid (FT.out.below hb)
        clear hw hb HC b4F b5F t0F t1F o3F hxl htl hol
        go_wp2_with fail
        have b4_ := HX2.out.bx.cell 4 _ rfl
        have b5_ := HX2.out.bx.cell 5 _ rfl
        have t0_ := FT.out.cell 0 _ rfl
        have t1_ := FT.out.cell 1 _ rfl
        have o3_ := HO2.out.c3
        dsimp only at o3_
        have hxl := HX2.out.bx.lt; have htl := FT.out.lt; have hol := HO2.out.lt
        have b4F := far_cell hxl b4_; have b5F := far_cell hxl b5_; have t0F := far_cell htl t0_; have t1F := far_cell htl t1_; have o3F := far_cell hol o3_
        have HC1 := Lib.hid (fun x' => HFC.out (far V2 x') (HO2.out.below (below_far V2 x')))
        have HC2 := Lib.hid (fun x' => hasX_tp y x.A4 x.k4 x.cs (far V2 x') (HX2.out.below (below_far V2 x')).i.cs HZ.out.cs)
        clear b4_ b5_ t0_ t1_ o3_
        by_cases hM : M ≤ (k : Int)
        · have dM : decide (M ≤ (k : Int)) = true := decide_eq_true hM
          rw [dM] at HQ
          have DM := Lib.hid hM; clear hM
          cases hq : anyE eqTp y x.cs with
          | true =>
            have HVF := Lib.hid (HV.out.trans (HH.out (HQ.out.trans (show _ = false by rw [hq]; rfl))))
            rw [hq] at HC2
            refine wp_region_far (by kernel_rfl) (by kernel_rfl) ?_
            repeat (any_goals (first | go_big_quiet_step ((first | (go_at_call 82; with_reducible exact call_far (HC1.out _)) | (go_at_call 103; with_reducible exact call_far (HC2.out _)))) | quiet_step ((first | (go_at_call 82; with_reducible exact call_far (HC1.out _)) | (go_at_call 103; with_reducible exact call_far (HC2.out _))))))
            refine wpQuiet_nil ?_; intro wz hw
            have hb : Below V2.heap.size V2 wz := by obtain ⟨u, rfl⟩ := hw; exact below_far V2 u
            replace HB2 := Lib.hid (HB2.out.trans (hb.mono HB2.out.size))
            clear hw hb
            go_wp2
            go_ret
            exact ⟨ret_bool HVF.out.symm, HB2.out⟩
          | false =>
            have HVN := Lib.hid (HN.out (HQ.out.trans (show _ = true by rw [hq]; rfl)))
            rw [hq] at HC2
            clear HN HH HQ
            refine wp_region_far (by kernel_rfl) (by kernel_rfl) ?_
            repeat (any_goals (first | go_big_quiet_step ((first | (go_at_call 82; with_reducible exact call_far (HC1.out _)) | (go_at_call 103; with_reducible exact call_far (HC2.out _)))) | quiet_step ((first | (go_at_call 82; with_reducible exact call_far (HC1.out _)) | (go_at_call 103; with_reducible exact call_far (HC2.out _))))))
            refine wpQuiet_nil ?_; intro wz hw
            have hb : Below V2.heap.size V2 wz := by obtain ⟨u, rfl⟩ := hw; exact below_far V2 u
            replace HB2 := Lib.hid (HB2.out.trans (hb.mono HB2.out.size))
            clear hw hb
            go_wp2
            go_roundw
            case rel => exact ⟨k + 1, by go_num, by omega, HVN, HB2⟩
            case measure => simp [intOf]; omega
        · have dM : decide (M ≤ (k : Int)) = false := decide_eq_false hM
          have HVN := Lib.hid (HN.out (HQ.out.trans (show _ = true by rw [dM]; rfl)))
          clear HN HH HQ HC2
          refine wp_region_far (by kernel_rfl) (by kernel_rfl) ?_
          repeat (any_goals (first | go_big_quiet_step ((go_at_call 82; with_reducible exact call_far (HC1.out _))) | quiet_step ((go_at_call 82; with_reducible exact call_far (HC1.out _)))))
          refine wpQuiet_nil ?_; intro wz hw
          have hb : Below V2.heap.size V2 wz := by obtain ⟨u, rfl⟩ := hw; exact below_far V2 u
          replace HB2 := Lib.hid (HB2.out.trans (hb.mono HB2.out.size))
          clear hw hb
          go_wp2
          go_roundw
          case rel => exact ⟨k + 1, by go_num, by omega, HVN, HB2⟩
          case measure => simp [intOf]; omega
    · obtain rfl : k = zh.length := by omega
      have HVF := Lib.hid (HV.out.trans (rngL_yes (fun j hj => hall.out j hj)))
      clear hall
      go_wp2
      go_ret
      exact ⟨ret_bool HVF.out.symm, hbw.out⟩
end Go.Proofs.YtadcmngooobeiabGreat

/- The closed trips of a world: hasClosed. Written by mk/isw2.py. -/
import Derived.Test.YtadcmngooobeiabGreatOrd1
import Derived.Test.YtadcmngooobeiabGreatHasX
import Derived.Deep.Cut
namespace Go.Proofs.YtadcmngooobeiabGreat
open Go.RowKit
/-- no trip stands twice -/
def distB (cs : List Tp) : Bool := (List.range cs.length).all fun j => !(anyE eqTp (cs.getD j ⟨0, 0⟩) (cs.take j))
theorem dist_at {cs : List Tp} {j : Nat} (hj : j < cs.length) : cs.getD j ⟨0, 0⟩ = cs[j] := by simp [List.getD, hj]
theorem dist_no {cs : List Tp} {j : Nat} (hj : j < cs.length) (h : anyE eqTp cs[j] (cs.take j) = true) : distB cs = false := by
  unfold distB
  rw [List.all_eq_false]
  exact ⟨j, List.mem_range.2 hj, by rw [dist_at hj, h]; exact Bool.false_ne_true⟩
theorem dist_yes {cs : List Tp} (h : ∀ j (_ : j < cs.length), anyE eqTp cs[j] (cs.take j) = false) : distB cs = true := by
  unfold distB
  rw [List.all_eq_true]
  intro j hj
  have hj' := List.mem_range.1 hj
  rw [dist_at hj', h j hj']; rfl
def closedW (l : List Lg) (zs : List Int) (c : Int) (cs : List Tp) : Bool := decide (cs.length ≤ 20) && (distB cs && tripsB l zs c cs)
set_option maxRecDepth 100000 in
set_option maxHeartbeats 4000000 in
theorem has_closed (x : Wp) (B : Nat) (w : World) (hx : WoAt w B x) (hz : WorSz x) :
    Calls Tryz.prog 79 #[.pointer (some ⟨B, 0, none⟩)] w fun e w' => e = .returned (.bool (closedW x.l x.zs x.c x.cs)) ∧ Below w.heap.size w w' := by
  obtain ⟨A0, k0, l, A1, k1, zs, c, A2, k2, os, A3, k3, bs, A4, k4, cs, n, A5, k5, ss, A6, k6, sk, m⟩ := x
  dsimp only
  have HV := Lib.hid (show closedW l zs c cs = (decide (cs.length ≤ 20) && (distB cs && tripsB l zs c cs)) from rfl)
  have HX := Lib.hid hx; clear hx
  have HZ := Lib.hid hz; clear hz
  generalize closedW l zs c cs = V at *
  by_cases h20 : cs.length ≤ 20
  rotate_left
  · have HVF := Lib.hid (HV.out.trans (show _ = false by rw [decide_eq_false h20]; rfl))
    have b5_ := HX.out.bx.cell 5 _ rfl
    go_enter Tryz.func79, Tryz.ntmps79
    go_wp2
    go_ret
    exact ⟨ret_bool HVF.out.symm, Below.refl _ _⟩
  have HV2 := Lib.hid (HV.out.trans (show _ = (distB cs && tripsB l zs c cs) by rw [decide_eq_true h20]; rfl)); clear HV
  have hcap : cs.length ≤ k4 := HX.out.i.cap
  have HAT := Lib.hid (fun W (h : WoAt W B ⟨A0, k0, l, A1, k1, zs, c, A2, k2, os, A3, k3, bs, A4, k4, cs, n, A5, k5, ss, A6, k6, sk, m⟩) => are_trips A4 k4 cs A0 k0 l A1 k1 zs c W h.i.l h.i.zs h.i.cs HZ.out.ls HZ.out.l HZ.out.zs HZ.out.cs)
  have b5_ := HX.out.bx.cell 5 _ rfl
  dsimp only at b5_
  go_enter Tryz.func79, Tryz.ntmps79
  go_wp2
  clear b5_
  go_loopw [16] (fun i wr => ∃ k : Nat, i = .int .i64 k ∧ k ≤ cs.length ∧ Hid (∀ j (_ : j < cs.length), j < k → anyE eqTp cs[j] (cs.take j) = false) ∧ Hid (Below w.heap.size w wr)) (fun i _ => cs.length - (intOf i).toNat)
  case atStart => exact ⟨0, rfl, Nat.zero_le _, Lib.hid (fun j _ h => absurd h (by omega)), Lib.hid (Below.refl _ _)⟩
  case round =>
    obtain ⟨k, rfl, hk, hall, hbw⟩ := hrel
    have HXw := Lib.hid (HX.out.below hbw.out)
    by_cases hlt : (k : Int) < (cs.length : Int)
    · have hkl : k < cs.length := by omega
      have hcs : InK 2 tpC wr A4 cs := HXw.out.i.cs
      obtain ⟨ga, rfl, hga, c0_, c1_⟩ := hcs.tp k hkl
      have HIN := Lib.hid (hcs.take k); clear hcs
      have HLK := Lib.hid (show (cs.take k).length = k by rw [List.length_take]; omega)
      have HH := Lib.hid (fun h => dist_no (cs := cs) hkl h)
      have HN := Lib.hid (fun (h : anyE eqTp cs[k] (cs.take k) = false) j (hj : j < cs.length) (hjk : j < k + 1) => show anyE eqTp cs[j] (cs.take j) = false by
        by_cases e : j = k
        · subst e; exact h
        · exact hall.out j hj (by omega))
      clear hall
      generalize cs[k] = y at *
      have hbA := (Below.refl wr.heap.size wr).alloc (Nat.le_refl _) (.cells ⟨[.int .i64 y.g, .int .i64 y.d]⟩ 52)
      have FT := Lib.hid (Bx.new (T := 52) wr [.int .i64 y.g, .int .i64 y.d])
      have HIN2 := Lib.hid (HIN.out.below hbA)
      have HX2 := Lib.hid (HXw.out.below hbA)
      have HB2 := Lib.hid (hbw.out.trans (hbA.mono hbw.out.size))
      clear HIN hbA
      generalize hq : anyE eqTp y (cs.take k) = Q at *
      have HQ := Lib.hid hq; clear hq
      go_wp2_with fail
      generalize wr.heap.size = G at *
      change Hid (Bx 52 (wr.alloc (.cells ⟨[.int .i64 y.g, .int .i64 y.d]⟩ 52)) G [.int .i64 y.g, .int .i64 y.d]) at FT
      generalize wr.alloc (.cells ⟨[.int .i64 y.g, .int .i64 y.d]⟩ 52) = V1 at *
      have b5_ := HX2.out.bx.cell 5 _ rfl
      dsimp only at b5_
      have t0_ := FT.out.cell 0 _ rfl
      have t1_ := FT.out.cell 1 _ rfl
      have hxl := HX2.out.bx.lt; have htl := FT.out.lt
      have b5F := far_cell hxl b5_; have t0F := far_cell htl t0_; have t1F := far_cell htl t1_
      have HC := Lib.hid (fun x' => hasX_tp y (some ⟨ga, 0, none⟩) k4 (cs.take k) (far V1 x') (HIN2.out.below (below_far V1 x')) (by rw [HLK.out]; omega))
      rw [HLK.out, HQ.out] at HC
      clear b5_ t0_ t1_ c0_ c1_
      have hk0 : (0 : Int) ≤ (k : Int) := by omega
      have hkc : (k : Int) ≤ (k4 : Int) := by omega
      refine wp_region_far (by kernel_rfl) (by kernel_rfl) ?_
      repeat (any_goals (first | go_big_quiet_step ((go_at_call 103; with_reducible exact call_far (HC.out _))) | quiet_step ((go_at_call 103; with_reducible exact call_far (HC.out _)))))
      refine wpQuiet_nil ?_; intro wz hw
      have hb : Below V1.heap.size V1 wz := by obtain ⟨u, rfl⟩ := hw; exact below_far V1 u
      replace HB2 := Lib.hid (HB2.out.trans (hb.mono HB2.out.size))
      clear hw hb HC b5F t0F t1F
      cases Q with
      | true =>
        have HVF := Lib.hid (HV2.out.trans (show _ = false by rw [HH.out rfl]; rfl))
        go_wp2
        go_ret
        exact ⟨ret_bool HVF.out.symm, HB2.out⟩
      | false =>
        have HVN := Lib.hid (HN.out rfl)
        clear HH HN
        go_wp2
        go_roundw
        case rel => exact ⟨k + 1, by go_num, by omega, HVN, HB2⟩
        case measure => simp [intOf]; omega
    · obtain rfl : k = cs.length := by omega
      have HVF := Lib.hid (HV2.out.trans (show _ = tripsB l zs c cs by rw [dist_yes (fun j hj => hall.out j hj hj)]; rfl))
      clear hall
      go_upto_region 9 with (fail)
      have b0_ := HXw.out.bx.cell 0 _ rfl
      have b1_ := HXw.out.bx.cell 1 _ rfl
      have b2_ := HXw.out.bx.cell 2 _ rfl
      have b5_ := HXw.out.bx.cell 5 _ rfl
      dsimp only at b0_ b1_ b2_ b5_
      have hxl := HXw.out.bx.lt
      have b0F := far_cell hxl b0_; have b1F := far_cell hxl b1_; have b2F := far_cell hxl b2_; have b5F := far_cell hxl b5_
      have HC := Lib.hid (fun x' => HAT.out (far wr x') (HXw.out.below (below_far wr x')))
      clear b0_ b1_ b2_ b5_
      refine wp_region_far (by kernel_rfl) (by kernel_rfl) ?_
      repeat (any_goals (first | go_big_quiet_step ((go_at_call 84; with_reducible exact call_far (HC.out _))) | quiet_step ((go_at_call 84; with_reducible exact call_far (HC.out _)))))
      refine wpQuiet_nil ?_; intro wz hw
      have hb : Below wr.heap.size wr wz := by obtain ⟨u, rfl⟩ := hw; exact below_far wr u
      have HB2 := Lib.hid (hbw.out.trans (hb.mono hbw.out.size))
      clear hw hb HC b0F b1F b2F b5F
      go_wp2
      go_ret
      exact ⟨ret_bool HVF.out.symm, HB2.out⟩
end Go.Proofs.YtadcmngooobeiabGreat

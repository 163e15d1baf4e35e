/- The scans of a world: hasScans. Written by mk/isw3.py. -/
import Derived.Test.YtadcmngooobeiabGreatOrd1
import Derived.Test.YtadcmngooobeiabGreatBh
import Derived.Deep.Cut
namespace Go.Proofs.YtadcmngooobeiabGreat
open Go.RowKit
theorem allL_no {α : Type} {p : α → Bool} {l : List α} {j : Nat} (hj : j < l.length) (h : p l[j] = false) : l.all p = false := by
  rw [List.all_eq_false]
  exact ⟨l[j], List.getElem_mem hj, by rw [h]; exact Bool.false_ne_true⟩
theorem allL_yes {α : Type} {p : α → Bool} {l : List α} (h : ∀ j (_ : j < l.length), p l[j] = true) : l.all p = true := by
  rw [List.all_eq_true]
  intro u hu
  obtain ⟨j, hj, rfl⟩ := List.getElem_of_mem hu
  exact h j hj
def scanOk (l : List Lg) (zs : List Int) (c n : Int) (s : Sc) : Bool := decide (s.a ≤ n) && scB l zs c s
def scansW (l : List Lg) (zs : List Int) (c n m : Int) (ss : List Sc) : Bool := decide (ss.length ≤ 200) && (decide ((ss.length : Int) ≤ m) && (decide (m ≤ 1000000000) && ss.all (scanOk l zs c n)))
set_option maxRecDepth 100000 in
set_option maxHeartbeats 4000000 in
theorem has_scans (x : Wp) (B : Nat) (w : World) (hx : WoAt w B x) (hz : WorSz x) :
    Calls Tryz.prog 80 #[.pointer (some ⟨B, 0, none⟩)] w fun e w' => e = .returned (.bool (scansW x.l x.zs x.c x.n x.m x.ss)) ∧ Below w.heap.size w w' := by
  obtain ⟨A0, k0, l, A1, k1, zs, c, A2, k2, os, A3, k3, bs, A4, k4, cs, n, A5, k5, ss, A6, k6, sk, m⟩ := x
  dsimp only
  have HV := Lib.hid (show scansW l zs c n m ss = (decide (ss.length ≤ 200) && (decide ((ss.length : Int) ≤ m) && (decide (m ≤ 1000000000) && ss.all (scanOk l zs c n)))) from rfl)
  have HX := Lib.hid hx; clear hx
  have HZ := Lib.hid hz; clear hz
  generalize scansW l zs c n m ss = V at *
  have hsl : ss.length ≤ 1048576 := HZ.out.ss
  have b7_ := HX.out.bx.cell 7 _ rfl
  have b9_ := HX.out.bx.cell 9 _ rfl
  dsimp only at b7_ b9_
  have hxl := HX.out.bx.lt
  have b7F := far_cell hxl b7_; have b9F := far_cell hxl b9_
  go_enter Tryz.func80, Tryz.ntmps80
  go_upto_region 1 with (fail)
  clear b7_ b9_
  by_cases q0 : ss.length ≤ 200
  rotate_left
  · have d0 : decide ((200 : Int) < (ss.length : Int)) = true := decide_eq_true (by omega)
    have HVF := Lib.hid (HV.out.trans (show _ = false by rw [show decide (ss.length ≤ 200) = false from decide_eq_false q0]; simp only [Bool.false_and]))
    refine wp_region_far (by kernel_rfl) (by kernel_rfl) ?_
    repeat (any_goals (first | go_big_quiet_step (fail) | quiet_step (fail)))
    refine wpQuiet_nil ?_; intro wz hw
    have hb : Below w.heap.size w wz := by obtain ⟨u, rfl⟩ := hw; exact below_far w u
    have HB := Lib.hid hb
    clear hw hb
    go_wp2
    go_ret
    exact ⟨ret_bool HVF.out.symm, HB.out⟩
  have d0 : decide ((200 : Int) < (ss.length : Int)) = false := decide_eq_false (by omega)
  by_cases q1 : (ss.length : Int) ≤ m
  rotate_left
  · have d1 : decide (m < (ss.length : Int)) = true := decide_eq_true (by omega)
    have HVF := Lib.hid (HV.out.trans (show _ = false by rw [show decide ((ss.length : Int) ≤ m) = false from decide_eq_false q1]; simp only [Bool.and_false, Bool.false_and]))
    refine wp_region_far (by kernel_rfl) (by kernel_rfl) ?_
    repeat (any_goals (first | go_big_quiet_step (fail) | quiet_step (fail)))
    refine wpQuiet_nil ?_; intro wz hw
    have hb : Below w.heap.size w wz := by obtain ⟨u, rfl⟩ := hw; exact below_far w u
    have HB := Lib.hid hb
    clear hw hb
    go_wp2
    go_ret
    exact ⟨ret_bool HVF.out.symm, HB.out⟩
  have d1 : decide (m < (ss.length : Int)) = false := decide_eq_false (by omega)
  by_cases q2 : m ≤ 1000000000
  rotate_left
  · have d2 : decide ((1000000000 : Int) < m) = true := decide_eq_true (by omega)
    have HVF := Lib.hid (HV.out.trans (show _ = false by rw [show decide (m ≤ 1000000000) = false from decide_eq_false q2]; simp only [Bool.and_false, Bool.false_and]))
    refine wp_region_far (by kernel_rfl) (by kernel_rfl) ?_
    repeat (any_goals (first | go_big_quiet_step (fail) | quiet_step (fail)))
    refine wpQuiet_nil ?_; intro wz hw
    have hb : Below w.heap.size w wz := by obtain ⟨u, rfl⟩ := hw; exact below_far w u
    have HB := Lib.hid hb
    clear hw hb
    go_wp2
    go_ret
    exact ⟨ret_bool HVF.out.symm, HB.out⟩
  have d2 : decide ((1000000000 : Int) < m) = false := decide_eq_false (by omega)
  have HV2 := Lib.hid (HV.out.trans (show _ = ss.all (scanOk l zs c n) by rw [show decide (ss.length ≤ 200) = true from decide_eq_true q0, show decide ((ss.length : Int) ≤ m) = true from decide_eq_true q1, show decide (m ≤ 1000000000) = true from decide_eq_true q2]; rfl)); clear HV
  refine wp_region_far (by kernel_rfl) (by kernel_rfl) ?_
  repeat (any_goals (first | go_big_quiet_step (fail) | quiet_step (fail)))
  refine wpQuiet_nil ?_; intro w0 hw
  have hb : Below w.heap.size w w0 := by obtain ⟨u, rfl⟩ := hw; exact below_far w u
  have HB := Lib.hid hb
  replace HX := Lib.hid (HX.out.below hb)
  clear hw hb b7F b9F
  have hsc : InK 6 scC w0 A5 ss := HX.out.i.ss
  have HSC := Lib.hid hsc; clear hsc
  have b7_ := HX.out.bx.cell 7 _ rfl
  dsimp only at b7_
  go_wp2
  clear b7_
  go_loopw [35] (fun i wr => ∃ k : Nat, i = .int .i64 k ∧ k ≤ ss.length ∧ Hid (∀ j (_ : j < ss.length), j < k → scanOk l zs c n ss[j] = true) ∧ Hid (Below w0.heap.size w0 wr)) (fun i _ => ss.length - (intOf i).toNat)
  case atStart => exact ⟨0, rfl, Nat.zero_le _, Lib.hid (fun j _ h => absurd h (by omega)), Lib.hid (Below.refl _ _)⟩
  case round =>
    obtain ⟨k, rfl, hk, hall, hbw⟩ := hrel
    have HXw := Lib.hid (HX.out.below hbw.out)
    have HBw := Lib.hid (HB.out.trans (hbw.out.mono HB.out.size))
    by_cases hlt : (k : Int) < (ss.length : Int)
    · have hkl : k < ss.length := by omega
      obtain ⟨ga, rfl, hga, c0_, c1_, c2_, c3_, c4_, c5_⟩ := (HSC.out.below hbw.out).sc k hkl
      have HH := Lib.hid (fun h => allL_no (p := scanOk l zs c n) hkl h)
      have HN := Lib.hid (fun (h : scanOk l zs c n ss[k] = true) j (hj : j < ss.length) (hjk : j < k + 1) => show scanOk l zs c n ss[j] = true by
        by_cases e : j = k
        · subst e; exact h
        · exact hall.out j hj (by omega))
      clear hall
      generalize ss[k] = y at *
      have hbA := (Below.refl wr.heap.size wr).alloc (Nat.le_refl _) (.cells ⟨[.int .i64 y.h, .int .i64 y.a, .int .i64 y.k, .string y.p, .int .i64 y.g, .int .i64 y.d]⟩ 102)
      have FT := Lib.hid (Bx.new (T := 102) wr [.int .i64 y.h, .int .i64 y.a, .int .i64 y.k, .string y.p, .int .i64 y.g, .int .i64 y.d])
      have HX2 := Lib.hid (HXw.out.below hbA)
      have HB2 := Lib.hid (HBw.out.trans (hbA.mono HBw.out.size))
      have HB3 := Lib.hid (hbw.out.trans (hbA.mono hbw.out.size))
      clear hbA
      have HQ := Lib.hid (show scanOk l zs c n y = (decide (y.a ≤ n) && scB l zs c y) from rfl)
      go_wp2_with fail
      generalize wr.heap.size = G at *
      change Hid (Bx 102 (wr.alloc (.cells ⟨[.int .i64 y.h, .int .i64 y.a, .int .i64 y.k, .string y.p, .int .i64 y.g, .int .i64 y.d]⟩ 102)) G [.int .i64 y.h, .int .i64 y.a, .int .i64 y.k, .string y.p, .int .i64 y.g, .int .i64 y.d]) at FT
      generalize wr.alloc (.cells ⟨[.int .i64 y.h, .int .i64 y.a, .int .i64 y.k, .string y.p, .int .i64 y.g, .int .i64 y.d]⟩ 102) = V1 at *
      have b0_ := HX2.out.bx.cell 0 _ rfl
      have b1_ := HX2.out.bx.cell 1 _ rfl
      have b2_ := HX2.out.bx.cell 2 _ rfl
      have b6_ := HX2.out.bx.cell 6 _ rfl
      dsimp only at b0_ b1_ b2_ b6_
      have t0_ := FT.out.cell 0 _ rfl
      have t1_ := FT.out.cell 1 _ rfl
      have t2_ := FT.out.cell 2 _ rfl
      have t3_ := FT.out.cell 3 _ rfl
      have t4_ := FT.out.cell 4 _ rfl
      have t5_ := FT.out.cell 5 _ rfl
      have hxl := HX2.out.bx.lt; have htl := FT.out.lt
      have b0F := far_cell hxl b0_
      have b1F := far_cell hxl b1_
      have b2F := far_cell hxl b2_
      have b6F := far_cell hxl b6_
      have t0F := far_cell htl t0_
      have t1F := far_cell htl t1_
      have t2F := far_cell htl t2_
      have t3F := far_cell htl t3_
      have t4F := far_cell htl t4_
      have t5F := far_cell htl t5_
      have HC := Lib.hid (fun x' => is_sc y.h y.a y.k y.p y.g y.d A0 k0 l A1 k1 zs c (far V1 x') (HX2.out.below (below_far V1 x')).i.l (HX2.out.below (below_far V1 x')).i.zs HZ.out.ls HZ.out.l HZ.out.zs)
      clear b0_ b1_ b2_ b6_ t0_ t1_ t2_ t3_ t4_ t5_ c0_ c1_ c2_ c3_ c4_ c5_
      by_cases hA : y.a ≤ n
      rotate_left
      · have dA : decide (n < y.a) = true := decide_eq_true (by omega)
        have HVF := Lib.hid (HV2.out.trans (show _ = false from HH.out (HQ.out.trans (show _ = false by rw [decide_eq_false hA]; rfl))))
        refine wp_region_far (by kernel_rfl) (by kernel_rfl) ?_
        repeat (any_goals (first | go_big_quiet_step (fail) | quiet_step (fail)))
        refine wpQuiet_nil ?_; intro wz hw
        have hb : Below V1.heap.size V1 wz := by obtain ⟨u, rfl⟩ := hw; exact below_far V1 u
        replace HB2 := Lib.hid (HB2.out.trans (hb.mono HB2.out.size))
        clear hw hb
        go_wp2
        go_ret
        exact ⟨ret_bool HVF.out.symm, HB2.out⟩
      have dA : decide (n < y.a) = false := decide_eq_false (by omega)
      cases hq : scB l zs c y with
      | false =>
        have HVF := Lib.hid (HV2.out.trans (show _ = false from HH.out (HQ.out.trans (show _ = false by rw [hq]; exact Bool.and_false _))))
        rw [show scB l zs c ⟨y.h, y.a, y.k, y.p, y.g, y.d⟩ = false from hq] at HC
        refine wp_region_far (by kernel_rfl) (by kernel_rfl) ?_
        repeat (any_goals (first | go_big_quiet_step ((go_at_call 104; with_reducible exact call_far (HC.out _))) | quiet_step ((go_at_call 104; with_reducible exact call_far (HC.out _)))))
        refine wpQuiet_nil ?_; intro wz hw
        have hb : Below V1.heap.size V1 wz := by obtain ⟨u, rfl⟩ := hw; exact below_far V1 u
        replace HB2 := Lib.hid (HB2.out.trans (hb.mono HB2.out.size))
        clear hw hb
        go_wp2
        go_ret
        exact ⟨ret_bool HVF.out.symm, HB2.out⟩
      | true =>
        have HVN := Lib.hid (HN.out (HQ.out.trans (show _ = true by rw [hq, decide_eq_true hA]; rfl)))
        rw [show scB l zs c ⟨y.h, y.a, y.k, y.p, y.g, y.d⟩ = true from hq] at HC
        clear HH HN
        refine wp_region_far (by kernel_rfl) (by kernel_rfl) ?_
        repeat (any_goals (first | go_big_quiet_step ((go_at_call 104; with_reducible exact call_far (HC.out _))) | quiet_step ((go_at_call 104; with_reducible exact call_far (HC.out _)))))
        refine wpQuiet_nil ?_; intro wz hw
        have hb : Below V1.heap.size V1 wz := by obtain ⟨u, rfl⟩ := hw; exact below_far V1 u
        replace HB3 := Lib.hid (HB3.out.trans (hb.mono HB3.out.size))
        clear hw hb
        go_wp2
        go_roundw
        case rel => exact ⟨k + 1, by go_num, by omega, HVN, HB3⟩
        case measure => simp [intOf]; omega
    · obtain rfl : k = ss.length := by omega
      have HVF := Lib.hid (HV2.out.trans (allL_yes (fun j hj => hall.out j hj hj)))
      clear hall
      go_wp2
      go_ret
      exact ⟨ret_bool HVF.out.symm, HBw.out⟩
end Go.Proofs.YtadcmngooobeiabGreat

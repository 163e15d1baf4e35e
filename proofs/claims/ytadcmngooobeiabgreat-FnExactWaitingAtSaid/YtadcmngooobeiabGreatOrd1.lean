/- What an order's methods say: firstToCome, placeAfter, isService, isOrderWeight. Written by mk/ordp.py. -/
import Derived.Test.YtadcmngooobeiabGreatOrdP
namespace Go.Proofs.YtadcmngooobeiabGreat
open Go.RowKit
theorem first_come (z : OrR) (b o : Nat) (w : World) (h : OrAt w b o z) (hg : -9223372036854775808 ≤ z.g ∧ z.g ≤ 9223372036854775806) :
    Calls Tryz.prog 82 #[.pointer (some ⟨b, o, none⟩)] w fun e w' => e = .returned (.int .i64 (comI z.d)) ∧ Below w.heap.size w w' := by
  have c7_ := h.c7
  have c8_ := h.c8
  clear h
  by_cases h2 : z.z = 2
  · have HV := Lib.hid (show comI z.d = z.g + 1 from if_pos h2)
    have ht : (z.z == 2) = true := by simp [h2]
    clear h2
    go_enter Tryz.func82, Tryz.ntmps82
    go_wp2
    go_ret
    exact ⟨by rw [HV.out]; rfl, Below.refl _ _⟩
  · have HV := Lib.hid (show comI z.d = z.g from if_neg h2)
    have ht : (z.z == 2) = false := by simp [h2]
    clear h2
    go_enter Tryz.func82, Tryz.ntmps82
    go_wp2
    go_ret
    exact ⟨by rw [HV.out]; rfl, Below.refl _ _⟩
theorem place_zero (z : OrR) (b o : Nat) (x : Wp) (w : World) (h : OrAt w b o z) :
    Calls Tryz.prog 109 #[.pointer (some ⟨b, o, none⟩), .agg #[.slice x.A0 x.l.length x.k0, .slice x.A1 x.zs.length x.k1, .int .i64 x.c], .int .i64 0] w fun e w' => e = .returned (.string (ordPl x.l z.d 0)) ∧ Below w.heap.size w w' := by
  have hb0 := (Below.refl w.heap.size w).alloc (Nat.le_refl _) (.cells #[.slice x.A0 x.l.length x.k0, .slice x.A1 x.zs.length x.k1, .int .i64 x.c] 36)
  have c0_ := (h.below hb0).c0
  have HB := Lib.hid hb0
  clear h hb0
  go_enter Tryz.func109, Tryz.ntmps109
  go_wp2
  go_ret
  exact ⟨rfl, HB.out⟩
set_option maxRecDepth 100000 in
set_option maxHeartbeats 2000000 in
theorem place_pos (z : OrR) (b o : Nat) (x : Wp) (j k : Nat) (w : World) (h : OrAt w b o z) (hA : InK 6 lgC w x.A0 x.l) (hj : j < z.h.length) (hk : k < x.l.length) (hg : z.h[j].g = k) (hm : z.h.length ≤ 1048576) :
    Calls Tryz.prog 109 #[.pointer (some ⟨b, o, none⟩), .agg #[.slice x.A0 x.l.length x.k0, .slice x.A1 x.zs.length x.k1, .int .i64 x.c], .int .i64 ((j : Int) + 1)] w fun e w' => e = .returned (.string (ordPl x.l z.d (j + 1))) ∧ Below w.heap.size w w' := by
  have HV := Lib.hid (show ordPl x.l z.d (j + 1) = x.l[k].t by
    unfold ordPl
    show (lgAt x.l (z.h.getD j ⟨0, 0⟩).g).t = _
    rw [show z.h.getD j ⟨0, 0⟩ = z.h[j] by simp [List.getD, hj], hg, lgAt_get hk])
  have hb0 := (Below.refl w.heap.size w).alloc (Nat.le_refl _) (.cells #[.slice x.A0 x.l.length x.k0, .slice x.A1 x.zs.length x.k1, .int .i64 x.c] 36)
  obtain ⟨ga, hAe, hga, l0_, l1_, l2_, l3_, l4_, l5_⟩ := (hA.below hb0).lg k hk
  obtain ⟨gt, hTe, hgt, t0_, t1_⟩ := (h.below hb0).way.tp j hj
  have c6_ := (h.below hb0).c6
  have hbx := (Box3.new (T := 36) (v0 := .slice x.A0 x.l.length x.k0) (v1 := .slice x.A1 x.zs.length x.k1) (v2 := .int .i64 x.c) w).cells
  obtain ⟨n0_, n1_, n2_⟩ := hbx
  rw [hTe] at c6_
  rw [hg] at t0_
  have HB := Lib.hid hb0
  replace hAe := Lib.hid hAe
  clear h hb0 hA hTe t1_ l0_ l2_ l3_ l4_ l5_ n1_ n2_ hg
  generalize x.l[k].t = y at *
  have hk0 : (0 : Int) ≤ (k : Int) := by omega
  have hk1 : (k : Int) < (x.l.length : Int) := by omega
  have hj1 : (j : Int) < (z.h.length : Int) := by omega
  have hne : (((j : Int) + 1) == 0) = false := by simp; omega
  go_enter Tryz.func109, Tryz.ntmps109
  go_wp2_with fail
  generalize w.alloc (.cells #[.slice x.A0 x.l.length x.k0, .slice x.A1 x.zs.length x.k1, .int .i64 x.c] 36) = W at *
  rw [hAe.out] at n0_
  go_quiet (fail)
  go_wp2
  go_ret
  exact ⟨by rw [HV.out]; rfl, below_drewN HB.out _⟩
theorem is_serv (n : Int) (w : World) : Calls Tryz.prog 122 #[.int .i64 n] w fun e w' => e = .returned (.bool (inB n 1 3)) ∧ Below w.heap.size w w' := by
  by_cases h1 : 1 ≤ n
  · have t1 : decide (1 ≤ n) = true := decide_eq_true h1
    by_cases h2 : n ≤ 3
    · have HV := Lib.hid (inB_iff.2 ⟨h1, h2⟩)
      have t2 : decide (n ≤ 3) = true := decide_eq_true h2
      go_enter Tryz.func122, Tryz.ntmps122
      go_wp2
      go_ret
      exact ⟨by rw [HV.out]; rfl, Below.refl _ _⟩
    · have HV := Lib.hid (show inB n 1 3 = false from decide_eq_false (fun h => h2 h.2))
      have t2 : decide (n ≤ 3) = false := decide_eq_false h2
      go_enter Tryz.func122, Tryz.ntmps122
      go_wp2
      go_ret
      exact ⟨by rw [HV.out]; rfl, Below.refl _ _⟩
  · have HV := Lib.hid (show inB n 1 3 = false from decide_eq_false (fun h => h1 h.1))
    have t1 : decide (1 ≤ n) = false := decide_eq_false h1
    go_enter Tryz.func122, Tryz.ntmps122
    go_wp2
    go_ret
    exact ⟨by rw [HV.out]; rfl, Below.refl _ _⟩
theorem is_weight (n : Int) (w : World) : Calls Tryz.prog 123 #[.int .i64 n] w fun e w' => e = .returned (.bool (inB n 1 30000)) ∧ Below w.heap.size w w' := by
  by_cases h1 : 1 ≤ n
  · have t1 : decide (1 ≤ n) = true := decide_eq_true h1
    by_cases h2 : n ≤ 30000
    · have HV := Lib.hid (inB_iff.2 ⟨h1, h2⟩)
      have t2 : decide (n ≤ 30000) = true := decide_eq_true h2
      go_enter Tryz.func123, Tryz.ntmps123
      go_wp2
      go_ret
      exact ⟨by rw [HV.out]; rfl, Below.refl _ _⟩
    · have HV := Lib.hid (show inB n 1 30000 = false from decide_eq_false (fun h => h2 h.2))
      have t2 : decide (n ≤ 30000) = false := decide_eq_false h2
      go_enter Tryz.func123, Tryz.ntmps123
      go_wp2
      go_ret
      exact ⟨by rw [HV.out]; rfl, Below.refl _ _⟩
  · have HV := Lib.hid (show inB n 1 30000 = false from decide_eq_false (fun h => h1 h.1))
    have t1 : decide (1 ≤ n) = false := decide_eq_false h1
    go_enter Tryz.func123, Tryz.ntmps123
    go_wp2
    go_ret
    exact ⟨by rw [HV.out]; rfl, Below.refl _ _⟩
end Go.Proofs.YtadcmngooobeiabGreat

/- The reference's small functions on orders: l10Coming, l10Booked, l6Closed. Written by mk/isw8.py. -/
import Derived.Test.YtadcmngooobeiabGreatOrd1
import Derived.Test.YtadcmngooobeiabGreatHasX
import Derived.Deep.Cut
namespace Go.Proofs.YtadcmngooobeiabGreat
open Go.RowKit
set_option maxRecDepth 100000 in
theorem coming_spec (z : OrR) (w : World) (hg : -9223372036854775808 ≤ z.g ∧ z.g ≤ 9223372036854775806) :
    Calls Tryz.prog 75 #[.agg #[.string z.f, .string z.t, .int .i64 z.s, .int .i64 z.m, .int .i64 z.a, .int .i64 z.u, .slice z.A z.h.length z.k, .int .i64 z.g, .int .i64 z.z, .string z.p, .int .i64 z.e]] w fun e w' => e = .returned (.int .i64 (comI z.d)) ∧ Below w.heap.size w w' := by
  have HB := Lib.hid ((Below.refl w.heap.size w).alloc (Nat.le_refl _) (.cells ⟨[.string z.f, .string z.t, .int .i64 z.s, .int .i64 z.m, .int .i64 z.a, .int .i64 z.u, .slice z.A z.h.length z.k, .int .i64 z.g, .int .i64 z.z, .string z.p, .int .i64 z.e]⟩ 65))
  have hbx := Bx.new (T := 65) w [.string z.f, .string z.t, .int .i64 z.s, .int .i64 z.m, .int .i64 z.a, .int .i64 z.u, .slice z.A z.h.length z.k, .int .i64 z.g, .int .i64 z.z, .string z.p, .int .i64 z.e]
  have c7_ := hbx.cell 7 _ rfl
  have c8_ := hbx.cell 8 _ rfl
  clear hbx
  by_cases h2 : z.z = 2
  · have HV := Lib.hid (show comI z.d = z.g + 1 from if_pos h2)
    have ht : (z.z == 2) = true := by simp [h2]
    clear h2
    go_enter Tryz.func75, Tryz.ntmps75
    go_wp2
    go_ret
    exact ⟨by rw [HV.out]; rfl, HB.out⟩
  · have HV := Lib.hid (show comI z.d = z.g from if_neg h2)
    have ht : (z.z == 2) = false := by simp [h2]
    clear h2
    go_enter Tryz.func75, Tryz.ntmps75
    go_wp2
    go_ret
    exact ⟨by rw [HV.out]; rfl, HB.out⟩
theorem eqBk_comm (x y : Bk) : eqBk x y = eqBk y x := by
  unfold eqBk
  rw [BEq.comm (a := x.h), BEq.comm (a := x.g), BEq.comm (a := x.d), BEq.comm (a := x.m)]
theorem eqTp_comm (x y : Tp) : eqTp x y = eqTp y x := by
  unfold eqTp
  rw [BEq.comm (a := x.g), BEq.comm (a := x.d)]
set_option maxRecDepth 100000 in
set_option maxHeartbeats 2000000 in
theorem booked_spec (th g d wt : Int) (A : Option Addr) (ca : Nat) (l : List Bk) (w : World) (hA : InK 4 bkC w A l) (hn : l.length ≤ 1048576) :
    Calls Tryz.prog 94 #[.slice A l.length ca, .int .i64 th, .agg #[.int .i64 g, .int .i64 d], .int .i64 wt] w fun e w' => e = .returned (.bool (anyE eqBk ⟨th, g, d, wt⟩ l)) ∧ Below w.heap.size w w' := by
  have FT := Lib.hid (Bx.new (T := 52) w [.int .i64 g, .int .i64 d])
  have hb0 := (Below.refl w.heap.size w).alloc (Nat.le_refl _) (.cells ⟨[.int .i64 g, .int .i64 d]⟩ 52)
  have HA := Lib.hid (hA.below hb0); have HB := Lib.hid hb0; have HL := Lib.hid hb0.size
  clear hA hb0
  generalize hB : w.heap.size = B at *
  go_enter Tryz.func94, Tryz.ntmps94
  go_wp2
  clear hB
  change Hid (Bx 52 (w.alloc (.cells ⟨[.int .i64 g, .int .i64 d]⟩ 52)) B [.int .i64 g, .int .i64 d]) at FT
  generalize w.alloc (.cells ⟨[.int .i64 g, .int .i64 d]⟩ 52) = W0 at *
  go_loopw [9] (fun i wr => ∃ k : Nat, i = .int .i64 k ∧ k ≤ l.length ∧ Hid (∀ j (_ : j < l.length), j < k → eqBk ⟨th, g, d, wt⟩ l[j] = false) ∧ Hid (Below W0.heap.size W0 wr)) (fun i _ => l.length - (intOf i).toNat)
  case atStart => exact ⟨0, rfl, Nat.zero_le _, Lib.hid (fun j _ h => absurd h (by omega)), Lib.hid (Below.refl _ _)⟩
  case round =>
    obtain ⟨k, rfl, hk, hall, hbw⟩ := hrel
    have FTw := Lib.hid (FT.out.below hbw.out)
    have HBw := Lib.hid (HB.out.trans (hbw.out.mono HL.out))
    by_cases hlt : (k : Int) < (l.length : Int)
    · have hkl : k < l.length := by omega
      obtain ⟨b, rfl, hb, c0, c1, c2, c3⟩ := (HA.out.below hbw.out).bk k hkl
      have HH := Lib.hid (fun h => anyE_hit (q := eqBk) (v := ⟨th, g, d, wt⟩) hkl h)
      have HN := Lib.hid (fun (h : eqBk ⟨th, g, d, wt⟩ l[k] = false) j (hj : j < l.length) (hjk : j < k + 1) => show eqBk ⟨th, g, d, wt⟩ l[j] = false by
        by_cases e : j = k
        · subst e; exact h
        · exact hall.out j hj (by omega))
      clear hall
      have hEQ := bk_eqlW l[k] ⟨th, g, d, wt⟩
      have HC := Lib.hid (show eqBk l[k] ⟨th, g, d, wt⟩ = eqBk ⟨th, g, d, wt⟩ l[k] from eqBk_comm _ _)
      rw [HC.out] at hEQ; clear HC
      generalize l[k] = y at *
      have t0_ := FTw.out.cell 0 _ rfl
      have t1_ := FTw.out.cell 1 _ rfl
      cases hq : eqBk ⟨th, g, d, wt⟩ y with
      | true =>
        rw [hq] at hEQ
        have HV := Lib.hid (HH.out hq)
        clear HH HN hq
        go_wp2_with fail
        go_quiet (fail)
        go_wp2
        go_ret
        exact ⟨by rw [HV.out]; rfl, by first | exact HBw.out | exact below_drewN HBw.out _⟩
      | false =>
        rw [hq] at hEQ
        have HV := Lib.hid (HN.out hq)
        clear HH HN hq
        go_wp2_with fail
        go_quiet (fail)
        go_wp2
        go_roundw
        case rel => exact ⟨k + 1, by go_num, by omega, HV, Lib.hid (by first | exact hbw.out | exact below_drewN hbw.out _)⟩
        case measure => simp [intOf]; omega
    · obtain rfl : k = l.length := by omega
      have HV := Lib.hid (anyE_miss (fun j hj => hall.out j hj hj))
      clear hall
      go_wp2
      go_ret
      exact ⟨by rw [HV.out]; rfl, HBw.out⟩
set_option maxRecDepth 100000 in
set_option maxHeartbeats 2000000 in
theorem closedX_spec (g d : Int) (A : Option Addr) (ca : Nat) (l : List Tp) (w : World) (hA : InK 2 tpC w A l) (hn : l.length ≤ 1048576) :
    Calls Tryz.prog 61 #[.slice A l.length ca, .agg #[.int .i64 g, .int .i64 d]] w fun e w' => e = .returned (.bool (anyE eqTp ⟨g, d⟩ l)) ∧ Below w.heap.size w w' := by
  have FT := Lib.hid (Bx.new (T := 52) w [.int .i64 g, .int .i64 d])
  have hb0 := (Below.refl w.heap.size w).alloc (Nat.le_refl _) (.cells ⟨[.int .i64 g, .int .i64 d]⟩ 52)
  have HA := Lib.hid (hA.below hb0); have HB := Lib.hid hb0; have HL := Lib.hid hb0.size
  clear hA hb0
  generalize hB : w.heap.size = B at *
  go_enter Tryz.func61, Tryz.ntmps61
  go_wp2
  clear hB
  change Hid (Bx 52 (w.alloc (.cells ⟨[.int .i64 g, .int .i64 d]⟩ 52)) B [.int .i64 g, .int .i64 d]) at FT
  generalize w.alloc (.cells ⟨[.int .i64 g, .int .i64 d]⟩ 52) = W0 at *
  go_loopw [5] (fun i wr => ∃ k : Nat, i = .int .i64 k ∧ k ≤ l.length ∧ Hid (∀ j (_ : j < l.length), j < k → eqTp ⟨g, d⟩ l[j] = false) ∧ Hid (Below W0.heap.size W0 wr)) (fun i _ => l.length - (intOf i).toNat)
  case atStart => exact ⟨0, rfl, Nat.zero_le _, Lib.hid (fun j _ h => absurd h (by omega)), Lib.hid (Below.refl _ _)⟩
  case round =>
    obtain ⟨k, rfl, hk, hall, hbw⟩ := hrel
    have FTw := Lib.hid (FT.out.below hbw.out)
    have HBw := Lib.hid (HB.out.trans (hbw.out.mono HL.out))
    by_cases hlt : (k : Int) < (l.length : Int)
    · have hkl : k < l.length := by omega
      obtain ⟨b, rfl, hb, c0, c1⟩ := (HA.out.below hbw.out).tp k hkl
      have HH := Lib.hid (fun h => anyE_hit (q := eqTp) (v := ⟨g, d⟩) hkl h)
      have HN := Lib.hid (fun (h : eqTp ⟨g, d⟩ l[k] = false) j (hj : j < l.length) (hjk : j < k + 1) => show eqTp ⟨g, d⟩ l[j] = false by
        by_cases e : j = k
        · subst e; exact h
        · exact hall.out j hj (by omega))
      clear hall
      have hEQ := tp_eqlW l[k] ⟨g, d⟩
      have HC := Lib.hid (show eqTp l[k] ⟨g, d⟩ = eqTp ⟨g, d⟩ l[k] from eqTp_comm _ _)
      rw [HC.out] at hEQ; clear HC
      generalize l[k] = y at *
      have t0_ := FTw.out.cell 0 _ rfl
      have t1_ := FTw.out.cell 1 _ rfl
      cases hq : eqTp ⟨g, d⟩ y with
      | true =>
        rw [hq] at hEQ
        have HV := Lib.hid (HH.out hq)
        clear HH HN hq
        go_wp2_with fail
        go_quiet (fail)
        go_wp2
        go_ret
        exact ⟨by rw [HV.out]; rfl, by first | exact HBw.out | exact below_drewN HBw.out _⟩
      | false =>
        rw [hq] at hEQ
        have HV := Lib.hid (HN.out hq)
        clear HH HN hq
        go_wp2_with fail
        go_quiet (fail)
        go_wp2
        go_roundw
        case rel => exact ⟨k + 1, by go_num, by omega, HV, Lib.hid (by first | exact hbw.out | exact below_drewN hbw.out _)⟩
        case measure => simp [intOf]; omega
    · obtain rfl : k = l.length := by omega
      have HV := Lib.hid (anyE_miss (fun j hj => hall.out j hj hj))
      clear hall
      go_wp2
      go_ret
      exact ⟨by rw [HV.out]; rfl, HBw.out⟩
end Go.Proofs.YtadcmngooobeiabGreat

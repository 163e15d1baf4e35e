/- slices.Index and slices.Contains at trips and bookings. Written by mk/hasx.py. -/
import Derived.Test.YtadcmngooobeiabGreatSameL
namespace Go.Proofs.YtadcmngooobeiabGreat
open Go.RowKit
theorem InK.take {α : Type} {k : Nat} {enc : α → List Value} {W : World} {A : Option Addr} {l : List α} (h : InK k enc W A l) (i : Nat) : InK k enc W A (l.take i) := by
  intro j hj
  rw [List.length_take] at hj
  obtain ⟨g, h1, h2, h3⟩ := h j (by omega)
  exact ⟨g, h1, h2, fun q hq => by rw [List.getElem_take]; exact h3 q hq⟩
/-- one that is equal to it is there -/
def anyE {α : Type} (q : α → α → Bool) (v : α) (l : List α) : Bool := l.any fun u => q v u
theorem anyE_hit {α : Type} {q : α → α → Bool} {v : α} {l : List α} {k : Nat} (hk : k < l.length) (h : q v l[k] = true) : anyE q v l = true := by
  unfold anyE
  rw [List.any_eq_true]
  exact ⟨l[k], List.getElem_mem hk, h⟩
theorem anyE_miss {α : Type} {q : α → α → Bool} {v : α} {l : List α} (h : ∀ j (_ : j < l.length), q v l[j] = false) : anyE q v l = false := by
  unfold anyE
  rw [List.any_eq_false]
  intro u hu
  obtain ⟨j, hj, rfl⟩ := List.getElem_of_mem hu
  rw [h j hj]
  exact Bool.false_ne_true
set_option maxRecDepth 100000 in
set_option maxHeartbeats 2000000 in
theorem indexX_tp (v : Tp) (A : Option Addr) (ca : Nat) (l : List Tp) (w : World) (hA : InK 2 tpC w A l) (hn : l.length ≤ 1048576) :
    Calls Tryz.prog 118 #[.slice A l.length ca, .agg #[.int .i64 v.g, .int .i64 v.d]] w fun e w' => (∃ r : Int, e = .returned (.int .i64 r) ∧ decide (0 ≤ r) = anyE eqTp v l) ∧ Below w.heap.size w w' := by
  have FT := Lib.hid (Bx.new (T := 52) w [.int .i64 v.g, .int .i64 v.d])
  have hb0 := (Below.refl w.heap.size w).alloc (Nat.le_refl _) (.cells ⟨[.int .i64 v.g, .int .i64 v.d]⟩ 52)
  have HA := Lib.hid (hA.below hb0); have HB := Lib.hid hb0; have HL := Lib.hid hb0.size
  clear hA hb0
  generalize hB : w.heap.size = B at *
  go_enter Tryz.func118, Tryz.ntmps118
  go_wp2
  clear hB
  change Hid (Bx 52 (w.alloc (.cells ⟨[.int .i64 v.g, .int .i64 v.d]⟩ 52)) B [.int .i64 v.g, .int .i64 v.d]) at FT
  generalize w.alloc (.cells ⟨[.int .i64 v.g, .int .i64 v.d]⟩ 52) = W0 at *
  go_loopw [8] (fun i wr => ∃ k : Nat, i = .int .i64 k ∧ k ≤ l.length ∧ Hid (∀ j (_ : j < l.length), j < k → eqTp v l[j] = false) ∧ Hid (Below W0.heap.size W0 wr)) (fun i _ => l.length - (intOf i).toNat)
  case atStart => exact ⟨0, rfl, Nat.zero_le _, Lib.hid (fun j _ h => absurd h (by omega)), Lib.hid (Below.refl _ _)⟩
  case round =>
    obtain ⟨k, rfl, hk, hall, hbw⟩ := hrel
    have FTw := Lib.hid (FT.out.below hbw.out)
    have HBw := Lib.hid (HB.out.trans (hbw.out.mono HL.out))
    by_cases hlt : (k : Int) < (l.length : Int)
    · have hkl : k < l.length := by omega
      obtain ⟨b, rfl, hb, c0, c1⟩ := (HA.out.below hbw.out).tp k hkl
      have HH := Lib.hid (fun h => anyE_hit (q := eqTp) (v := v) hkl h)
      have HN := Lib.hid (fun (h : eqTp v l[k] = false) j (hj : j < l.length) (hjk : j < k + 1) => show eqTp v l[j] = false by
        by_cases e : j = k
        · subst e; exact h
        · exact hall.out j hj (by omega))
      clear hall
      have hEQ := tp_eqlW v l[k]
      generalize l[k] = y at *
      have t0_ := FTw.out.cell 0 _ rfl
      have t1_ := FTw.out.cell 1 _ rfl
      cases hq : eqTp v y with
      | true =>
        rw [hq] at hEQ
        have HV := Lib.hid (HH.out hq)
        clear HH HN hq
        go_wp2_with fail
        go_quiet (fail)
        go_wp2
        go_ret
        exact ⟨⟨_, rfl, by rw [HV.out]; exact decide_eq_true (by omega)⟩, by first | exact HBw.out | exact below_drewN HBw.out _⟩
      | false =>
        rw [hq] at hEQ
        have HV := Lib.hid (HN.out hq)
        clear HH HN hq
        go_wp2_with fail
        go_quiet (fail)
        go_wp2
        go_roundw
        case rel => exact ⟨k + 1, by go_num, by omega, HV, Lib.hid (by first | exact hbw.out | exact below_drewN hbw.out _)⟩
        case measure => simp [intOf]; omega
    · obtain rfl : k = l.length := by omega
      have HV := Lib.hid (anyE_miss (fun j hj => hall.out j hj hj))
      clear hall
      go_wp2
      go_ret
      exact ⟨⟨_, rfl, by rw [HV.out]; exact decide_eq_false (by omega)⟩, HBw.out⟩
set_option maxRecDepth 100000 in
set_option maxHeartbeats 1000000 in
theorem hasX_tp (v : Tp) (A : Option Addr) (ca : Nat) (l : List Tp) (w : World) (hA : InK 2 tpC w A l) (hn : l.length ≤ 1048576) :
    Calls Tryz.prog 103 #[.slice A l.length ca, .agg #[.int .i64 v.g, .int .i64 v.d]] w fun e w' => e = .returned (.bool (anyE eqTp v l)) ∧ Below w.heap.size w w' := by
  have hb0 := (Below.refl w.heap.size w).alloc (Nat.le_refl _) (.cells #[.int .i64 v.g, .int .i64 v.d] 52)
  have HI := Lib.hid (indexX_tp v A ca l _ (hA.below hb0) hn)
  have HB := Lib.hid hb0; have HL := Lib.hid hb0.size
  clear hA hb0
  generalize hB : w.heap.size = B at *
  go_enter Tryz.func103, Tryz.ntmps103
  go_wp2_with fail
  clear hB
  refine HI.out.mono ?_; rintro e w1 ⟨⟨r, rfl, hr⟩, hb⟩
  have HR := Lib.hid hr
  replace HB := Lib.hid (HB.out.trans (hb.mono HL.out))
  clear hr hb
  go_wp2
  go_ret
  exact ⟨ret_bool HR.out, HB.out⟩
set_option maxRecDepth 100000 in
set_option maxHeartbeats 2000000 in
theorem indexX_bk (v : Bk) (A : Option Addr) (ca : Nat) (l : List Bk) (w : World) (hA : InK 4 bkC w A l) (hn : l.length ≤ 1048576) :
    Calls Tryz.prog 134 #[.slice A l.length ca, .agg #[.int .i64 v.h, .int .i64 v.g, .int .i64 v.d, .int .i64 v.m]] w fun e w' => (∃ r : Int, e = .returned (.int .i64 r) ∧ decide (0 ≤ r) = anyE eqBk v l) ∧ Below w.heap.size w w' := by
  have FT := Lib.hid (Bx.new (T := 106) w [.int .i64 v.h, .int .i64 v.g, .int .i64 v.d, .int .i64 v.m])
  have hb0 := (Below.refl w.heap.size w).alloc (Nat.le_refl _) (.cells ⟨[.int .i64 v.h, .int .i64 v.g, .int .i64 v.d, .int .i64 v.m]⟩ 106)
  have HA := Lib.hid (hA.below hb0); have HB := Lib.hid hb0; have HL := Lib.hid hb0.size
  clear hA hb0
  generalize hB : w.heap.size = B at *
  go_enter Tryz.func134, Tryz.ntmps134
  go_wp2
  clear hB
  change Hid (Bx 106 (w.alloc (.cells ⟨[.int .i64 v.h, .int .i64 v.g, .int .i64 v.d, .int .i64 v.m]⟩ 106)) B [.int .i64 v.h, .int .i64 v.g, .int .i64 v.d, .int .i64 v.m]) at FT
  generalize w.alloc (.cells ⟨[.int .i64 v.h, .int .i64 v.g, .int .i64 v.d, .int .i64 v.m]⟩ 106) = W0 at *
  go_loopw [8] (fun i wr => ∃ k : Nat, i = .int .i64 k ∧ k ≤ l.length ∧ Hid (∀ j (_ : j < l.length), j < k → eqBk v l[j] = false) ∧ Hid (Below W0.heap.size W0 wr)) (fun i _ => l.length - (intOf i).toNat)
  case atStart => exact ⟨0, rfl, Nat.zero_le _, Lib.hid (fun j _ h => absurd h (by omega)), Lib.hid (Below.refl _ _)⟩
  case round =>
    obtain ⟨k, rfl, hk, hall, hbw⟩ := hrel
    have FTw := Lib.hid (FT.out.below hbw.out)
    have HBw := Lib.hid (HB.out.trans (hbw.out.mono HL.out))
    by_cases hlt : (k : Int) < (l.length : Int)
    · have hkl : k < l.length := by omega
      obtain ⟨b, rfl, hb, c0, c1, c2, c3⟩ := (HA.out.below hbw.out).bk k hkl
      have HH := Lib.hid (fun h => anyE_hit (q := eqBk) (v := v) hkl h)
      have HN := Lib.hid (fun (h : eqBk v l[k] = false) j (hj : j < l.length) (hjk : j < k + 1) => show eqBk v l[j] = false by
        by_cases e : j = k
        · subst e; exact h
        · exact hall.out j hj (by omega))
      clear hall
      have hEQ := bk_eqlW v l[k]
      generalize l[k] = y at *
      have t0_ := FTw.out.cell 0 _ rfl
      have t1_ := FTw.out.cell 1 _ rfl
      have t2_ := FTw.out.cell 2 _ rfl
      have t3_ := FTw.out.cell 3 _ rfl
      cases hq : eqBk v y with
      | true =>
        rw [hq] at hEQ
        have HV := Lib.hid (HH.out hq)
        clear HH HN hq
        go_wp2_with fail
        go_quiet (fail)
        go_wp2
        go_ret
        exact ⟨⟨_, rfl, by rw [HV.out]; exact decide_eq_true (by omega)⟩, by first | exact HBw.out | exact below_drewN HBw.out _⟩
      | false =>
        rw [hq] at hEQ
        have HV := Lib.hid (HN.out hq)
        clear HH HN hq
        go_wp2_with fail
        go_quiet (fail)
        go_wp2
        go_roundw
        case rel => exact ⟨k + 1, by go_num, by omega, HV, Lib.hid (by first | exact hbw.out | exact below_drewN hbw.out _)⟩
        case measure => simp [intOf]; omega
    · obtain rfl : k = l.length := by omega
      have HV := Lib.hid (anyE_miss (fun j hj => hall.out j hj hj))
      clear hall
      go_wp2
      go_ret
      exact ⟨⟨_, rfl, by rw [HV.out]; exact decide_eq_false (by omega)⟩, HBw.out⟩
set_option maxRecDepth 100000 in
set_option maxHeartbeats 1000000 in
theorem hasX_bk (v : Bk) (A : Option Addr) (ca : Nat) (l : List Bk) (w : World) (hA : InK 4 bkC w A l) (hn : l.length ≤ 1048576) :
    Calls Tryz.prog 125 #[.slice A l.length ca, .agg #[.int .i64 v.h, .int .i64 v.g, .int .i64 v.d, .int .i64 v.m]] w fun e w' => e = .returned (.bool (anyE eqBk v l)) ∧ Below w.heap.size w w' := by
  have hb0 := (Below.refl w.heap.size w).alloc (Nat.le_refl _) (.cells #[.int .i64 v.h, .int .i64 v.g, .int .i64 v.d, .int .i64 v.m] 106)
  have HI := Lib.hid (indexX_bk v A ca l _ (hA.below hb0) hn)
  have HB := Lib.hid hb0; have HL := Lib.hid hb0.size
  clear hA hb0
  generalize hB : w.heap.size = B at *
  go_enter Tryz.func125, Tryz.ntmps125
  go_wp2_with fail
  clear hB
  refine HI.out.mono ?_; rintro e w1 ⟨⟨r, rfl, hr⟩, hb⟩
  have HR := Lib.hid hr
  replace HB := Lib.hid (HB.out.trans (hb.mono HL.out))
  clear hr hb
  go_wp2
  go_ret
  exact ⟨ret_bool HR.out, HB.out⟩
end Go.Proofs.YtadcmngooobeiabGreat

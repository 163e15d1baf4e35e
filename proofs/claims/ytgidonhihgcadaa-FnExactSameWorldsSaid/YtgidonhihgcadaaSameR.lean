/- The reference's comparing of two lists. Written by mk/same.py. -/
import Derived.Test.YtgidonhihgcadaaSameL
namespace Go.Proofs.Ytgidonhihgcadaa
open Go.RowKit
set_option maxRecDepth 100000 in
set_option maxHeartbeats 2000000 in
theorem same_tp (A B : Option Addr) (ca cb : Nat) (a b : List Tp) (w : World) (hA : InK 2 tpC w A a) (hB : InK 2 tpC w B b) (hn : a.length ≤ 1048576) :
    Calls Try.prog 31 #[.slice A a.length ca, .slice B b.length cb] w fun e w' => e = .returned (.bool (eqL eqTp a b)) ∧ Below w.heap.size w w' := by
  have HA := Lib.hid hA; have HB := Lib.hid hB; clear hA hB
  go_enter Try.func31, Try.ntmps31
  go_wp2
  go_loopw [5] (fun i wr => ∃ k : Nat, i = .int .i64 k ∧ k ≤ a.length ∧ k ≤ b.length ∧ Hid (∀ j (ha : j < a.length) (hb : j < b.length), j < k → eqTp a[j] b[j] = true) ∧ Hid (Below w.heap.size w wr)) (fun i _ => a.length - (intOf i).toNat)
  case atStart => exact ⟨0, rfl, Nat.zero_le _, Nat.zero_le _, Lib.hid (fun j _ _ h => absurd h (by omega)), Lib.hid (Below.refl _ _)⟩
  case round =>
    obtain ⟨k, rfl, hk, hk', hall, hbw⟩ := hrel
    by_cases hab : k < a.length ∧ k < b.length
    · obtain ⟨hka, hkb⟩ := hab
      have hlt : (k : Int) < (a.length : Int) := by omega
      have hltb : (k : Int) < (b.length : Int) := by omega
      obtain ⟨ga, rfl, hga, c0, c1⟩ := (HA.out.below hbw.out).tp k hka
      obtain ⟨gb, rfl, hgb, d0, d1⟩ := (HB.out.below hbw.out).tp k hkb
      have HH := Lib.hid (fun h => eqL_no (q := eqTp) hka hkb h)
      have HN := Lib.hid (fun (h : eqTp a[k] b[k] = true) j (ha : j < a.length) (hb : j < b.length) (hjk : j < k + 1) => show eqTp a[j] b[j] = true by
        by_cases e : j = k
        · subst e; exact h
        · exact hall.out j ha hb (by omega))
      clear hall
      have hEQ := tp_neqW a[k] b[k]
      generalize a[k] = y at *
      generalize b[k] = z at *
      cases hq : eqTp y z with
      | true =>
        rw [hq] at hEQ
        have HV := Lib.hid (HN.out hq)
        clear HH HN hq
        go_wp2_with fail
        go_quiet (fail)
        go_wp2
        go_roundw
        case rel => exact ⟨k + 1, by go_num, by omega, by omega, HV, Lib.hid (by first | exact hbw.out | exact below_drewN hbw.out _)⟩
        case measure => simp [intOf]; omega
      | false =>
        rw [hq] at hEQ
        have HV := Lib.hid (HH.out hq)
        clear HH HN hq
        go_wp2_with fail
        go_quiet (fail)
        go_wp2
        go_ret
        exact ⟨by rw [HV.out]; rfl, by first | exact hbw.out | exact below_drewN hbw.out _⟩
    · by_cases hl : a.length = b.length
      · have HV := Lib.hid (eqL_yes hl (fun j ha hb => hall.out j ha hb (by omega)))
        have hlb : ((a.length : Int) == (b.length : Int)) = true := by simp [hl]
        clear hall
        have hge : ¬ (k : Int) < (a.length : Int) := by omega
        go_wp2
        go_ret
        exact ⟨by rw [HV.out]; rfl, hbw.out⟩
      · have HV := Lib.hid (eqL_len (q := eqTp) hl)
        have hlb : ((a.length : Int) == (b.length : Int)) = false := by simp; omega
        clear hall
        by_cases hge : (k : Int) < (a.length : Int)
        · have hgb : ¬ (k : Int) < (b.length : Int) := by omega
          go_wp2
          go_ret
          exact ⟨by rw [HV.out]; rfl, hbw.out⟩
        · go_wp2
          go_ret
          exact ⟨by rw [HV.out]; rfl, hbw.out⟩
set_option maxRecDepth 100000 in
set_option maxHeartbeats 2000000 in
theorem same_i (A B : Option Addr) (ca cb : Nat) (a b : List Int) (w : World) (hA : IntsIn w A a) (hB : IntsIn w B b) (hn : a.length ≤ 1048576) :
    Calls Try.prog 30 #[.slice A a.length ca, .slice B b.length cb] w fun e w' => e = .returned (.bool (eqL eqI a b)) ∧ Below w.heap.size w w' := by
  have HA := Lib.hid hA; have HB := Lib.hid hB; clear hA hB
  go_enter Try.func30, Try.ntmps30
  go_wp2
  go_loopw [5] (fun i wr => ∃ k : Nat, i = .int .i64 k ∧ k ≤ a.length ∧ k ≤ b.length ∧ Hid (∀ j (ha : j < a.length) (hb : j < b.length), j < k → eqI a[j] b[j] = true) ∧ Hid (Below w.heap.size w wr)) (fun i _ => a.length - (intOf i).toNat)
  case atStart => exact ⟨0, rfl, Nat.zero_le _, Nat.zero_le _, Lib.hid (fun j _ _ h => absurd h (by omega)), Lib.hid (Below.refl _ _)⟩
  case round =>
    obtain ⟨k, rfl, hk, hk', hall, hbw⟩ := hrel
    by_cases hab : k < a.length ∧ k < b.length
    · obtain ⟨hka, hkb⟩ := hab
      have hlt : (k : Int) < (a.length : Int) := by omega
      have hltb : (k : Int) < (b.length : Int) := by omega
      obtain ⟨ga, rfl, hga, c0⟩ := (HA.out.below hbw.out) k hka
      obtain ⟨gb, rfl, hgb, d0⟩ := (HB.out.below hbw.out) k hkb
      have HH := Lib.hid (fun h => eqL_no (q := eqI) hka hkb h)
      have HN := Lib.hid (fun (h : eqI a[k] b[k] = true) j (ha : j < a.length) (hb : j < b.length) (hjk : j < k + 1) => show eqI a[j] b[j] = true by
        by_cases e : j = k
        · subst e; exact h
        · exact hall.out j ha hb (by omega))
      clear hall
      have hEQ : (a[k] != b[k]) = !(eqI a[k] b[k]) := by unfold eqI; rfl
      generalize a[k] = y at *
      generalize b[k] = z at *
      cases hq : eqI y z with
      | true =>
        rw [hq] at hEQ
        have HV := Lib.hid (HN.out hq)
        clear HH HN hq
        go_wp2_with fail
        go_quiet (fail)
        go_wp2
        go_roundw
        case rel => exact ⟨k + 1, by go_num, by omega, by omega, HV, Lib.hid (by first | exact hbw.out | exact below_drewN hbw.out _)⟩
        case measure => simp [intOf]; omega
      | false =>
        rw [hq] at hEQ
        have HV := Lib.hid (HH.out hq)
        clear HH HN hq
        go_wp2_with fail
        go_quiet (fail)
        go_wp2
        go_ret
        exact ⟨by rw [HV.out]; rfl, by first | exact hbw.out | exact below_drewN hbw.out _⟩
    · by_cases hl : a.length = b.length
      · have HV := Lib.hid (eqL_yes hl (fun j ha hb => hall.out j ha hb (by omega)))
        have hlb : ((a.length : Int) == (b.length : Int)) = true := by simp [hl]
        clear hall
        have hge : ¬ (k : Int) < (a.length : Int) := by omega
        go_wp2
        go_ret
        exact ⟨by rw [HV.out]; rfl, hbw.out⟩
      · have HV := Lib.hid (eqL_len (q := eqI) hl)
        have hlb : ((a.length : Int) == (b.length : Int)) = false := by simp; omega
        clear hall
        by_cases hge : (k : Int) < (a.length : Int)
        · have hgb : ¬ (k : Int) < (b.length : Int) := by omega
          go_wp2
          go_ret
          exact ⟨by rw [HV.out]; rfl, hbw.out⟩
        · go_wp2
          go_ret
          exact ⟨by rw [HV.out]; rfl, hbw.out⟩
end Go.Proofs.Ytgidonhihgcadaa

/- Contracts of isThing, isBox, areListed: what lies in a list one by one. -/
import Derived.Test.YtodphbnbljpegabFind
namespace Go.Proofs.Ytodphbnbljpegab
open Go.RowKit
set_option maxHeartbeats 2000000 in
theorem is_thing (t : Th) (w : World) :
    Calls Try.prog 172 #[thV t] w fun e w' => e = .returned (.bool (okT t)) ∧ Below w.heap.size w w' := by
  obtain ⟨d, o, r, n, x, s⟩ := t
  show Calls Try.prog 172 #[.agg #[.int .i64 d, .int .i64 o, .int .i64 r, .int .i64 n, .bool x, .bool s]] w _
  have HY := Lib.hid (okT_iff (t := ⟨d, o, r, n, x, s⟩))
  simp only [] at HY
  generalize okT ⟨d, o, r, n, x, s⟩ = V at *
  have HT := Lib.hid (fun h => (HY.out.2 h).symm)
  have HF := Lib.hid (show ∀ h : ¬ (1 ≤ d ∧ d ≤ 9999 ∧ 1 ≤ o ∧ o ≤ 30000 ∧ (x = true → 1 ≤ r ∧ r ≤ 1000000) ∧ (x = false → r = 0 ∧ s = false)), false = V from fun h => by
    cases hv : V with
    | false => rfl
    | true => exact absurd (HY.out.1 hv) h)
  clear HY
  by_cases h1 : d < 1
  · go_enter Try.func172, Try.ntmps172
    go_wp2
    go_ret
    exact ⟨ret_bool (HF.out (by omega)), (Below.refl _ _).alloc (Nat.le_refl _) _⟩
  by_cases h2 : 9999 < d
  · go_enter Try.func172, Try.ntmps172
    go_wp2
    go_ret
    exact ⟨ret_bool (HF.out (by omega)), (Below.refl _ _).alloc (Nat.le_refl _) _⟩
  by_cases h3 : o < 1
  · go_enter Try.func172, Try.ntmps172
    go_wp2
    go_ret
    exact ⟨ret_bool (HF.out (by omega)), (Below.refl _ _).alloc (Nat.le_refl _) _⟩
  by_cases h4 : 30000 < o
  · go_enter Try.func172, Try.ntmps172
    go_wp2
    go_ret
    exact ⟨ret_bool (HF.out (by omega)), (Below.refl _ _).alloc (Nat.le_refl _) _⟩
  cases x with
  | true =>
    by_cases h5 : 1 ≤ r
    · by_cases h6 : r ≤ 1000000
      · go_enter Try.func172, Try.ntmps172
        go_wp2
        go_ret
        exact ⟨ret_bool (HT.out (by refine ⟨by omega, by omega, by omega, by omega, fun _ => ⟨h5, h6⟩, fun e => ?_⟩; simp at e)), (Below.refl _ _).alloc (Nat.le_refl _) _⟩
      · go_enter Try.func172, Try.ntmps172
        go_wp2
        go_ret
        exact ⟨ret_bool (HF.out (fun h => by have h9 := h.2.2.2.2.1 (by simp); omega)), (Below.refl _ _).alloc (Nat.le_refl _) _⟩
    · go_enter Try.func172, Try.ntmps172
      go_wp2
      go_ret
      exact ⟨ret_bool (HF.out (fun h => by have h9 := h.2.2.2.2.1 (by simp); omega)), (Below.refl _ _).alloc (Nat.le_refl _) _⟩
  | false =>
    by_cases h5 : r = 0
    · subst h5
      cases s with
      | true =>
        go_enter Try.func172, Try.ntmps172
        go_wp2
        go_ret
        exact ⟨ret_bool (HF.out (fun h => by have h9 := h.2.2.2.2.2 (by simp); simp at h9)), (Below.refl _ _).alloc (Nat.le_refl _) _⟩
      | false =>
        go_enter Try.func172, Try.ntmps172
        go_wp2
        go_ret
        exact ⟨ret_bool (HT.out (by refine ⟨by omega, by omega, by omega, by omega, fun e => ?_, ?_⟩; (simp at e); simp)), (Below.refl _ _).alloc (Nat.le_refl _) _⟩
    · have hq : (r == 0) = false := by simpa using h5
      go_enter Try.func172, Try.ntmps172
      go_wp2
      go_ret
      exact ⟨ret_bool (HF.out (fun h => by have h9 := h.2.2.2.2.2 (by simp); exact h5 h9.1)), (Below.refl _ _).alloc (Nat.le_refl _) _⟩
set_option maxRecDepth 100000 in
set_option maxHeartbeats 2000000 in
theorem is_box (id : Int) (A : Option Addr) (ca : Nat) (l : List Th) (w : World) (hA : InK 6 thC w A l) (hn : l.length ≤ 1048576) :
    Calls Try.prog 173 #[.slice A l.length ca, .int .i64 id] w fun e w' => e = .returned (.bool (boxB l id)) ∧ Below w.heap.size w w' := by
  have HA := Lib.hid hA; clear hA
  have HF := Lib.hid (fun W h => find_impl id A ca l W h hn)
  rcases fnd_cases l id with ⟨e, _⟩ | ⟨k, hk, e, _, _⟩
  · have HV := Lib.hid (boxB_miss (l := l) (id := id) (by omega))
    rw [e] at HF
    clear e
    go_enter Try.func173, Try.ntmps173
    go_wp2_with fail
    refine (HF.out _ HA.out).mono ?_; rintro e w1 ⟨rfl, hb1⟩
    go_wp2
    go_ret
    exact ⟨ret_bool HV.out.symm, hb1⟩
  · have HV := Lib.hid (boxB_hit hk e)
    rw [e] at HF
    have hki : (k : Int) < (l.length : Int) := by omega
    clear e
    go_enter Try.func173, Try.ntmps173
    go_wp2_with fail
    refine (HF.out _ HA.out).mono ?_; rintro e w1 ⟨rfl, hb1⟩
    obtain ⟨g, rfl, hg, c0, c1, c2, c3, c4, c5⟩ := (HA.out.below hb1).th k hk
    obtain ⟨y, hy⟩ : ∃ y, y = l[k].x := ⟨_, rfl⟩
    rw [← hy] at c4 HV
    clear hy
    go_wp2
    go_ret
    exact ⟨ret_bool HV.out.symm, hb1⟩
end Go.Proofs.Ytodphbnbljpegab

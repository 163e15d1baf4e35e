/- Comparing, marking and holding a slice of texts of the call's own, in one form. -/
import Derived.Test.YtbdnbchleoahgabMark
namespace Go.Proofs.Ytbdnbchleoahgab
open Go.RowKit
theorem eq_ownS (u v : Value) (l : List ByteArray) (b c : Nat) (w : World) (hu : OwnStr w b u l) (hv : OwnStr w c v l) (hn : l.length ≤ 1000000) :
    Calls Try.prog 14 #[u, v] w fun e w' => e = .returned (.bool true) ∧ Below w.heap.size w w' := eq_strs u v l b c w hu hv (by omega)
theorem mark_ownS (v : Value) (k0 b : Nat) (l : List ByteArray) (w : World) (hv : OwnStr w b v l) (hn : l.length ≤ 1000000) (h0 : 0 < k0) (hk : k0 ≤ 1000000) :
    Calls Try.prog 16 #[v, .int .i64 k0] w fun e w' => e = .returned (.int .i64 ((k0 + l.length : Nat) : Int)) ∧ OwnStr w' b v (mks k0 l.length) ∧ w.grownBy w' v.ownBlock := by
  by_cases hl : l = []
  · subst hl
    obtain ⟨A, cap, rfl⟩ := own_empty hv
    refine (mark_none A cap k0 w).mono fun e w' ⟨he, hw⟩ => ?_
    subst hw
    exact ⟨he, hv, World.grownBy.refl _ _⟩
  · obtain ⟨g, cap, rfl, _, _⟩ := own_slice hv hl
    exact (mark_strs g cap k0 b l w hv (by omega) h0 hk).mono fun e w' ⟨he, h1, h2⟩ => ⟨he, h1, h2⟩
theorem held_ownS (v : Value) (k0 b n : Nat) (w : World) (hv : OwnStr w b v (mks k0 n)) (hn : n ≤ 1000000) (h0 : 0 < k0) (hk : k0 ≤ 1000000) :
    Calls Try.prog 17 #[v, .int .i64 k0] w fun e w' => e = .returned (.int .i64 ((k0 + n : Nat) : Int)) ∧ Below w.heap.size w w' := by
  by_cases hl : n = 0
  · subst hl
    have h : mks k0 0 = [] := rfl
    rw [h] at hv
    obtain ⟨A, cap, rfl⟩ := own_empty hv
    refine (held_none A cap k0 w).mono fun e w' ⟨he, hw⟩ => ?_
    subst hw
    exact ⟨he, Below.refl _ _⟩
  · have hlen : (mks k0 n).length = n := by simp [mks]
    obtain ⟨g, cap, rfl, _, _⟩ := own_slice hv (fun e => hl (by rw [← hlen, e]; rfl))
    rw [hlen] at hv ⊢
    exact held_strs g cap k0 b n w hv (by omega) h0 hk
end Go.Proofs.Ytbdnbchleoahgab

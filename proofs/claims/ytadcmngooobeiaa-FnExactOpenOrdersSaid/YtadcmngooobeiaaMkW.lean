/- Comparing, marking and holding a slice of the call's own, in one form for ints and texts. -/
import Derived.Test.YtadcmngooobeiaaMarkI
namespace Go.Proofs.Ytadcmngooobeiaa
open Go.RowKit
theorem eq_ownI (u v : Value) (l : List Int) (b c : Nat) (w : World) (hu : OwnI w b u l) (hv : OwnI w c v l) (hn : l.length ≤ 1048576) :
    Calls Try.prog 39 #[u, v] w fun e w' => e = .returned (.bool true) ∧ Below w.heap.size w w' := by
  obtain ⟨A, ca, rfl⟩ := hu.opens
  obtain ⟨B, cb, rfl⟩ := hv.opens
  exact eq_ints A B ca cb l w hu.ins.2 hv.ins.2 (by omega)
theorem mark_ownI (v : Value) (k0 b : Nat) (l : List Int) (w : World) (hv : OwnI w b v l) (hn : l.length ≤ 1048576) (_h0 : 0 < k0) (hk : k0 ≤ 1000000000) :
    Calls Try.prog 44 #[v, .int .i64 k0] w fun e w' => e = .returned (.int .i64 ((k0 + l.length : Nat) : Int)) ∧ OwnI w' b v (mki k0 l.length) ∧ w.grownBy w' v.ownBlock := mark_ints v k0 b l w hv (by omega) (by omega)
theorem held_ownI (v : Value) (k0 b n : Nat) (w : World) (hv : OwnI w b v (mki k0 n)) (hn : n ≤ 1048576) (_h0 : 0 < k0) (hk : k0 ≤ 1000000000) :
    Calls Try.prog 49 #[v, .int .i64 k0] w fun e w' => e = .returned (.int .i64 ((k0 + n : Nat) : Int)) ∧ Below w.heap.size w w' := held_ints v k0 b n w hv (by omega) (by omega)
end Go.Proofs.Ytadcmngooobeiaa

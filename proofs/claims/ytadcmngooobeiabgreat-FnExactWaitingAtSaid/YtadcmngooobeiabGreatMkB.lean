/- What marks a bool, and a cell set behind what is set already. -/
import Derived.Test.YtadcmngooobeiabGreatBa
namespace Go.Proofs.YtadcmngooobeiabGreat
open Go.RowKit
/-- what marks a bool -/
def m3 (k : Int) : Bool := k % 3 == 0
theorem set_app {P cs : List Value} {p : Nat} (v : Value) (h : P.length = p) (hp : p < cs.length) : (P ++ cs.drop p).set p v = (P ++ [v]) ++ cs.drop (p + 1) := by
  rw [List.drop_eq_getElem_cons hp, List.set_append_right _ _ (by omega), show p - P.length = 0 by omega, List.set_cons_zero, List.append_assoc]
  rfl
end Go.Proofs.YtadcmngooobeiabGreat

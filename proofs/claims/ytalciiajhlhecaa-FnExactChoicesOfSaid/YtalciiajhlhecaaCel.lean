/- Rows of running numbers. -/
import Derived.Test.YtalciiajhlhecaaBa
namespace Go.Proofs.Ytalciiajhlhecaa
open Go.RowKit
def cel (k n : Nat) : List Value := (List.range n).map fun i => .int .i64 ((k + i : Nat) : Int)
theorem cel_len (k n : Nat) : (cel k n).length = n := by simp [cel]
theorem cel_succ (k n : Nat) : cel k (n + 1) = cel k n ++ [.int .i64 ((k + n : Nat) : Int)] := by simp [cel, List.range_succ]
theorem cel_set (k j : Nat) (cs : List Value) (hj : j < cs.length) : cel k (j + 1) ++ cs.drop (j + 1) = (cel k j ++ cs.drop j).set j (.int .i64 ((k + j : Nat) : Int)) := by
  have e : cs.drop j = cs[j] :: cs.drop (j + 1) := List.drop_eq_getElem_cons hj
  have hl : (cel k j).length = j := cel_len k j
  rw [e, List.set_append_right _ _ (by omega), hl, Nat.sub_self, List.set_cons_zero, cel_succ, List.append_assoc]
  rfl
end Go.Proofs.Ytalciiajhlhecaa

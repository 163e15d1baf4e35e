/- Two cells in a block of the call's own. -/
import Derived.Test.YtinijleelhbpoaaOnly
import Derived.Test.YtinijleelhbpoaaOwnK
import Derived.Test.YtinijleelhbpoaaStrs
namespace Go.Proofs.Ytinijleelhbpoaa
open Go.RowKit
/-- two cells in a block of the call's own -/
def Box2 (T : TypeId) (W : World) (B : Nat) (v0 v1 : Value) : Prop := W.heap[B]? = some (.cells #[v0, v1] T (0, 0))
section
variable {T : TypeId} {W W' : World} {B : Nat} {v0 v1 : Value}
theorem Box2.lt (h : Box2 T W B v0 v1) : B < W.heap.size := (Array.getElem?_eq_some_iff.1 h).1
theorem Box2.below (h : Box2 T W B v0 v1) (hb : Below W.heap.size W W') : Box2 T W' B v0 v1 := (hb.block B h.lt).trans h
theorem Box2.cells (h : Box2 T W B v0 v1) : W.cell? ⟨B, 0, none⟩ = some v0 ∧ W.cell? ⟨B, 1, none⟩ = some v1 := by
  refine ⟨?_, ?_⟩ <;> (rw [cell_of_row W B _ _ _ _ h]; rfl)
theorem Box2.free (h : Box2 T W B v0 v1) : W.frozen? ⟨B, 0, none⟩ = false ∧ W.frozen? ⟨B, 1, none⟩ = false :=
  ⟨frozen_of_row W B 0 _ _ h, frozen_of_row W B 1 _ _ h⟩
theorem Box2.apart {r : Option Nat} (h : Box2 T W B v0 v1) (hg : W.grownBy W' r) (hn : some B ≠ r) : Box2 T W' B v0 v1 := (hg.block B h.lt hn).trans h
theorem Box2.new (w : World) : Box2 T (w.alloc (.cells #[v0, v1] T)) w.heap.size v0 v1 := heap_alloc_new w _
theorem Box2.other (h : Box2 T W B v0 v1) {C o : Nat} {x : Value} (hn : B ≠ C) : Box2 T (W.setCell ⟨C, o, none⟩ x) B v0 v1 := (Below.heap_setCell W ⟨C, o, none⟩ x B hn).trans h
end
end Go.Proofs.Ytinijleelhbpoaa

/- A box of a scan: six cells in a block of their own. -/
import Derived.Test.YtamlbiagjipedaaScans
import Derived.Test.YtamlbiagjipedaaBox2
namespace Go.Proofs.Ytamlbiagjipedaa
open Go.RowKit
section
variable {T : TypeId} {W W' : World} {B : Nat} {v0 v1 v2 v3 v4 v5 : Value}
def BoxS (T : TypeId) (W : World) (B : Nat) (v0 v1 v2 v3 v4 v5 : Value) : Prop := W.heap[B]? = some (.cells #[v0, v1, v2, v3, v4, v5] T (0, 0))
theorem BoxS.lt (h : BoxS T W B v0 v1 v2 v3 v4 v5) : B < W.heap.size := (Array.getElem?_eq_some_iff.1 h).1
theorem BoxS.below (h : BoxS T W B v0 v1 v2 v3 v4 v5) (hb : Below W.heap.size W W') : BoxS T W' B v0 v1 v2 v3 v4 v5 := (hb.block B h.lt).trans h
theorem BoxS.cells (h : BoxS T W B v0 v1 v2 v3 v4 v5) : W.cell? ⟨B, 0, none⟩ = some v0 ∧ W.cell? ⟨B, 1, none⟩ = some v1 ∧ W.cell? ⟨B, 2, none⟩ = some v2 ∧ W.cell? ⟨B, 3, none⟩ = some v3 ∧ W.cell? ⟨B, 4, none⟩ = some v4 ∧ W.cell? ⟨B, 5, none⟩ = some v5 := row6 h
theorem BoxS.free (h : BoxS T W B v0 v1 v2 v3 v4 v5) (n : Nat) : W.frozen? ⟨B, n, none⟩ = false := fro6 h n
theorem BoxS.apart {r : Option Nat} (h : BoxS T W B v0 v1 v2 v3 v4 v5) (hg : W.grownBy W' r) (hn : some B ≠ r) : BoxS T W' B v0 v1 v2 v3 v4 v5 := (hg.block B h.lt hn).trans h
theorem BoxS.new (w : World) : BoxS T (w.alloc (.cells #[v0, v1, v2, v3, v4, v5] T)) w.heap.size v0 v1 v2 v3 v4 v5 := heap_alloc_new w _
end
/-- a call behind an alloc -/
theorem al_below {W w' : World} {C : Obj} (h : Below (W.alloc C).heap.size (W.alloc C) w') : Below W.heap.size W w' := ((Below.refl _ _).alloc (Nat.le_refl _) C).trans (h.mono (by simp))
theorem al_box {T : TypeId} {W w' : World} {v0 v1 : Value} (h : Below (W.alloc (.cells #[v0, v1] T)).heap.size (W.alloc (.cells #[v0, v1] T)) w') : Box2 T w' W.heap.size v0 v1 := (Box2.new W).below h
theorem box_put {T : TypeId} {W : World} {B : Nat} {u0 u1 v0 v1 : Value} (h : Box2 T W B u0 u1) : Box2 T ((W.setCell ⟨B, 0, none⟩ v0).setCell ⟨B, 1, none⟩ v1) B v0 v1 := by
  have h1 := heap_set h 0 v0
  have h2 := heap_set h1 1 v1
  exact h2
end Go.Proofs.Ytamlbiagjipedaa

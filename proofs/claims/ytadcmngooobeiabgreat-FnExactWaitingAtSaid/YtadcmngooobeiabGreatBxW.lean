/- Boxes of any cells, and some facts about rows of a call's own. -/
import Derived.Test.YtadcmngooobeiabGreatBa
import Derived.Deep.RegionHeld3
namespace Go.Proofs.YtadcmngooobeiabGreat
open Go.RowKit
/-- cells in a block of the call's own -/
def Bx (T : TypeId) (W : World) (B : Nat) (vs : List Value) : Prop := W.heap[B]? = some (.cells ⟨vs⟩ T (0, 0))
section
variable {T : TypeId} {W W' : World} {B : Nat} {vs : List Value}
theorem Bx.lt (h : Bx T W B vs) : B < W.heap.size := (Array.getElem?_eq_some_iff.1 h).1
theorem Bx.below (h : Bx T W B vs) (hb : Below W.heap.size W W') : Bx T W' B vs := (hb.block B h.lt).trans h
theorem Bx.apart {r : Option Nat} (h : Bx T W B vs) (hg : W.grownBy W' r) (hn : some B ≠ r) : Bx T W' B vs := (hg.block B h.lt hn).trans h
theorem Bx.cell (h : Bx T W B vs) (i : Nat) (v : Value) (e : vs[i]? = some v) : W.cell? ⟨B, i, none⟩ = some v := by
  rw [cell_of_row W B _ _ _ _ h]; simpa using e
theorem Bx.c10 {a b c d f g h i j k : Value} (H : Bx T W B [a, b, c, d, f, g, h, i, j, k]) : W.cell? ⟨B, 0, none⟩ = some a ∧ W.cell? ⟨B, 1, none⟩ = some b ∧ W.cell? ⟨B, 2, none⟩ = some c ∧ W.cell? ⟨B, 3, none⟩ = some d ∧ W.cell? ⟨B, 4, none⟩ = some f ∧ W.cell? ⟨B, 5, none⟩ = some g ∧ W.cell? ⟨B, 6, none⟩ = some h ∧ W.cell? ⟨B, 7, none⟩ = some i ∧ W.cell? ⟨B, 8, none⟩ = some j ∧ W.cell? ⟨B, 9, none⟩ = some k := ⟨H.cell 0 _ rfl, H.cell 1 _ rfl, H.cell 2 _ rfl, H.cell 3 _ rfl, H.cell 4 _ rfl, H.cell 5 _ rfl, H.cell 6 _ rfl, H.cell 7 _ rfl, H.cell 8 _ rfl, H.cell 9 _ rfl⟩
theorem Bx.c11 {a b c d f g h i j k l : Value} (H : Bx T W B [a, b, c, d, f, g, h, i, j, k, l]) : W.cell? ⟨B, 0, none⟩ = some a ∧ W.cell? ⟨B, 1, none⟩ = some b ∧ W.cell? ⟨B, 2, none⟩ = some c ∧ W.cell? ⟨B, 3, none⟩ = some d ∧ W.cell? ⟨B, 4, none⟩ = some f ∧ W.cell? ⟨B, 5, none⟩ = some g ∧ W.cell? ⟨B, 6, none⟩ = some h ∧ W.cell? ⟨B, 7, none⟩ = some i ∧ W.cell? ⟨B, 8, none⟩ = some j ∧ W.cell? ⟨B, 9, none⟩ = some k ∧ W.cell? ⟨B, 10, none⟩ = some l := ⟨H.cell 0 _ rfl, H.cell 1 _ rfl, H.cell 2 _ rfl, H.cell 3 _ rfl, H.cell 4 _ rfl, H.cell 5 _ rfl, H.cell 6 _ rfl, H.cell 7 _ rfl, H.cell 8 _ rfl, H.cell 9 _ rfl, H.cell 10 _ rfl⟩
theorem Bx.free (h : Bx T W B vs) (o : Nat) : W.frozen? ⟨B, o, none⟩ = false := frozen_of_row W B o _ _ h
theorem Bx.new (w : World) (vs : List Value) : Bx T (w.alloc (.cells ⟨vs⟩ T)) w.heap.size vs := heap_alloc_new w _
theorem Bx.alloc (h : Bx T W B vs) (o : Obj) : Bx T (W.alloc o) B vs := h.below ((Below.refl _ _).alloc (Nat.le_refl _) o)
theorem Bx.other (h : Bx T W B vs) {C o : Nat} {x : Value} (hn : B ≠ C) : Bx T (W.setCell ⟨C, o, none⟩ x) B vs := (Below.heap_setCell W ⟨C, o, none⟩ x B hn).trans h
theorem Bx.set (h : Bx T W B vs) (i : Nat) (x : Value) : Bx T (W.setCell ⟨B, i, none⟩ x) B (vs.set i x) := by
  have := heap_set h i x
  unfold Bx
  rw [this]
  congr 2; simp
end
theorem RawK.of_in {α : Type} {enc : α → List Value} {k : Nat} {w : World} {A : Option Addr} {l : List α} (h : InK k enc w A l) : RawK k enc w A l := by
  intro j hj
  obtain ⟨g, h1, h2, h3⟩ := h j hj
  exact ⟨g, 0, h1, h2, fun i hi => by rw [Nat.zero_add]; exact h3 i hi⟩
theorem OwnK.st {α : Type} {enc : α → List Value} {n : Nat} {T : TypeId} {w : World} {base g k : Nat} {v x : Value} {l : List α} (h : OwnK T n enc w base v l) (hn : v.ownBlock ≠ some g) : OwnK T n enc (w.setCell ⟨g, k, none⟩ x) base v l :=
  World.ownsRow.kept h (row := some g) (only_set w g k x) (.inr hn)
theorem OwnI.st {w : World} {base g k : Nat} {v x : Value} {l : List Int} (h : OwnI w base v l) (hn : v.ownBlock ≠ some g) : OwnI (w.setCell ⟨g, k, none⟩ x) base v l :=
  World.ownsRow.kept h (row := some g) (only_set w g k x) (.inr hn)
theorem Made.swap {α : Type} {enc : α → List Value} {k g j : Nat} {T : TypeId} {w : World} {l l' : List α} (h : Made T k enc w g l j) (hl : l.length = l'.length) (ht : l.take j = l'.take j) : Made T k enc w g l' j := by
  obtain ⟨cs, h1, h2, h3⟩ := h
  exact ⟨cs, h1, by rw [← hl]; exact h2, by rw [← ht]; exact h3⟩
theorem own_blk_ne {a : Addr} {n k g : Nat} (h : a.block ≠ g) : (Value.slice (some a) n k).ownBlock ≠ some g := fun e => h (Option.some.inj e)
end Go.Proofs.YtadcmngooobeiabGreat

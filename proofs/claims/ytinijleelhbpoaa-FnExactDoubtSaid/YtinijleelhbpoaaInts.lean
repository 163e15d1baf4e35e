/- Slices of ints: what the exact laws make, compare and mark. -/
import Derived.Test.YtinijleelhbpoaaSortM
import Derived.Test.YtinijleelhbpoaaOnly
import Derived.Laws.MakeOwn
namespace Go.Proofs.Ytinijleelhbpoaa
open Go.RowKit
theorem int_info : (Try.prog.info? 3).map (fun i => (i.zero, i.size, i.bytes)) = some (some (.int .i64 0), 1, 8) := by kernel_rfl
def intV (l : List Int) : List Value := l.map (Value.int .i64)
theorem intV_app (a b : List Int) : intV (a ++ b) = intV a ++ intV b := by simp [intV]
theorem intV_len (a : List Int) : (intV a).length = a.length := by simp [intV]
/-- ints that can be read -/
def IntsRaw (w : World) (A : Option Addr) (zs : List Int) : Prop :=
  ∀ j (hj : j < zs.length), ∃ ad, A = some ad ∧ ad.block < w.heap.size ∧ w.cell? (ad.add j) = some (.int .i64 zs[j])
theorem IntsRaw.below {w w' : World} {A : Option Addr} {zs : List Int} (h : IntsRaw w A zs) (hb : Below w.heap.size w w') : IntsRaw w' A zs := by
  intro j hj
  obtain ⟨ad, h1, h2, h3⟩ := h j hj
  refine ⟨ad, h1, Nat.lt_of_lt_of_le h2 hb.size, ?_⟩
  rw [← h3]
  exact hb.cell (by rw [addr_block]; exact h2)
/-- ints that can be read, from the head of a block on -/
def IntsIn (w : World) (A : Option Addr) (zs : List Int) : Prop :=
  ∀ j (hj : j < zs.length), ∃ g, A = some ⟨g, 0, none⟩ ∧ g < w.heap.size ∧ w.cell? ⟨g, j, none⟩ = some (.int .i64 zs[j])
theorem IntsIn.below {w w' : World} {A : Option Addr} {zs : List Int} (h : IntsIn w A zs) (hb : Below w.heap.size w w') : IntsIn w' A zs := by
  intro j hj
  obtain ⟨g, h1, h2, h3⟩ := h j hj
  refine ⟨g, h1, Nat.lt_of_lt_of_le h2 hb.size, ?_⟩
  rw [← h3]
  exact hb.cell h2
theorem IntsIn.drew {w : World} {A : Option Addr} {zs : List Int} (h : IntsIn w A zs) (n : Nat) : IntsIn (w.drewN n) A zs :=
  h.below (below_drewN (Below.refl _ _) n)
/-- a slice of the call's own that holds these ints -/
def OwnI (w : World) (base : Nat) (v : Value) (l : List Int) : Prop := w.ownsRow base 3 1 v l.length (intV l)
theorem OwnI.below {w w' : World} {base : Nat} {v : Value} {l : List Int} (h : OwnI w base v l) (hb : Below w.heap.size w w') : OwnI w' base v l :=
  World.ownsRow.kept h (row := none) ⟨hb.os, hb.tape, hb.output, hb.size, fun i hi _ => hb.block i hi⟩ (by cases v.ownBlock <;> simp)
theorem OwnI.mono {w : World} {base b : Nat} {v : Value} {l : List Int} (h : OwnI w base v l) (hb : b ≤ base) : OwnI w b v l := by
  refine ⟨h.1, ?_⟩
  rcases h.2 with h | ⟨g, cap, cur, h1, h2, h3⟩
  · exact .inl h
  · exact .inr ⟨g, cap, cur, h1, Nat.le_trans hb h2, h3⟩
theorem add_own (g j : Nat) : (⟨g, 0, none⟩ : Addr).add j = ⟨g, j, none⟩ := by
  unfold Addr.add; split
  · subst_vars; rfl
  · simp
theorem OwnI.cell {w : World} {base g cap : Nat} {l : List Int} (h : OwnI w base (.slice (some ⟨g, 0, none⟩) l.length cap) l) (j : Nat) (hj : j < l.length) : w.cell? ⟨g, j, none⟩ = some (.int .i64 l[j]) := by
  rw [World.ownsRow.cellAt (w := w) (base := base) (e := 3) (size := 1) h j (by omega)]
  simp [intV, hj]
theorem OwnI.ins {w : World} {base n cap : Nat} {A : Option Addr} {l : List Int} (h : OwnI w base (.slice A n cap) l) : n = l.length ∧ IntsIn w A l := by
  rcases h.2 with ⟨e, hn⟩ | ⟨g, c, cur, e, h1, h2, _⟩
  · simp only [Value.slice.injEq] at e
    obtain ⟨rfl, rfl, rfl⟩ := e
    refine ⟨by omega, fun j hj => by omega⟩
  · simp only [Value.slice.injEq] at e
    obtain ⟨rfl, rfl, rfl⟩ := e
    refine ⟨rfl, fun j hj => ⟨_, rfl, (Array.getElem?_eq_some_iff.1 h2).1, ?_⟩⟩
    exact h.cell j hj
theorem OwnI.opens {w : World} {base : Nat} {v : Value} {l : List Int} (h : OwnI w base v l) : ∃ (A : Option Addr) (cap : Nat), v = .slice A l.length cap := by
  rcases h.2 with ⟨e, hn⟩ | ⟨g, c, cur, e, h1, h2, _⟩
  · exact ⟨none, 0, by rw [e, hn]⟩
  · exact ⟨_, _, e⟩
theorem OwnI.row {w : World} {base : Nat} {v : Value} {l : List Int} (h : OwnI w base v l) (hl : l ≠ []) : ∃ g cap, v = .slice (some ⟨g, 0, none⟩) l.length cap ∧ base ≤ g ∧ g < w.heap.size := by
  have hne : 0 < l.length := List.length_pos_iff.2 hl
  rcases h.2 with ⟨_, h⟩ | ⟨g, cap, _, h1, h2, h3, _⟩
  · omega
  · exact ⟨g, cap, h1, h2, (Array.getElem?_eq_some_iff.1 h3).1⟩
theorem made_one (z : Value) (n : Nat) : madeCells #[z] n = (List.replicate n z).toArray := by
  rw [← toList_madeCells_one, Array.toArray_toList]
theorem ints_made (w : World) {g : Nat} (zs : List Int) (k : Nat) (h : w.heap[g]? = some (.cells (intV (zs.take k) ++ List.replicate (zs.length - k) (Value.int .i64 0)).toArray 3 (0, 0))) (hn : k < zs.length) :
    (w.setCell ⟨g, k, none⟩ (Value.int .i64 zs[k])).heap[g]? = some (.cells (intV (zs.take (k + 1)) ++ List.replicate (zs.length - (k + 1)) (Value.int .i64 0)).toArray 3 (0, 0)) := by
  rw [heap_set h]
  congr 2
  have hl : (intV (zs.take k)).length = k := by rw [intV_len, List.length_take]; omega
  rw [List.setIfInBounds_toArray, List.set_append_right _ _ (by omega), hl, Nat.sub_self, show zs.length - k = (zs.length - (k + 1)) + 1 from by omega, List.replicate_succ, List.set_cons_zero, List.take_succ_eq_append_getElem hn, intV_app, List.append_assoc]
  rfl
end Go.Proofs.Ytinijleelhbpoaa

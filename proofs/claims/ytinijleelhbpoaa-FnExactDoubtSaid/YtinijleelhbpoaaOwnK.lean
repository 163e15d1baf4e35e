/- Slices whose elements take several cells: what the call owns, cell by cell. -/
import Derived.Test.YtinijleelhbpoaaOnly
import Derived.Laws.MakeOwn
import Derived.WalkKit
import Derived.Lib.SliceRun
import Derived.Laws.Rows
namespace Go.Proofs.Ytinijleelhbpoaa
open Go.RowKit
section
variable {α : Type} {enc : α → List Value} {k : Nat}
theorem flat_len (hk : ∀ a, (enc a).length = k) (l : List α) : (l.flatMap enc).length = l.length * k := by
  induction l with
  | nil => simp
  | cons a l ih => rw [List.flatMap_cons, List.length_append, hk, ih, List.length_cons, Nat.succ_mul]; omega
theorem flat_get (hk : ∀ a, (enc a).length = k) (l : List α) (j : Nat) (hj : j < l.length) (i : Nat) (hi : i < k) : (l.flatMap enc)[j * k + i]? = (enc l[j])[i]? := by
  induction l generalizing j with
  | nil => simp at hj
  | cons a l ih =>
    rw [List.flatMap_cons]
    cases j with
    | zero => rw [Nat.zero_mul, Nat.zero_add, List.getElem?_append_left (by rw [hk]; exact hi)]; rfl
    | succ j =>
      rw [List.getElem?_append_right (by rw [hk, Nat.succ_mul]; omega), hk, show (j + 1) * k + i - k = j * k + i from by rw [Nat.succ_mul]; omega]
      exact ih j (by simpa using hj)
theorem flat_take (l : List α) (j : Nat) (hj : j < l.length) : (l.take (j + 1)).flatMap enc = (l.take j).flatMap enc ++ enc l[j] := by
  rw [List.take_succ_eq_append_getElem hj, List.flatMap_append]; simp
/-- a slice of the call's own that holds these elements -/
def OwnK (T : TypeId) (k : Nat) (enc : α → List Value) (w : World) (base : Nat) (v : Value) (l : List α) : Prop := w.ownsRow base T k v l.length (l.flatMap enc)
variable {T : TypeId} {w w' : World} {base : Nat} {v : Value} {l : List α}
theorem OwnK.below (h : OwnK T k enc w base v l) (hb : Below w.heap.size w w') : OwnK T k enc w' base v l :=
  World.ownsRow.kept h (row := none) ⟨hb.os, hb.tape, hb.output, hb.size, fun i hi _ => hb.block i hi⟩ (by cases v.ownBlock <;> simp)
theorem OwnK.mono {b : Nat} (h : OwnK T k enc w base v l) (hb : b ≤ base) : OwnK T k enc w b v l := by
  refine ⟨h.1, ?_⟩
  rcases h.2 with h | ⟨g, cap, cur, h1, h2, h3⟩
  · exact .inl h
  · exact .inr ⟨g, cap, cur, h1, Nat.le_trans hb h2, h3⟩
theorem OwnK.cell {g cap : Nat} (hk : ∀ a, (enc a).length = k) (h : OwnK T k enc w base (.slice (some ⟨g, 0, none⟩) l.length cap) l) (j : Nat) (hj : j < l.length) (i : Nat) (hi : i < k) : w.cell? ⟨g, j * k + i, none⟩ = (enc l[j])[i]? := by
  have hlt : j * k + i < l.length * k := by
    have : (j + 1) * k ≤ l.length * k := Nat.mul_le_mul_right k hj
    rw [Nat.succ_mul] at this; omega
  rw [World.ownsRow.cellAt (w := w) (base := base) (e := T) (size := k) h (j * k + i) hlt]
  exact flat_get hk l j hj i hi
theorem OwnK.opens (h : OwnK T k enc w base v l) : ∃ (A : Option Addr) (cap : Nat), v = .slice A l.length cap := by
  rcases h.2 with ⟨e, hn⟩ | ⟨g, c, cur, e, h1, h2, _⟩
  · exact ⟨none, 0, by rw [e, hn]⟩
  · exact ⟨_, _, e⟩
theorem OwnK.row (h : OwnK T k enc w base v l) (hl : l ≠ []) : ∃ g cap, v = .slice (some ⟨g, 0, none⟩) l.length cap ∧ base ≤ g ∧ g < w.heap.size := by
  have hne : 0 < l.length := List.length_pos_iff.2 hl
  rcases h.2 with ⟨_, h⟩ | ⟨g, cap, _, h1, h2, h3, _⟩
  · omega
  · exact ⟨g, cap, h1, h2, (Array.getElem?_eq_some_iff.1 h3).1⟩
/-- elements that can be read, from the head of a block on -/
def InK (k : Nat) (enc : α → List Value) (w : World) (A : Option Addr) (l : List α) : Prop :=
  ∀ j (hj : j < l.length), ∃ g, A = some ⟨g, 0, none⟩ ∧ g < w.heap.size ∧ ∀ i, i < k → w.cell? ⟨g, j * k + i, none⟩ = (enc l[j])[i]?
theorem InK.below {A : Option Addr} (h : InK k enc w A l) (hb : Below w.heap.size w w') : InK k enc w' A l := by
  intro j hj
  obtain ⟨g, h1, h2, h3⟩ := h j hj
  exact ⟨g, h1, Nat.lt_of_lt_of_le h2 hb.size, fun i hi => by rw [hb.cell h2]; exact h3 i hi⟩
theorem OwnK.ins {n cap : Nat} {A : Option Addr} (hk : ∀ a, (enc a).length = k) (h : OwnK T k enc w base (.slice A n cap) l) : n = l.length ∧ InK k enc w A l := by
  rcases h.2 with ⟨e, hn⟩ | ⟨g, c, cur, e, h1, h2, _⟩
  · simp only [Value.slice.injEq] at e
    obtain ⟨rfl, rfl, rfl⟩ := e
    exact ⟨by omega, fun j hj => by omega⟩
  · simp only [Value.slice.injEq] at e
    obtain ⟨rfl, rfl, rfl⟩ := e
    exact ⟨rfl, fun j hj => ⟨_, rfl, (Array.getElem?_eq_some_iff.1 h2).1, fun i hi => OwnK.cell hk h j hj i hi⟩⟩
/-- elements that can be read, wherever they lie -/
def RawK (k : Nat) (enc : α → List Value) (w : World) (A : Option Addr) (l : List α) : Prop :=
  ∀ j (hj : j < l.length), ∃ b o, A = some ⟨b, o, none⟩ ∧ b < w.heap.size ∧ ∀ i, i < k → w.cell? ⟨b, o + j * k + i, none⟩ = (enc l[j])[i]?
theorem RawK.below {A : Option Addr} (h : RawK k enc w A l) (hb : Below w.heap.size w w') : RawK k enc w' A l := by
  intro j hj
  obtain ⟨b, o, h1, h2, h3⟩ := h j hj
  exact ⟨b, o, h1, Nat.lt_of_lt_of_le h2 hb.size, fun i hi => by rw [hb.cell h2]; exact h3 i hi⟩
theorem lit_of_cell {a : Addr} {v : Value} (h : w.cell? (a.add 0) = some v) : a = ⟨a.block, a.off, none⟩ := by
  obtain ⟨b, o, inner⟩ := a
  cases inner with
  | none => rfl
  | some p =>
    exfalso
    unfold Addr.add at h
    simp only [if_true] at h
    simp only [World.cell?] at h
    split at h <;> simp at h
/-- out of what a row opens -/
theorem RawK.of {a : Addr} (h0 : 0 < k) (hk : ∀ x, (enc x).length = k) (h : ∀ j (hj : j < l.length), ∀ i, i < k → w.cell? (a.add (j * k + i)) = (enc l[j])[i]?) : RawK k enc w (some a) l := by
  intro j hj
  have hc := h 0 (by omega) 0 h0
  rw [Nat.zero_mul, Nat.zero_add] at hc
  rw [List.getElem?_eq_getElem (by rw [hk]; exact h0)] at hc
  have ha := lit_of_cell hc
  have hb := World.block_lt_of_cell? w _ hc
  rw [addr_block] at hb
  refine ⟨a.block, a.off, by rw [← ha], hb, fun i hi => ?_⟩
  have h2 := h j hj i hi
  rw [ha, Addr.add_lit] at h2
  rw [Nat.add_assoc]
  exact h2
/-- what is made in a block of the call's own, element by element -/
def Made (T : TypeId) (k : Nat) (enc : α → List Value) (w : World) (g : Nat) (l : List α) (j : Nat) : Prop :=
  ∃ cs : List Value, w.heap[g]? = some (.cells cs.toArray T (0, 0)) ∧ cs.length = l.length * k ∧ cs.take (j * k) = (l.take j).flatMap enc
theorem Made.below {g j : Nat} (h : Made T k enc w g l j) (hg : g < w.heap.size) (hb : Below w.heap.size w w') : Made T k enc w' g l j := by
  obtain ⟨cs, h1, h2⟩ := h
  exact ⟨cs, by rw [hb.block g hg]; exact h1, h2⟩
theorem Made.at {g j : Nat} (h : Made T k enc w g l j) (hj : j < l.length) (i : Nat) (hi : i < k) : ∃ v, w.cell? ⟨g, j * k + i, none⟩ = some v := by
  obtain ⟨cs, h1, h2, _⟩ := h
  have hlt : j * k + i < cs.length := by
    have : (j + 1) * k ≤ l.length * k := Nat.mul_le_mul_right k hj
    rw [Nat.succ_mul] at this; omega
  exact ⟨_, by rw [cell_of_row w g _ _ _ _ h1, List.getElem?_toArray]; exact List.getElem?_eq_getElem hlt⟩
theorem Made.free {g j : Nat} (h : Made T k enc w g l j) (o : Nat) : w.frozen? ⟨g, o, none⟩ = false := by
  obtain ⟨cs, h1, _⟩ := h
  exact frozen_of_row w g o _ _ h1
theorem Made.owns {g : Nat} (h : Made T k enc w g l l.length) (hm : l.length ≤ maxLen) : OwnK T k enc w g (.slice (some ⟨g, 0, none⟩) l.length l.length) l := by
  obtain ⟨cs, h1, h2, h3⟩ := h
  rw [List.take_length] at h3
  have hl : (l.flatMap enc).length = l.length * k := by rw [← h3, List.length_take]; omega
  exact ⟨hl, .inr ⟨g, l.length, cs.toArray, rfl, Nat.le_refl _, h1, Nat.le_refl _, hm, by simp [h2], by simpa using h3⟩⟩
end
/-- cells written one behind the other -/
def setRow (w : World) (g : Nat) : Nat → List Value → World
  | _, [] => w
  | o, v :: vs => setRow (w.setCell ⟨g, o, none⟩ v) g (o + 1) vs
theorem setRow_heap {T : TypeId} {g : Nat} : ∀ (vs cs : List Value) (o : Nat) (w : World), w.heap[g]? = some (.cells cs.toArray T (0, 0)) → o + vs.length ≤ cs.length →
    (setRow w g o vs).heap[g]? = some (.cells (cs.take o ++ vs ++ cs.drop (o + vs.length)).toArray T (0, 0))
  | [], cs, o, w, h, _ => by simpa [setRow] using h
  | v :: vs, cs, o, w, h, hl => by
    simp only [List.length_cons] at hl
    have h1 : (w.setCell ⟨g, o, none⟩ v).heap[g]? = some (.cells (cs.set o v).toArray T (0, 0)) := by rw [heap_set h o v]; simp
    have h2 := setRow_heap vs (cs.set o v) (o + 1) (w.setCell ⟨g, o, none⟩ v) h1 (by rw [List.length_set]; omega)
    show (setRow (w.setCell ⟨g, o, none⟩ v) g (o + 1) vs).heap[g]? = _
    rw [h2, List.take_succ_eq_append_getElem (by rw [List.length_set]; omega), List.take_set_of_le (Nat.le_refl _), List.getElem_set_self, List.drop_set_of_lt (by omega)]
    congr 2
    simp [Nat.add_comm, Nat.add_left_comm]
theorem Made.step {α : Type} {enc : α → List Value} {k : Nat} {T : TypeId} {w : World} {l : List α} {g j : Nat} (hk : ∀ a, (enc a).length = k) (h : Made T k enc w g l j) (hj : j < l.length) : Made T k enc (setRow w g (j * k) (enc l[j])) g l (j + 1) := by
  obtain ⟨cs, h1, h2, h3⟩ := h
  have hle : (j + 1) * k ≤ l.length * k := Nat.mul_le_mul_right k hj
  rw [Nat.succ_mul] at hle
  have hr := setRow_heap (enc l[j]) cs (j * k) w h1 (by rw [hk, h2]; omega)
  have ht : (cs.take (j * k)).length = j * k := by rw [List.length_take]; omega
  refine ⟨_, hr, by simp only [List.length_append, ht, hk, List.length_drop]; omega, ?_⟩
  rw [flat_take l j hj, ← h3, List.take_left' (by rw [List.length_append, ht, hk, Nat.succ_mul])]
end Go.Proofs.Ytinijleelhbpoaa

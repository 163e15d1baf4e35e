/- Slices of strings of the call's own. -/
import Derived.Test.YtinijleelhbpoaaMath
import Derived.Test.YtinijleelhbpoaaInts
namespace Go.Proofs.Ytinijleelhbpoaa
open Go.RowKit
theorem str_info : (Try.prog.info? 9).map (fun i => (i.zero, i.size, i.bytes)) = some (some (.string ⟨#[]⟩), 1, 16) := by kernel_rfl
def strV (l : List ByteArray) : List Value := l.map Value.string
theorem strV_app (a b : List ByteArray) : strV (a ++ b) = strV a ++ strV b := by simp [strV]
theorem strV_len (a : List ByteArray) : (strV a).length = a.length := by simp [strV]
/-- a slice of the call's own that holds these texts -/
def OwnStr (w : World) (base : Nat) (v : Value) (l : List ByteArray) : Prop := w.ownsRow base 9 1 v l.length (strV l)
theorem one_str (s : ByteArray) : ∀ u ∈ strV [s], u.oneCell' = true := by
  intro u hu
  simp only [strV, List.map_cons, List.map_nil, List.mem_singleton] at hu
  subst hu; rfl
theorem str_news (wr : World) (s : ByteArray) : ∀ j u, (strV [s])[j]? = some u → (wr.alloc (.cells #[.string s] 9)).cell? ((⟨wr.heap.size, 0, none⟩ : Addr).add j) = some u := by
  intro j u hu
  have e : (⟨wr.heap.size, 0, none⟩ : Addr).add j = ⟨wr.heap.size, j, none⟩ := by
    unfold Addr.add; split
    · subst_vars; rfl
    · simp
  rw [e, cell_of_row _ _ _ _ _ _ (heap_alloc_new wr _)]
  simpa [strV] using hu
theorem own_below {w w' : World} {base : Nat} {v : Value} {l : List ByteArray} (h : OwnStr w base v l) (hb : Below w.heap.size w w') : OwnStr w' base v l :=
  World.ownsRow.kept h (row := none) ⟨hb.os, hb.tape, hb.output, hb.size, fun i hi _ => hb.block i hi⟩ (by cases v.ownBlock <;> simp)
theorem own_new (w : World) : OwnStr (w.alloc (.cells #[] 9)) w.heap.size (.slice (some ⟨w.heap.size, 0, none⟩) 0 0) [] :=
  ⟨rfl, .inr ⟨w.heap.size, 0, #[], rfl, Nat.le_refl _, heap_alloc_new w _, Nat.le_refl _, Nat.zero_le _, rfl, rfl⟩⟩
def lists (l : List ByteArray) : List (List UInt8) := l.map fun x => x.data.toList
theorem lists_app (a b : List ByteArray) : lists (a ++ b) = lists a ++ lists b := by simp [lists]
/-- the texts of these bytes -/
def ofL (l : List (List UInt8)) : List ByteArray := l.map fun b => ⟨b.toArray⟩
theorem lists_ofL (l : List (List UInt8)) : lists (ofL l) = l := by
  unfold lists ofL
  rw [List.map_map]
  conv => rhs; rw [← List.map_id l]
  exact List.map_congr_left fun x _ => rfl
theorem ofL_lists (l : List ByteArray) : ofL (lists l) = l := by
  unfold lists ofL
  rw [List.map_map]
  conv => rhs; rw [← List.map_id l]
  exact List.map_congr_left fun x _ => by cases x; rfl
theorem ofL_len (l : List (List UInt8)) : (ofL l).length = l.length := by simp [ofL]
theorem lists_len (l : List ByteArray) : (lists l).length = l.length := by simp [lists]
theorem own_slice {w : World} {b : Nat} {v : Value} {l : List ByteArray} (h : OwnStr w b v l) (hl : l ≠ []) : ∃ g cap, v = .slice (some ⟨g, 0, none⟩) l.length cap ∧ b ≤ g ∧ g < w.heap.size := by
  have hne : 0 < l.length := List.length_pos_iff.2 hl
  rcases h.2 with ⟨_, h⟩ | ⟨g, cap, _, h1, h2, h3, _⟩
  · omega
  · exact ⟨g, cap, h1, h2, (Array.getElem?_eq_some_iff.1 h3).1⟩
theorem own_empty {w : World} {b : Nat} {v : Value} (h : OwnStr w b v []) : ∃ (A : Option Addr) (cap : Nat), v = .slice A 0 cap := by
  rcases h.2 with ⟨h, _⟩ | ⟨g, cap, _, h, _⟩
  · exact ⟨_, _, h⟩
  · exact ⟨_, _, h⟩
end Go.Proofs.Ytinijleelhbpoaa

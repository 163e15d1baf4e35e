/- A slice of structs of the call's own that grows by one, and what is picked out of the first so many. -/
import Derived.Test.YtadcmngooobeiabGreatBc
import Derived.Test.YtadcmngooobeiabGreatBa
namespace Go.Proofs.YtadcmngooobeiabGreat
open Go.RowKit
section
variable {α : Type} {enc : α → List Value} {k : Nat} {T : TypeId} {w : World} {base n : Nat} {v : Value} {l : List α}
theorem OwnK.atN (h : OwnK T k enc w base v l) (hn : l.length = n) : w.ownsRow base T k v n (l.flatMap enc) := by subst hn; exact h
theorem OwnI.atN {w : World} {b n : Nat} {v : Value} {l : List Int} (h : OwnI w b v l) (hn : l.length = n) : w.ownsRow b 3 1 v n (intV l) := by subst hn; exact h
theorem OwnK.push {z : α} (h : w.ownsRow base T k v (n + 1) (l.flatMap enc ++ enc z)) (hn : l.length = n) : OwnK T k enc w base v (l ++ [z]) := by
  subst hn
  unfold OwnK
  rw [List.length_append, List.flatMap_append]
  simpa using h
theorem OwnK.fresh (w : World) (T : TypeId) (k : Nat) (enc : α → List Value) : OwnK T k enc (w.alloc (.cells #[] T)) w.heap.size (.slice (some ⟨w.heap.size, 0, none⟩) 0 0) [] :=
  ⟨by simp, .inr ⟨w.heap.size, 0, #[], rfl, Nat.le_refl _, heap_alloc_new w _, Nat.le_refl _, Nat.zero_le _, by simp, by simp⟩⟩
theorem enc_news (wr : World) (T : TypeId) (cs : List Value) : ∀ j u, cs[j]? = some u → (wr.alloc (.cells cs.toArray T)).cell? ((⟨wr.heap.size, 0, none⟩ : Addr).add j) = some u := by
  intro j u h
  rw [add_own, cell_of_row _ _ _ _ _ _ (heap_alloc_new wr _)]
  simpa using h
theorem enc_news1 (wr : World) (o : Obj) (T : TypeId) (cs : List Value) : ∀ j u, cs[j]? = some u → ((wr.alloc o).alloc (.cells cs.toArray T)).cell? ((⟨wr.heap.size + 1, 0, none⟩ : Addr).add j) = some u := by
  have h := enc_news (wr.alloc o) T cs
  rw [show (wr.alloc o).heap.size = wr.heap.size + 1 by simp] at h
  exact h
theorem filt_yes {p : α → Bool} {j : Nat} (h : j < l.length) (e : p l[j] = true) : (l.take (j + 1)).filter p = (l.take j).filter p ++ [l[j]] := by
  rw [List.take_succ_eq_append_getElem h, List.filter_append]; simp [e]
theorem filt_no {p : α → Bool} {j : Nat} (h : j < l.length) (e : p l[j] = false) : (l.take (j + 1)).filter p = (l.take j).filter p := by
  rw [List.take_succ_eq_append_getElem h, List.filter_append]; simp [e]
end
end Go.Proofs.YtadcmngooobeiabGreat

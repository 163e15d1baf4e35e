/- What the walks of the exact laws move along: rows, boxes, and worlds, where another row is written. -/
import Derived.Test.YtadcmngooobeiaaBa
namespace Go.Proofs.Ytadcmngooobeiaa
open Go.RowKit
theorem row_apart {w w' : World} {b n : Nat} {T : TypeId} {k : Nat} {v u : Value} {cs : List Value} (h : w.ownsRow b T k v n cs) (hg : w.grownBy w' u.ownBlock) (hd : ∀ q, v.ownBlock = some q → u.ownBlock ≠ some q) : w'.ownsRow b T k v n cs :=
  World.ownsRow.kept h hg (by
    cases hv : v.ownBlock with
    | none => exact .inl rfl
    | some q => exact .inr (fun e => hd q hv e.symm))
theorem row_besides {w w' : World} {b n g : Nat} {T : TypeId} {k : Nat} {v : Value} {cs : List Value} (h : w.ownsRow b T k v n cs) (hg : w.grownBy w' (some g)) (hd : ∀ q, v.ownBlock = some q → g ≠ q) : w'.ownsRow b T k v n cs :=
  World.ownsRow.kept h hg (.inr (fun e => hd g e rfl))
section
variable {α : Type} {enc : α → List Value} {k : Nat} {T : TypeId} {w w' : World} {b g : Nat} {v u : Value} {l : List α} {zs : List Int}
theorem OwnK.besides (h : OwnK T k enc w b v l) (hg : w.grownBy w' (some g)) (hd : ∀ q, v.ownBlock = some q → g ≠ q) : OwnK T k enc w' b v l := row_besides h hg hd
theorem OwnK.apart (h : OwnK T k enc w b v l) (hg : w.grownBy w' u.ownBlock) (hd : ∀ q, v.ownBlock = some q → u.ownBlock ≠ some q) : OwnK T k enc w' b v l := row_apart h hg hd
theorem OwnI.besides (h : OwnI w b v zs) (hg : w.grownBy w' (some g)) (hd : ∀ q, v.ownBlock = some q → g ≠ q) : OwnI w' b v zs := row_besides h hg hd
theorem OwnI.apart (h : OwnI w b v zs) (hg : w.grownBy w' u.ownBlock) (hd : ∀ q, v.ownBlock = some q → u.ownBlock ≠ some q) : OwnI w' b v zs := row_apart h hg hd
end
theorem rows_apart {w : World} {b b' n n' k k' : Nat} {T T' : TypeId} {v u : Value} {cs cs' : List Value} (h : w.ownsRow b T k v n cs) (h' : w.ownsRow b' T' k' u n' cs') (hne : T ≠ T') : ∀ q, v.ownBlock = some q → u.ownBlock ≠ some q := by
  intro q hv hu
  rcases h.2 with ⟨e, _⟩ | ⟨g, cap, cur, e, _, hblk, _⟩
  · subst e; cases hv
  · rcases h'.2 with ⟨e', _⟩ | ⟨g', cap', cur', e', _, hblk', _⟩
    · subst e'; cases hu
    · subst e e'
      obtain rfl := Option.some.inj hv
      obtain rfl := Option.some.inj hu
      rw [hblk] at hblk'
      cases hblk'
      exact hne rfl
theorem two (w : World) (C1 C2 : Obj) : ((w.alloc C1).alloc C2).heap[w.heap.size]? = some C1 ∧ ((w.alloc C1).alloc C2).heap[w.heap.size + 1]? = some C2 ∧ Below w.heap.size w ((w.alloc C1).alloc C2) ∧ ((w.alloc C1).alloc C2).heap.size = w.heap.size + 2 := by
  have e1 : (w.alloc C1).heap.size = w.heap.size + 1 := by simp
  refine ⟨?_, ?_, ((Below.refl _ _).alloc (Nat.le_refl _) C1).alloc (by simp) C2, by simp⟩
  · rw [Below.heap_alloc _ _ _ (by simp)]; exact heap_alloc_new w _
  · have := heap_alloc_new (w.alloc C1) C2; rw [e1] at this; exact this
theorem ins_row {α : Type} {enc : α → List Value} {k : Nat} {T : TypeId} {w : World} {b : Nat} {v : Value} {l : List α} (h : OwnK T k enc w b v l) (hk : ∀ a, (enc a).length = k) {A : Option Addr} {c : Nat} (e : v = .slice A l.length c) : InK k enc w A l := by
  subst e; exact (h.ins hk).2
end Go.Proofs.Ytadcmngooobeiaa

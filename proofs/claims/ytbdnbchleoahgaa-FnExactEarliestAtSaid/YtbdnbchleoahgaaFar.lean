/- A region that draws its order, whose operations read and whose calls make memory of their own: one walk in the order of the text serves every order. -/
import Derived.Test.YtbdnbchleoahgaaOnly
namespace Go.Proofs.Ytbdnbchleoahgaa
open Go.RowKit
structure More where
  d : Nat
  os : Array Obj
instance : Inhabited More := ⟨⟨0, #[]⟩⟩
/-- the world W with new blocks and other draws -/
def far (W : World) (x : More) : World := { W with heap := W.heap ++ x.os, drawn := x.d }
theorem far_size (W : World) (x : More) : (far W x).heap.size = W.heap.size + x.os.size := by simp [far]
theorem below_far (W : World) (x : More) : Below W.heap.size W (far W x) :=
  ⟨rfl, rfl, rfl, by rw [far_size]; omega, fun k hk => by show (W.heap ++ x.os)[k]? = _; rw [Array.getElem?_append_left hk]⟩
theorem far_cell {W : World} {g o : Nat} {v : Option Value} (hg : g < W.heap.size) (h : W.cell? ⟨g, o, none⟩ = v) : ∀ x, (far W x).cell? ⟨g, o, none⟩ = v :=
  fun x => by rw [(below_far W x).cell (p := ⟨g, o, none⟩) hg, h]
theorem far_of_below {W w' : World} (h : Below W.heap.size W w') : ∃ x, w' = far W x := by
  refine ⟨⟨w'.drawn, w'.heap.extract W.heap.size w'.heap.size⟩, ?_⟩
  obtain ⟨h1, h2, h3, h4, h5⟩ := h
  have hh : w'.heap = W.heap ++ w'.heap.extract W.heap.size w'.heap.size := by
    apply Array.ext
    · simp; omega
    · intro i a b
      rw [Array.getElem_append]
      split
      · next hi =>
        have := h5 i hi
        rw [Array.getElem?_eq_getElem a, Array.getElem?_eq_getElem hi] at this
        exact Option.some.inj this
      · next hi => rw [Array.getElem_extract]; congr 1; omega
  cases w'
  cases W
  simp only at h1 h2 h3
  subst h1 h2 h3
  unfold far
  simp only at hh ⊢
  rw [← hh]
/-- a callee that makes memory of its own, called in whatever world of the class -/
theorem call_far {P : Program} {f : FuncId} {args : Array Value} {W : World} {x : More} {v : Value}
    (h : Calls P f args (far W x) fun e w' => e = .returned v ∧ Below (far W x).heap.size (far W x) w') : Calls P f args (far W x) fun e w' => e = .returned v ∧ ∃ x, w' = far W x :=
  h.mono fun _ _ ⟨he, hb⟩ => ⟨he, far_of_below ((below_far W x).trans (hb.mono (below_far W x).size))⟩
theorem call_far_same {P : Program} {f : FuncId} {args : Array Value} {W : World} {x : More} {v : Value}
    (h : Calls P f args (far W x) fun e w' => e = .returned v ∧ far W x = w') : Calls P f args (far W x) fun e w' => e = .returned v ∧ ∃ x, w' = far W x :=
  h.mono fun _ _ ⟨he, hb⟩ => ⟨he, x, hb.symm⟩
theorem wp_region_far {P : Program} {id : Nat} {Q : Exit → Act → World → Prop} {a : Act} {w : World} {l : List Oper} (hm : P.follows .mixedOrders = true) (hB : Region.lexB .any l.toArray = true)
    (h : wpQuiet P l.toArray (fun w' => ∃ x, w' = far w x) (fun a' => ∀ w', (∃ x, w' = far w x) → Q .normal a' w') l a) : (Code.region id l.toArray true).wp P Q a w :=
  wp_region_quiet (C := fun w' => ∃ x, w' = far w x) hm hB ⟨⟨w.drawn + 1, #[]⟩, by unfold far; rw [Array.append_empty]⟩ (by simpa using h)
end Go.Proofs.Ytbdnbchleoahgaa

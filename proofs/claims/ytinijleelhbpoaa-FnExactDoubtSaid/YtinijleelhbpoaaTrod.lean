/- Arguments opened: texts, numbers, and slices of structs of any number of fields. -/
import Derived.Test.YtinijleelhbpoaaOwnK
import Derived.Test.YtinijleelhbpoaaInts
import Derived.Test.YtinijleelhbpoaaOpen
import Derived.Deep.Slices
import Derived.Deep.Fields
import Derived.ChangeSame
namespace Go.Proofs.Ytinijleelhbpoaa
open Go.ChangeShapes Go.WideShapes Go.ChangeAt Go.RowKit
theorem strg_of_trod {H : Type} {enc : TypeId × Value → H} {P : Program} {w : World} {base n : Nat} {spare : Nat → Bool} {held : Bool} {t : TypeId} {v : Value} {y : DataW H × List MemPlace} (ht : P.underlying t = some .string)
    (h : DataW.trod enc P w base spare held n t [v] = some y) : ∃ s : ByteArray, v = .string s ∧ s.size ≤ maxLen := by
  obtain ⟨s, hs, _, ws⟩ := DataW.trod_string ht h
  simp only [List.cons.injEq, and_true] at hs
  exact ⟨s, hs, ws⟩
theorem intg_of_trod {H : Type} {enc : TypeId × Value → H} {P : Program} {w : World} {base n : Nat} {spare : Nat → Bool} {held : Bool} {t : TypeId} {v : Value} {y : DataW H × List MemPlace} (ht : P.underlying t = some (.int .i64))
    (h : DataW.trod enc P w base spare held n t [v] = some y) : ∃ x : Int, v = .int .i64 x := by
  obtain ⟨x, hx, _⟩ := DataW.trod_int ht h
  simp only [List.cons.injEq, and_true] at hx
  exact ⟨x, hx⟩
theorem boolg_of_trod {H : Type} {enc : TypeId × Value → H} {P : Program} {w : World} {base n : Nat} {spare : Nat → Bool} {held : Bool} {t : TypeId} {v : Value} {y : DataW H × List MemPlace} (ht : P.underlying t = some .bool)
    (h : DataW.trod enc P w base spare held n t [v] = some y) : ∃ x : Bool, v = .bool x := by
  obtain ⟨x, hx, _⟩ := DataW.trod_bool ht h
  simp only [List.cons.injEq, and_true] at hx
  exact ⟨x, hx⟩
theorem rawK_of_trod {α : Type} {enc' : α → List Value} {k : Nat} {Q : α → Prop} {H : Type} {enc : TypeId × Value → H} {P : Program} {w : World} {fuel : Nat} {t e : TypeId} {cs : List Value} {x : DataW H × List MemPlace}
    (ht : P.underlying t = some (.slice e)) (ce : P.cellsOf e = k) (h0 : 0 < k) (hk : ∀ a, (enc' a).length = k) (inh : α)
    (each0 : ∀ (cs : List Value) (x : DataW H × List MemPlace) (fuel : Nat), cs.length = k → DataW.trod enc P w 0 (fun _ => true) true fuel e cs = some x → ∃ r : α, cs = enc' r ∧ Q r)
    (hf : DataW.trod enc P w 0 (fun _ => true) true fuel t cs = some x) : ∃ (A : Option Addr) (c : Nat) (l : List α), cs = [.slice A l.length c] ∧ RawK k enc' w A l ∧ (∀ z ∈ l, Q z) ∧ l.length ≤ maxLen := by
  rcases Go.Deep.open_slice ht hf with ⟨hcs, _⟩ | ⟨a, len, cap, m, n, D, Pl, hcs, _, hl, hm, hmm, _, hx⟩
  · exact ⟨none, 0, [], hcs, fun j hj => absurd hj (by simp), fun z hz => absurd hz (by simp), by unfold maxLen; simp⟩
  · simp only [if_true] at hmm
    subst hmm
    have each : ∀ i, i < len → ∃ r : α, (∀ j, j < k → w.cell? (a.add (i * k + j)) = (enc' r)[j]?) ∧ Q r := fun i hi => by
      obtain ⟨cs', h1, h2⟩ := hx i (by omega)
      rw [ce] at h1
      obtain ⟨_, hlen, hcell⟩ := World.cells?_some h1
      obtain ⟨r, hr, hq⟩ := each0 cs' _ _ hlen h2
      refine ⟨r, fun j hj => ?_, hq⟩
      rw [← Go.Deep.add_add, hcell j hj, hr]
    obtain ⟨f, hf⟩ := @Go.Deep.choose_lt α ⟨inh⟩ _ _ each
    have hlen : ((List.range len).map f).length = len := by simp
    refine ⟨some a, _, (List.range len).map f, by rw [hlen]; exact hcs, RawK.of h0 hk (fun j hj i hi => ?_), fun z hz => ?_, by rw [hlen]; omega⟩
    · rw [hlen] at hj
      have e : ((List.range len).map f)[j]'(by rw [hlen]; exact hj) = f j := by simp
      rw [e]
      exact (hf j hj).1 i hi
    · obtain ⟨j, hj, rfl⟩ := List.mem_map.1 hz
      exact (hf j (List.mem_range.1 hj)).2
theorem ints_of_trod {H : Type} {enc : TypeId × Value → H} {P : Program} {w : World} {fuel : Nat} {t e : TypeId} {cs : List Value} {x : DataW H × List MemPlace} (ht : P.underlying t = some (.slice e)) (he : P.underlying e = some (.int .i64)) (hc : P.cellsOf e = 1)
    (hf : DataW.trod enc P w 0 (fun _ => true) true fuel t cs = some x) : ∃ (A : Option Addr) (c : Nat) (zs : List Int), cs = [.slice A zs.length c] ∧ IntsRaw w A zs ∧ zs.length ≤ maxLen := by
  rcases open_ints ht he hc hf with ⟨hcs, _⟩ | ⟨a, len, cap', zs, hcs, _, hl, hm, hz, _, hcell, _⟩
  · exact ⟨none, 0, [], hcs, fun j hj => absurd hj (by simp), by unfold maxLen; simp⟩
  · simp only [if_true] at hz
    have hlen : (zs.take len).length = len := by rw [List.length_take]; omega
    refine ⟨some a, _, zs.take len, by rw [hlen]; exact hcs, fun j hj => ?_, by omega⟩
    have hcj := hcell j (by omega)
    refine ⟨a, rfl, ?_, ?_⟩
    · rcases Nat.lt_or_ge a.block w.heap.size with h | h
      · exact h
      · exfalso
        have : w.heap[(a.add j).block]? = none := by rw [addr_block]; exact Array.getElem?_eq_none h
        simp [World.cell?, this] at hcj
    · rw [hcj]
      rw [List.getElem_take, List.getD_eq_getElem?_getD, List.getElem?_eq_getElem (by omega)]
      rfl
end Go.Proofs.Ytinijleelhbpoaa

/- A slice of ints, opened. -/
import Derived.Test.YtadcmngooobeiaaBa
namespace Go.Proofs.Ytadcmngooobeiaa
open Go.ChangeShapes Go.WideShapes Go.ChangeAt Go.RowKit
theorem open_intS {H : Type} {enc : TypeId × Value → H} {P : Program} {w : World} {b0 : Nat} {r : Reach} {t e : TypeId} {v : Value} {d : DataW H} {p : List MemPlace} (ht : P.underlying t = some (.slice e)) (he : P.underlying e = some (.int .i64)) (hc : P.cellsOf e = 1)
    (hv : Value.okWide P w r b0 t v) (h : DataW.Trod enc P w 0 (fun _ => true) true t v d p) : ∃ (A : Option Addr) (c : Nat) (zs : List Int), v = .slice A zs.length c ∧ IntsRaw w A zs ∧ zs.length ≤ maxLen := by
  obtain ⟨a0, len, cap, rfl⟩ := okWide_slice ht hv
  obtain ⟨fuel, hf⟩ := h
  rcases open_ints ht he hc hf with ⟨hcs, _⟩ | ⟨a, len', cap', zs, hcs, _, hl, hm, hz, _, hcell, _⟩
  · simp only [Value.cells, List.cons.injEq, and_true, Value.slice.injEq] at hcs
    obtain ⟨rfl, rfl, rfl⟩ := hcs
    exact ⟨none, 0, [], rfl, fun j hj => absurd hj (by simp), by unfold maxLen; simp⟩
  · simp only [Value.cells, List.cons.injEq, and_true, Value.slice.injEq] at hcs
    obtain ⟨rfl, rfl, rfl⟩ := hcs
    simp only [if_true] at hz
    have hlen : (zs.take len).length = len := by rw [List.length_take]; omega
    refine ⟨some a, _, zs.take len, by rw [hlen], fun j hj => ?_, by omega⟩
    have hcj := hcell j (by omega)
    refine ⟨a, rfl, ?_, ?_⟩
    · rcases Nat.lt_or_ge a.block w.heap.size with h | h
      · exact h
      · exfalso
        have : w.heap[(a.add j).block]? = none := by rw [addr_block]; exact Array.getElem?_eq_none h
        simp [World.cell?, this] at hcj
    · rw [hcj]
      rw [List.getElem_take, List.getD_eq_getElem?_getD, List.getElem?_eq_getElem (by omega)]
      rfl
theorem i64_cells : Try.prog.cellsOf 3 = 1 := by kernel_rfl
end Go.Proofs.Ytadcmngooobeiaa

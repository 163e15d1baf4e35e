/- A slice of zones, opened. -/
import Derived.Test.YtakpeakahofjlaaZone
import Derived.Test.YtakpeakahofjlaaOpen
import Derived.Deep.SlicePairs
namespace Go.Proofs.Ytakpeakahofjlaa
open Go.ChangeShapes Go.WideShapes Go.ChangeAt Go.RowKit
theorem str_of_trod {H : Type} {enc : TypeId × Value → H} {P : Program} {w : World} {base n : Nat} {spare : Nat → Bool} {held : Bool} {t : TypeId} {v : Value} {y : DataW H × List MemPlace} (ht : P.underlying t = some .string)
    (h : DataW.trod enc P w base spare held n t [v] = some y) : ∃ s : ByteArray, v = .string s ∧ s.size ≤ maxLen := by
  obtain ⟨s, hs, _, ws⟩ := DataW.trod_string ht h
  simp only [List.cons.injEq, and_true] at hs
  exact ⟨s, hs, ws⟩
theorem open_zoneS {H : Type} {enc : TypeId × Value → H} {P : Program} {w : World} {b0 : Nat} {r : Reach} {v : Value} {d : DataW H} {p : List MemPlace} {t e : TypeId} {f0 f1 : Field} (ht : P.underlying t = some (.slice e)) (he : P.underlying e = some (.struct #[f0, f1])) (ce : P.cellsOf e = 2)
    (o0 : f0.offset = 0) (o1 : f1.offset = 1) (c0 : P.cellsOf f0.type = 1) (c1 : P.cellsOf f1.type = 1) (s0 : P.underlying f0.type = some .string) (s1 : P.underlying f1.type = some .string)
    (hv : Value.okWide P w r b0 t v) (h : DataW.Trod enc P w 0 (fun _ => true) true t v d p) : ∃ (A : Option Addr) (c : Nat) (l : List Zn), v = .slice A l.length c ∧ RawK 2 zC w A l ∧ ((∀ z ∈ l, z.1.size ≤ maxLen ∧ z.2.size ≤ maxLen) ∧ l.length ≤ maxLen) := by
  obtain ⟨a0, len, cap, rfl⟩ := okWide_slice ht hv
  obtain ⟨fuel, hf⟩ := h
  rcases Go.Deep.open_slice_pairs ht he ce o0 o1 c0 c1 hf with ⟨hcs, _⟩ | ⟨a, len', cap', m, n, V0, V1, D0, D1, P0, P1, hcs, _, hl, hm, hmm, _, hx⟩
  · simp only [Value.cells, List.cons.injEq, and_true, Value.slice.injEq] at hcs
    obtain ⟨rfl, rfl, rfl⟩ := hcs
    exact ⟨none, 0, [], rfl, fun j hj => absurd hj (by simp), fun z hz => absurd hz (by simp), by unfold maxLen; simp⟩
  · simp only [Value.cells, List.cons.injEq, and_true, Value.slice.injEq] at hcs
    obtain ⟨rfl, rfl, rfl⟩ := hcs
    simp only [if_true] at hmm
    subst hmm
    have each : ∀ i, i < len → ∃ z : Zn, w.cell? (a.add (i * 2)) = some (.string z.1) ∧ w.cell? (a.add (i * 2 + 1)) = some (.string z.2) ∧ z.1.size ≤ maxLen ∧ z.2.size ≤ maxLen := fun i hi => by
      obtain ⟨h0, h1, t0, t1⟩ := hx i (by omega)
      obtain ⟨s, e0, w0⟩ := str_of_trod s0 t0
      obtain ⟨t, e1, w1⟩ := str_of_trod s1 t1
      exact ⟨(s, t), by rw [h0, e0], by rw [h1, e1], w0, w1⟩
    obtain ⟨f, hf⟩ := Go.Deep.choose_lt each
    have hlen : ((List.range len).map f).length = len := by simp
    refine ⟨some a, _, (List.range len).map f, by rw [hlen], RawK.of (by omega) zC_len (fun j hj i hi => ?_), fun z hz => ?_, by rw [hlen]; omega⟩
    · rw [hlen] at hj
      have e : ((List.range len).map f)[j]'(by rw [hlen]; exact hj) = f j := by simp
      rw [e]
      obtain ⟨h0, h1, _⟩ := hf j hj
      have hc : i = 0 ∨ i = 1 := by omega
      rcases hc with rfl | rfl
      · exact h0
      · exact h1
    · obtain ⟨j, hj, rfl⟩ := List.mem_map.1 hz
      exact (hf j (List.mem_range.1 hj)).2.2
end Go.Proofs.Ytakpeakahofjlaa

/- A slice of rates, opened. -/
import Derived.Test.YtakpeakahofjlaaRate
import Derived.Test.YtakpeakahofjlaaOpen
import Derived.Deep.Slices
import Derived.Lib.SmallJoins
namespace Go.Proofs.Ytakpeakahofjlaa
open Go.ChangeShapes Go.WideShapes Go.ChangeAt Go.RowKit
theorem int_of_trod {H : Type} {enc : TypeId × Value → H} {P : Program} {w : World} {base n : Nat} {spare : Nat → Bool} {held : Bool} {t : TypeId} {v : Value} {y : DataW H × List MemPlace} (ht : P.underlying t = some (.int .i64))
    (h : DataW.trod enc P w base spare held n t [v] = some y) : ∃ x : Int, v = .int .i64 x := by
  obtain ⟨x, hx, _⟩ := DataW.trod_int ht h
  simp only [List.cons.injEq, and_true] at hx
  exact ⟨x, hx⟩
theorem open_rateS {H : Type} {enc : TypeId × Value → H} {P : Program} {w : World} {b0 : Nat} {r : Reach} {v : Value} {d : DataW H} {p : List MemPlace} {t e : TypeId} {f0 f1 f2 f3 : Field} (ht : P.underlying t = some (.slice e)) (he : P.underlying e = some (.struct #[f0, f1, f2, f3])) (ce : P.cellsOf e = 4)
    (o : f0.offset = 0 ∧ f1.offset = 1 ∧ f2.offset = 2 ∧ f3.offset = 3) (c : P.cellsOf f0.type = 1 ∧ P.cellsOf f1.type = 1 ∧ P.cellsOf f2.type = 1 ∧ P.cellsOf f3.type = 1)
    (s : P.underlying f0.type = some (.int .i64) ∧ P.underlying f1.type = some (.int .i64) ∧ P.underlying f2.type = some (.int .i64) ∧ P.underlying f3.type = some (.int .i64))
    (hv : Value.okWide P w r b0 t v) (h : DataW.Trod enc P w 0 (fun _ => true) true t v d p) : ∃ (A : Option Addr) (c : Nat) (l : List Rt), v = .slice A l.length c ∧ RawK 4 rC w A l ∧ l.length ≤ maxLen := by
  obtain ⟨a0, len, cap, rfl⟩ := okWide_slice ht hv
  obtain ⟨fuel, hf⟩ := h
  rcases Go.Deep.open_slice ht hf with ⟨hcs, _⟩ | ⟨a, len', cap', m, n, D, Pl, hcs, _, hl, hm, hmm, _, hx⟩
  · simp only [Value.cells, List.cons.injEq, and_true, Value.slice.injEq] at hcs
    obtain ⟨rfl, rfl, rfl⟩ := hcs
    exact ⟨none, 0, [], rfl, fun j hj => absurd hj (by simp), by unfold maxLen; simp⟩
  · simp only [Value.cells, List.cons.injEq, and_true, Value.slice.injEq] at hcs
    obtain ⟨rfl, rfl, rfl⟩ := hcs
    simp only [if_true] at hmm
    subst hmm
    have each : ∀ i, i < len → ∃ r : Rt, ∀ j, j < 4 → w.cell? (a.add (i * 4 + j)) = (rC r)[j]? := fun i hi => by
      obtain ⟨cs', h1, h2⟩ := hx i (by omega)
      rw [ce] at h1
      obtain ⟨_, hlen, hcell⟩ := World.cells?_some h1
      obtain ⟨y0, y1, y2, y3, k, _, _, t0, t1, t2, t3⟩ := Joins.trod_struct4 he h2
      match cs', hlen with
      | [v0, v1, v2, v3], _ =>
        rw [o.1, c.1] at t0
        rw [o.2.1, c.2.1] at t1
        rw [o.2.2.1, c.2.2.1] at t2
        rw [o.2.2.2, c.2.2.2] at t3
        obtain ⟨x0, rfl⟩ := int_of_trod s.1 t0
        obtain ⟨x1, rfl⟩ := int_of_trod s.2.1 t1
        obtain ⟨x2, rfl⟩ := int_of_trod s.2.2.1 t2
        obtain ⟨x3, rfl⟩ := int_of_trod s.2.2.2 t3
        refine ⟨⟨x0, x1, x2, x3⟩, fun j hj => ?_⟩
        rw [← Go.Deep.add_add, hcell j hj]
        rfl
    obtain ⟨f, hf⟩ := @Go.Deep.choose_lt Rt ⟨⟨0, 0, 0, 0⟩⟩ _ _ each
    have hlen : ((List.range len).map f).length = len := by simp
    refine ⟨some a, _, (List.range len).map f, by rw [hlen], RawK.of (by omega) rC_len (fun j hj i hi => ?_), by rw [hlen]; omega⟩
    rw [hlen] at hj
    have e : ((List.range len).map f)[j]'(by rw [hlen]; exact hj) = f j := by simp
    rw [e]
    exact hf j hj i hi
end Go.Proofs.Ytakpeakahofjlaa

/- A slice of trips, opened, with the bounds of its numbers. -/
import Derived.Test.YtodphbnbljpegaaBb
namespace Go.Proofs.Ytodphbnbljpegaa
open Go.ChangeShapes Go.WideShapes Go.ChangeAt Go.RowKit
/-- both numbers of a trip are numbers of 64 bits -/
def BdT (t : Tp) : Prop := (-9223372036854775808 ≤ t.g ∧ t.g ≤ 9223372036854775807) ∧ (-9223372036854775808 ≤ t.d ∧ t.d ≤ 9223372036854775807)
theorem intb_of_trod {H : Type} {enc : TypeId × Value → H} {P : Program} {w : World} {base n : Nat} {spare : Nat → Bool} {held : Bool} {t : TypeId} {v : Value} {y : DataW H × List MemPlace} (ht : P.underlying t = some (.int .i64))
    (h : DataW.trod enc P w base spare held n t [v] = some y) : ∃ x : Int, v = .int .i64 x ∧ -9223372036854775808 ≤ x ∧ x ≤ 9223372036854775807 := by
  obtain ⟨x, hx, hr⟩ := DataW.trod_int ht h
  simp only [List.cons.injEq, and_true] at hx
  exact ⟨x, hx, int_bd hr.2⟩
theorem tp_trodB {H : Type} {enc : TypeId × Value → H} {P : Program} {w : World} {base fuel : Nat} {spare : Nat → Bool} {held : Bool} {e : TypeId} {cs : List Value} {x : DataW H × List MemPlace} {f0 f1 : Field}
    (he : P.underlying e = some (.struct #[f0, f1])) (hF : tpF P f0 f1) (hl : cs.length = 2) (h : DataW.trod enc P w base spare held fuel e cs = some x) : ∃ r : Tp, cs = tpC r ∧ BdT r := by
  obtain ⟨ys, m, _, _, _, hlen, hg⟩ := DataW.trod_struct he h
  match ys, hlen, cs, hl with
  | [y0, y1], _, [v0, v1], _ =>
    obtain ⟨q0, q1⟩ := hF
    have g0 := hg 0 f0 rfl
    rw [q0.1, q0.2.1] at g0
    obtain ⟨a0, rfl, k0⟩ := intb_of_trod q0.2.2 g0
    have g1 := hg 1 f1 rfl
    rw [q1.1, q1.2.1] at g1
    obtain ⟨a1, rfl, k1⟩ := intb_of_trod q1.2.2 g1
    exact ⟨⟨a0, a1⟩, rfl, k0, k1⟩
theorem open_tpSB {H : Type} {enc : TypeId × Value → H} {P : Program} {w : World} {b0 : Nat} {r : Reach} {v : Value} {d : DataW H} {p : List MemPlace} {t e : TypeId} {f0 f1 : Field} (ht : P.underlying t = some (.slice e)) (he : P.underlying e = some (.struct #[f0, f1])) (ce : P.cellsOf e = 2) (hF : tpF P f0 f1)
    (hv : Value.okWide P w r b0 t v) (h : DataW.Trod enc P w 0 (fun _ => true) true t v d p) : ∃ (A : Option Addr) (c : Nat) (l : List Tp), v = .slice A l.length c ∧ RawK 2 tpC w A l ∧ l.length ≤ maxLen ∧ ∀ z ∈ l, BdT z := by
  obtain ⟨a0, len, cap, rfl⟩ := okWide_slice ht hv
  obtain ⟨fuel, hf⟩ := h
  obtain ⟨A, c, l, hv, h1, h2, h3⟩ := rawK_of_trod (enc' := tpC) (k := 2) (Q := BdT) ht ce (by omega) tpC_len ⟨0, 0⟩ (fun cs x fuel hl h => tp_trodB he hF hl h) hf
  exact ⟨A, c, l, by simpa [Value.cells] using hv, h1, h3, h2⟩
end Go.Proofs.Ytodphbnbljpegaa

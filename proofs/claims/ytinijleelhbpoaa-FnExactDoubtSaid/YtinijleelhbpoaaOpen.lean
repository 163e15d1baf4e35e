/- Arguments opened: strings, ints, labels, byte slices. -/
import Derived.Test.YtinijleelhbpoaaLaw
import Derived.ChangeMaps5
import Derived.Lib.SmallJoins
namespace Go.Proofs.Ytinijleelhbpoaa
open Go.ChangeShapes Go.WideShapes Go.ChangeAt Go.RowKit
open Go.ChangeMaps (open_string shut_string)
open Go.Deep

theorem int_bd {n : Int} (h : (Lit.int .i64 n).wf = true) : -9223372036854775808 ≤ n ∧ n ≤ 9223372036854775807 := by
  have a1 : IntKind.i64.min = -9223372036854775808 := rfl
  have a2 : IntKind.i64.max = 9223372036854775807 := rfl
  simp only [Lit.wf, Bool.and_eq_true, decide_eq_true_eq] at h
  omega

/-- a label by value: an int, an int, a string -/
theorem open_label {H : Type} {enc : TypeId × Value → H} {P : Program} {w : World} {base b0 : Nat} {spare : Nat → Bool} {held : Bool} {r : Reach} {t ti ts : TypeId} {f0 f1 f2 : Field} {v : Value} {d : DataW H} {p : List MemPlace}
    (hs : P.underlying t = some (.struct #[f0, f1, f2])) (hone : oneCellFields P #[f0, f1, f2] = true) (hC : P.cellsOf t = 3) (h0 : f0.type = ti) (h1 : f1.type = ti) (h2 : f2.type = ts)
    (hti : P.underlying ti = some (.int .i64)) (hts : P.underlying ts = some .string) (hv : Value.okWide P w r b0 t v) (h : DataW.Trod enc P w base spare held t v d p) :
    ∃ (a b : Int) (s : ByteArray), v = .agg #[.int .i64 a, .int .i64 b, .string s] ∧ (Lit.int .i64 a).wf = true ∧ (Lit.int .i64 b).wf = true ∧ s.size ≤ maxLen := by
  obtain ⟨v0, v1, v2, y0, y1, y2, n, rfl, rfl, rfl, g0, g1, g2⟩ := Joins.open_agg3 hs hone hC hv h
  rw [h0] at g0; rw [h1] at g1; rw [h2] at g2
  obtain ⟨a, ha, _, wa⟩ := DataW.trod_int hti g0
  obtain ⟨b, hb, _, wb⟩ := DataW.trod_int hti g1
  obtain ⟨s, hs', _, ws⟩ := DataW.trod_string hts g2
  simp only [List.cons.injEq, and_true] at ha hb hs'
  exact ⟨a, b, s, by rw [ha, hb, hs'], wa, wb, ws⟩
end Go.Proofs.Ytinijleelhbpoaa

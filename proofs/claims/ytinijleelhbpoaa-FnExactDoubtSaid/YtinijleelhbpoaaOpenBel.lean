/- A belief as a law's argument, opened; its size, its copy, and that copies are alike. -/
import Derived.Test.YtinijleelhbpoaaStrA
import Derived.Test.YtinijleelhbpoaaOpenTrips
import Derived.Test.YtinijleelhbpoaaTrod
import Derived.Test.YtinijleelhbpoaaBox2
namespace Go.Proofs.Ytinijleelhbpoaa
open Go.ChangeShapes Go.WideShapes Go.ChangeAt Go.RowKit
theorem open_bel {H : Type} {enc : TypeId × Value → H} {P : Program} {w : World} {b0 : Nat} {r : Reach} {tn ts tt : TypeId} {n0 n1 f0 f1 : Field} {v : Value} {d : DataW H} {p : List MemPlace}
    (hs : P.underlying tn = some (.struct #[n0, n1])) (hC : P.cellsOf tn = 2) (o : n0.offset = 0 ∧ n1.offset = 1) (c : P.cellsOf n0.type = 1 ∧ P.cellsOf n1.type = 1)
    (u0 : P.underlying n0.type = some (.slice ts)) (us : P.underlying ts = some .string) (cs0 : P.cellsOf ts = 1)
    (u1 : P.underlying n1.type = some (.slice tt)) (ut : P.underlying tt = some (.struct #[f0, f1])) (ct : P.cellsOf tt = 2) (hF : tpF P f0 f1)
    (hv : Value.okWide P w r b0 tn v) (h : DataW.Trod enc P w 0 (fun _ => true) true tn v d p) :
    ∃ (A : Option Addr) (ca : Nat) (l : List ByteArray) (D : Option Addr) (cd : Nat) (ts : List Tp), v = .agg #[.slice A l.length ca, .slice D ts.length cd] ∧ RawK 1 stC w A l ∧ RawK 2 tpC w D ts ∧ (∀ z ∈ l, z.size ≤ maxLen) ∧ l.length ≤ maxLen ∧ ts.length ≤ maxLen := by
  obtain ⟨cs, rfl, hsz⟩ := okWide_struct hs hv
  obtain ⟨fuel, hf⟩ := h
  obtain ⟨ys, n, _, hx, _, hlen, hg⟩ := DataW.trod_struct hs hf
  obtain ⟨cl'⟩ := cs
  match cl', hsz.trans hC, ys, hlen with
  | [v0, v1], _, [y0, y1], _ =>
    have g0 := hg 0 n0 rfl
    have g1 := hg 1 n1 rfl
    rw [o.1, c.1] at g0
    rw [o.2, c.2] at g1
    obtain ⟨A, ca, l, e0, h1, h2, h3⟩ := rawK_of_trod (enc' := stC) (k := 1) (Q := fun z => z.size ≤ maxLen) u0 cs0 (by omega) stC_len ⟨#[]⟩ (fun cs x fuel hl h => by
      match cs, hl with
      | [y], _ =>
        obtain ⟨s, hr, w0⟩ := strg_of_trod us h
        exact ⟨s, by rw [hr]; rfl, w0⟩) g0
    obtain ⟨D, cd, ts, e1, k1, _, k2⟩ := rawK_of_trod (enc' := tpC) (k := 2) (Q := fun _ => True) u1 ct (by omega) tpC_len ⟨0, 0⟩ (fun cs x fuel hl h => by
      obtain ⟨r, hr⟩ := tp_trod ut hF hl h
      exact ⟨r, hr, trivial⟩) g1
    have q0 : v0 = .slice A l.length ca := by simpa [Value.cells] using e0
    have q1 : v1 = .slice D ts.length cd := by simpa [Value.cells] using e1
    exact ⟨A, ca, l, D, cd, ts, by rw [q0, q1], h1, k1, h2, h3, k2⟩
end Go.Proofs.Ytinijleelhbpoaa

/- A network by value, opened. -/
import Derived.Test.YtbdnbchleoahgaaOpenLegs
namespace Go.Proofs.Ytbdnbchleoahgaa
open Go.ChangeShapes Go.WideShapes Go.ChangeAt Go.RowKit
theorem open_net {H : Type} {enc : TypeId × Value → H} {P : Program} {w : World} {b0 : Nat} {r : Reach} {tn tl ti : TypeId} {n0 n1 n2 f0 f1 f2 f3 f4 f5 : Field} {v : Value} {d : DataW H} {p : List MemPlace}
    (hs : P.underlying tn = some (.struct #[n0, n1, n2])) (hC : P.cellsOf tn = 3) (o : n0.offset = 0 ∧ n1.offset = 1 ∧ n2.offset = 2) (c : P.cellsOf n0.type = 1 ∧ P.cellsOf n1.type = 1 ∧ P.cellsOf n2.type = 1)
    (u0 : P.underlying n0.type = some (.slice tl)) (ul : P.underlying tl = some (.struct #[f0, f1, f2, f3, f4, f5])) (cl : P.cellsOf tl = 6) (hF : lgF P f0 f1 f2 f3 f4 f5)
    (u1 : P.underlying n1.type = some (.slice ti)) (ui : P.underlying ti = some (.int .i64)) (ci : P.cellsOf ti = 1) (u2 : P.underlying n2.type = some (.int .i64))
    (hv : Value.okWide P w r b0 tn v) (h : DataW.Trod enc P w 0 (fun _ => true) true tn v d p) :
    ∃ (A : Option Addr) (ca : Nat) (l : List Lg) (D : Option Addr) (cd : Nat) (zs : List Int) (x : Int), v = .agg #[.slice A l.length ca, .slice D zs.length cd, .int .i64 x] ∧ RawK 6 lgC w A l ∧ IntsRaw w D zs ∧ ((∀ z ∈ l, z.f.size ≤ maxLen ∧ z.t.size ≤ maxLen) ∧ l.length ≤ maxLen ∧ zs.length ≤ maxLen) := by
  obtain ⟨cs, rfl, hsz⟩ := okWide_struct hs hv
  obtain ⟨fuel, hf⟩ := h
  obtain ⟨ys, n, _, hx, _, hlen, hg⟩ := DataW.trod_struct hs hf
  obtain ⟨cl'⟩ := cs
  match cl', hsz.trans hC, ys, hlen with
  | [v0, v1, v2], _, [y0, y1, y2], _ =>
    have g0 := hg 0 n0 rfl
    have g1 := hg 1 n1 rfl
    have g2 := hg 2 n2 rfl
    rw [o.1, c.1] at g0
    rw [o.2.1, c.2.1] at g1
    rw [o.2.2, c.2.2] at g2
    obtain ⟨A, ca, l, e0, h1, h2, h3⟩ := rawK_of_trod (enc' := lgC) (k := 6) (Q := fun r => r.f.size ≤ maxLen ∧ r.t.size ≤ maxLen) u0 cl (by omega) lgC_len ⟨⟨#[]⟩, ⟨#[]⟩, 0, 0, 0, 0⟩ (fun cs x fuel hl h => by
      obtain ⟨r, hr, w0, w1⟩ := lg_trod ul hF hl h
      exact ⟨r, hr, w0, w1⟩) g0
    obtain ⟨D, cd, zs, e1, k1, k2⟩ := ints_of_trod u1 ui ci g1
    obtain ⟨x, e2⟩ := intg_of_trod u2 g2
    have q0 : v0 = .slice A l.length ca := by simpa [Value.cells] using e0
    have q1 : v1 = .slice D zs.length cd := by simpa [Value.cells] using e1
    exact ⟨A, ca, l, D, cd, zs, x, by rw [q0, q1, e2], h1, k1, h2, h3, k2⟩
end Go.Proofs.Ytbdnbchleoahgaa

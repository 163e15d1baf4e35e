/- Scan: an argument, and a slice of them, opened. Written by mk/scans.py. -/
import Derived.Test.YtamlbiagjipedaaScans
import Derived.Test.YtamlbiagjipedaaBa
namespace Go.Proofs.Ytamlbiagjipedaa
open Go.ChangeShapes Go.WideShapes Go.ChangeAt Go.RowKit
/-- the fields of the struct's type, as the readings want them -/
abbrev scF (P : Program) (f0 f1 f2 f3 f4 l0 l1 : Field) : Prop :=
  (f0.offset = 0 ∧ P.cellsOf f0.type = 1 ∧ P.underlying f0.type = some (.int .i64)) ∧ (f1.offset = 1 ∧ P.cellsOf f1.type = 1 ∧ P.underlying f1.type = some (.int .i64)) ∧ (f2.offset = 2 ∧ P.cellsOf f2.type = 1 ∧ P.underlying f2.type = some (.int .i64)) ∧ (f3.offset = 3 ∧ P.cellsOf f3.type = 1 ∧ P.underlying f3.type = some .string) ∧ (f4.offset = 4 ∧ P.cellsOf f4.type = 2 ∧ P.underlying f4.type = some (.struct #[l0, l1])) ∧ (l0.offset = 0 ∧ P.cellsOf l0.type = 1 ∧ P.underlying l0.type = some (.int .i64)) ∧ (l1.offset = 1 ∧ P.cellsOf l1.type = 1 ∧ P.underlying l1.type = some (.int .i64))
theorem sc_trod {H : Type} {enc : TypeId × Value → H} {P : Program} {w : World} {base fuel : Nat} {spare : Nat → Bool} {held : Bool} {e : TypeId} {cs : List Value} {x : DataW H × List MemPlace} {f0 f1 f2 f3 f4 l0 l1 : Field}
    (he : P.underlying e = some (.struct #[f0, f1, f2, f3, f4])) (hF : scF P f0 f1 f2 f3 f4 l0 l1) (hl : cs.length = 6) (h : DataW.trod enc P w base spare held fuel e cs = some x) : ∃ r : Sc, cs = scC r ∧ r.p.size ≤ maxLen := by
  obtain ⟨ys, m, _, _, _, hlen, hg⟩ := DataW.trod_struct he h
  match ys, hlen, cs, hl with
  | [y0, y1, y2, y3, y4], _, [v0, v1, v2, v3, v4, v5], _ =>
    obtain ⟨q0, q1, q2, q3, q4, r0, r1⟩ := hF
    have g0 := hg 0 f0 rfl
    rw [q0.1, q0.2.1] at g0
    obtain ⟨a0, rfl⟩ := intg_of_trod q0.2.2 g0
    have g1 := hg 1 f1 rfl
    rw [q1.1, q1.2.1] at g1
    obtain ⟨a1, rfl⟩ := intg_of_trod q1.2.2 g1
    have g2 := hg 2 f2 rfl
    rw [q2.1, q2.2.1] at g2
    obtain ⟨a2, rfl⟩ := intg_of_trod q2.2.2 g2
    have g3 := hg 3 f3 rfl
    rw [q3.1, q3.2.1] at g3
    obtain ⟨a3, rfl, w3⟩ := strg_of_trod q3.2.2 g3
    have g4 := hg 4 f4 rfl
    rw [q4.1, q4.2.1] at g4
    obtain ⟨zs, m', _, _, _, hlen', hg'⟩ := DataW.trod_struct q4.2.2 g4
    match zs, hlen' with
    | [z0, z1], _ =>
      have k0 := hg' 0 l0 rfl
      rw [r0.1, r0.2.1] at k0
      obtain ⟨a4, rfl⟩ := intg_of_trod r0.2.2 k0
      have k1 := hg' 1 l1 rfl
      rw [r1.1, r1.2.1] at k1
      obtain ⟨a5, rfl⟩ := intg_of_trod r1.2.2 k1
      exact ⟨⟨a0, a1, a2, a3, a4, a5⟩, rfl, w3⟩
theorem open_sc {H : Type} {enc : TypeId × Value → H} {P : Program} {w : World} {b0 : Nat} {r : Reach} {v : Value} {d : DataW H} {p : List MemPlace} {t : TypeId} {f0 f1 f2 f3 f4 l0 l1 : Field} (ht : P.underlying t = some (.struct #[f0, f1, f2, f3, f4])) (hC : P.cellsOf t = 6) (hF : scF P f0 f1 f2 f3 f4 l0 l1)
    (hv : Value.okWide P w r b0 t v) (h : DataW.Trod enc P w 0 (fun _ => true) true t v d p) : ∃ r : Sc, v = .agg #[.int .i64 r.h, .int .i64 r.a, .int .i64 r.k, .string r.p, .int .i64 r.g, .int .i64 r.d] ∧ r.p.size ≤ maxLen := by
  obtain ⟨cs, rfl, hsz⟩ := okWide_struct ht hv
  obtain ⟨fuel, hf⟩ := h
  obtain ⟨r, hr, w3⟩ := sc_trod ht hF (by simpa [Value.cells] using hsz.trans hC) hf
  refine ⟨r, ?_, w3⟩
  have e : cs = (scC r).toArray := by simp only [Value.cells] at hr; rw [← hr]
  rw [e]; rfl
theorem open_scS {H : Type} {enc : TypeId × Value → H} {P : Program} {w : World} {b0 : Nat} {r : Reach} {v : Value} {d : DataW H} {p : List MemPlace} {t e : TypeId} {f0 f1 f2 f3 f4 l0 l1 : Field} (ht : P.underlying t = some (.slice e)) (he : P.underlying e = some (.struct #[f0, f1, f2, f3, f4])) (ce : P.cellsOf e = 6) (hF : scF P f0 f1 f2 f3 f4 l0 l1)
    (hv : Value.okWide P w r b0 t v) (h : DataW.Trod enc P w 0 (fun _ => true) true t v d p) : ∃ (A : Option Addr) (c : Nat) (l : List Sc), v = .slice A l.length c ∧ RawK 6 scC w A l ∧ (∀ z ∈ l, z.p.size ≤ maxLen) ∧ l.length ≤ maxLen := by
  obtain ⟨a0, len, cap, rfl⟩ := okWide_slice ht hv
  obtain ⟨fuel, hf⟩ := h
  obtain ⟨A, c, l, hv, h1, h2, h3⟩ := rawK_of_trod (enc' := scC) (k := 6) (Q := fun r => r.p.size ≤ maxLen) ht ce (by omega) scC_len ⟨0, 0, 0, ⟨#[]⟩, 0, 0⟩ (fun cs x fuel hl h => by
    obtain ⟨r, hr, w3⟩ := sc_trod he hF hl h
    exact ⟨r, hr, w3⟩) hf
  exact ⟨A, c, l, by simpa [Value.cells] using hv, h1, h2, h3⟩
end Go.Proofs.Ytamlbiagjipedaa

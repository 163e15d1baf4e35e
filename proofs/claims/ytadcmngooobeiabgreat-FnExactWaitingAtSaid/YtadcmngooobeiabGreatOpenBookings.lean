/- Booking: a slice of them, opened. -/
import Derived.Test.YtadcmngooobeiabGreatBookings
import Derived.Test.YtadcmngooobeiabGreatBa
namespace Go.Proofs.YtadcmngooobeiabGreat
open Go.ChangeShapes Go.WideShapes Go.ChangeAt Go.RowKit
/-- the fields of the struct's type, as the readings want them -/
abbrev bkF (P : Program) (f0 f1 f2 l0 l1 : Field) : Prop :=
  (f0.offset = 0 ∧ P.cellsOf f0.type = 1 ∧ P.underlying f0.type = some (.int .i64)) ∧ (f1.offset = 1 ∧ P.cellsOf f1.type = 2 ∧ P.underlying f1.type = some (.struct #[l0, l1])) ∧ (f2.offset = 3 ∧ P.cellsOf f2.type = 1 ∧ P.underlying f2.type = some (.int .i64)) ∧ (l0.offset = 0 ∧ P.cellsOf l0.type = 1 ∧ P.underlying l0.type = some (.int .i64)) ∧ (l1.offset = 1 ∧ P.cellsOf l1.type = 1 ∧ P.underlying l1.type = some (.int .i64))
theorem bk_trod {H : Type} {enc : TypeId × Value → H} {P : Program} {w : World} {base fuel : Nat} {spare : Nat → Bool} {held : Bool} {e : TypeId} {cs : List Value} {x : DataW H × List MemPlace} {f0 f1 f2 l0 l1 : Field}
    (he : P.underlying e = some (.struct #[f0, f1, f2])) (hF : bkF P f0 f1 f2 l0 l1) (hl : cs.length = 4) (h : DataW.trod enc P w base spare held fuel e cs = some x) : ∃ r : Bk, cs = bkC r := by
  obtain ⟨ys, m, _, _, _, hlen, hg⟩ := DataW.trod_struct he h
  match ys, hlen, cs, hl with
  | [y0, y1, y2], _, [v0, v1, v2, v3], _ =>
    obtain ⟨q0, q1, q2, r0, r1⟩ := hF
    have g0 := hg 0 f0 rfl
    rw [q0.1, q0.2.1] at g0
    obtain ⟨a0, rfl⟩ := intg_of_trod q0.2.2 g0
    have g2 := hg 2 f2 rfl
    rw [q2.1, q2.2.1] at g2
    obtain ⟨a3, rfl⟩ := intg_of_trod q2.2.2 g2
    have g1 := hg 1 f1 rfl
    rw [q1.1, q1.2.1] at g1
    obtain ⟨zs, m', _, _, _, hlen', hg'⟩ := DataW.trod_struct q1.2.2 g1
    match zs, hlen' with
    | [z0, z1], _ =>
      have k0 := hg' 0 l0 rfl
      rw [r0.1, r0.2.1] at k0
      obtain ⟨a1, rfl⟩ := intg_of_trod r0.2.2 k0
      have k1 := hg' 1 l1 rfl
      rw [r1.1, r1.2.1] at k1
      obtain ⟨a2, rfl⟩ := intg_of_trod r1.2.2 k1
      exact ⟨⟨a0, a1, a2, a3⟩, rfl⟩
theorem open_bkS {H : Type} {enc : TypeId × Value → H} {P : Program} {w : World} {b0 : Nat} {r : Reach} {v : Value} {d : DataW H} {p : List MemPlace} {t e : TypeId} {f0 f1 f2 l0 l1 : Field} (ht : P.underlying t = some (.slice e)) (he : P.underlying e = some (.struct #[f0, f1, f2])) (ce : P.cellsOf e = 4) (hF : bkF P f0 f1 f2 l0 l1)
    (hv : Value.okWide P w r b0 t v) (h : DataW.Trod enc P w 0 (fun _ => true) true t v d p) : ∃ (A : Option Addr) (c : Nat) (l : List Bk), v = .slice A l.length c ∧ RawK 4 bkC w A l ∧ l.length ≤ maxLen := by
  obtain ⟨a0, len, cap, rfl⟩ := okWide_slice ht hv
  obtain ⟨fuel, hf⟩ := h
  obtain ⟨A, c, l, hv, h1, _, h3⟩ := rawK_of_trod (enc' := bkC) (k := 4) (Q := fun _ => True) ht ce (by omega) bkC_len ⟨0, 0, 0, 0⟩ (fun cs x fuel hl h => by
    obtain ⟨r, hr⟩ := bk_trod he hF hl h
    exact ⟨r, hr, trivial⟩) hf
  exact ⟨A, c, l, by simpa [Value.cells] using hv, h1, h3⟩
end Go.Proofs.YtadcmngooobeiabGreat

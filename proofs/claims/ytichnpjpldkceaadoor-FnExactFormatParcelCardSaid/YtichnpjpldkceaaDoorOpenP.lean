/- A parcel by value, opened. -/
import Derived.Test.YtichnpjpldkceaaDoorParcel
import Derived.Test.YtichnpjpldkceaaDoorOpenI
import Derived.Deep.Fields
import Derived.ChangeSame
namespace Go.Proofs.YtichnpjpldkceaaDoor
open Go.ChangeShapes Go.WideShapes Go.ChangeAt Go.RowKit
structure Pq where
  a : Int
  b : Int
  t : ByteArray
  f : ByteArray
  wt : Int
  v : Int
/-- a parcel: a label in its first three cells, then a text, an int, a slice of ints, an int -/
theorem open_parcel {H : Type} {enc : TypeId × Value → H} {P : Program} {w : World} {b0 : Nat} {r : Reach} {tp tl ti : TypeId} {f0 f1 f2 f3 f4 l0 l1 l2 : Field} {v : Value} {d : DataW H} {p : List MemPlace}
    (hs : P.underlying tp = some (.struct #[f0, f1, f2, f3, f4])) (hC : P.cellsOf tp = 7)
    (o : f0.offset = 0 ∧ f1.offset = 3 ∧ f2.offset = 4 ∧ f3.offset = 5 ∧ f4.offset = 6)
    (c : P.cellsOf f0.type = 3 ∧ P.cellsOf f1.type = 1 ∧ P.cellsOf f2.type = 1 ∧ P.cellsOf f3.type = 1 ∧ P.cellsOf f4.type = 1)
    (h0 : f0.type = tl) (hl : P.underlying tl = some (.struct #[l0, l1, l2])) (ol : l0.offset = 0 ∧ l1.offset = 1 ∧ l2.offset = 2) (cl : P.cellsOf l0.type = 1 ∧ P.cellsOf l1.type = 1 ∧ P.cellsOf l2.type = 1)
    (u0 : P.underlying l0.type = some (.int .i64)) (u1 : P.underlying l1.type = some (.int .i64)) (u2 : P.underlying l2.type = some .string)
    (u3 : P.underlying f1.type = some .string) (u4 : P.underlying f2.type = some (.int .i64)) (u5 : P.underlying f3.type = some (.slice ti)) (u6 : P.underlying f4.type = some (.int .i64)) (ui : P.underlying ti = some (.int .i64)) (ci : P.cellsOf ti = 1)
    (hv : Value.okWide P w r b0 tp v) (h : DataW.Trod enc P w 0 (fun _ => true) true tp v d p) :
    ∃ (q : Pq) (A : Option Addr) (cap : Nat) (zs : List Int), v = .agg #[.int .i64 q.a, .int .i64 q.b, .string q.t, .string q.f, .int .i64 q.wt, .slice A zs.length cap, .int .i64 q.v] ∧ IntsRaw w A zs ∧ (q.t.size ≤ maxLen ∧ q.f.size ≤ maxLen ∧ zs.length ≤ maxLen) := by
  obtain ⟨cs, rfl, hsz⟩ := okWide_struct hs hv
  obtain ⟨l⟩ := cs
  match l, hsz.trans hC with
  | [x0, x1, x2, x3, x4, x5, x6], _ =>
    obtain ⟨fuel, hf⟩ := h
    obtain ⟨xs, n, _, hx, _, hlen, hg⟩ := DataW.trod_struct hs hf
    match xs, hlen with
    | [y0, y1, y2, y3, y4], _ =>
      have g0 := hg 0 f0 rfl
      have g1 := hg 1 f1 rfl
      have g2 := hg 2 f2 rfl
      have g3 := hg 3 f3 rfl
      have g4 := hg 4 f4 rfl
      rw [o.1, c.1, h0] at g0
      rw [o.2.1, c.2.1] at g1
      rw [o.2.2.1, c.2.2.1] at g2
      rw [o.2.2.2.1, c.2.2.2.1] at g3
      rw [o.2.2.2.2, c.2.2.2.2] at g4
      obtain ⟨zs', m, _, _, _, hlen', hg'⟩ := DataW.trod_struct hl g0
      match zs', hlen' with
      | [k0, k1, k2], _ =>
        have e0 := hg' 0 l0 rfl
        have e1 := hg' 1 l1 rfl
        have e2 := hg' 2 l2 rfl
        rw [ol.1, cl.1] at e0
        rw [ol.2.1, cl.2.1] at e1
        rw [ol.2.2, cl.2.2] at e2
        obtain ⟨a, ha, _⟩ := DataW.trod_int u0 e0
        obtain ⟨b, hb, _⟩ := DataW.trod_int u1 e1
        obtain ⟨t, ht, _, wt⟩ := DataW.trod_string u2 e2
        obtain ⟨f, hf', _, wf⟩ := DataW.trod_string u3 g1
        obtain ⟨gw, hgw, _⟩ := DataW.trod_int u4 g2
        obtain ⟨vv, hvv, _⟩ := DataW.trod_int u6 g4
        have q0 : x0 = .int .i64 a := by simpa [Value.cells] using ha
        have q1 : x1 = .int .i64 b := by simpa [Value.cells] using hb
        have q2 : x2 = .string t := by simpa [Value.cells] using ht
        have q3 : x3 = .string f := by simpa [Value.cells] using hf'
        have q4 : x4 = .int .i64 gw := by simpa [Value.cells] using hgw
        have q6 : x6 = .int .i64 vv := by simpa [Value.cells] using hvv
        subst q0 q1 q2 q3 q4 q6
        have g3' : DataW.trod enc P w 0 (fun _ => true) true n f3.type [x5] = some y3 := by simpa [Value.cells] using g3
        rcases open_ints u5 ui ci g3' with ⟨hcs, _⟩ | ⟨ad, len, cap, zs, hcs, _, hl', hm, hz, _, hcell, _⟩
        · simp only [List.cons.injEq, and_true] at hcs
          subst hcs
          exact ⟨⟨a, b, t, f, gw, vv⟩, none, 0, [], rfl, fun j hj => absurd hj (by simp), wt, wf, by unfold maxLen; simp⟩
        · simp only [List.cons.injEq, and_true] at hcs
          subst hcs
          simp only [if_true] at hz
          have hlen2 : (zs.take len).length = len := by rw [List.length_take]; omega
          refine ⟨⟨a, b, t, f, gw, vv⟩, some ad, cap, zs.take len, by rw [hlen2], fun j hj => ?_, wt, wf, by omega⟩
          have hcj := hcell j (by omega)
          refine ⟨ad, rfl, ?_, ?_⟩
          · rcases Nat.lt_or_ge ad.block w.heap.size with h | h
            · exact h
            · exfalso
              have : w.heap[(ad.add j).block]? = none := by rw [addr_block]; exact Array.getElem?_eq_none h
              simp [World.cell?, this] at hcj
          · rw [hcj]
            rw [List.getElem_take, List.getD_eq_getElem?_getD, List.getElem?_eq_getElem (by omega)]
            rfl
end Go.Proofs.YtichnpjpldkceaaDoor

/- Orders and worlds behind pointers. Written by mk/ordp.py. -/
import Derived.Test.YtadcmngooobeiabGreatWor
import Derived.Test.YtadcmngooobeiabGreatBd
import Derived.BigQuiet
namespace Go.Proofs.YtadcmngooobeiabGreat
open Go.RowKit
/-- an order in a row, where a pointer leads to -/
structure OrAt (W : World) (b o : Nat) (z : OrR) : Prop where
  lt : b < W.heap.size
  c0 : W.cell? ⟨b, o, none⟩ = some (.string z.f)
  c1 : W.cell? ⟨b, o + 1, none⟩ = some (.string z.t)
  c2 : W.cell? ⟨b, o + 2, none⟩ = some (.int .i64 z.s)
  c3 : W.cell? ⟨b, o + 3, none⟩ = some (.int .i64 z.m)
  c4 : W.cell? ⟨b, o + 4, none⟩ = some (.int .i64 z.a)
  c5 : W.cell? ⟨b, o + 5, none⟩ = some (.int .i64 z.u)
  c6 : W.cell? ⟨b, o + 6, none⟩ = some (.slice z.A z.h.length z.k)
  c7 : W.cell? ⟨b, o + 7, none⟩ = some (.int .i64 z.g)
  c8 : W.cell? ⟨b, o + 8, none⟩ = some (.int .i64 z.z)
  c9 : W.cell? ⟨b, o + 9, none⟩ = some (.string z.p)
  c10 : W.cell? ⟨b, o + 10, none⟩ = some (.int .i64 z.e)
  way : InK 2 tpC W z.A z.h
theorem OrAt.below {W W' : World} {b o : Nat} {z : OrR} (h : OrAt W b o z) (hb : Below W.heap.size W W') : OrAt W' b o z :=
  ⟨Nat.lt_of_lt_of_le h.lt hb.size, (hb.cell (p := ⟨b, o, none⟩) h.lt).trans h.c0, (hb.cell (p := ⟨b, o + 1, none⟩) h.lt).trans h.c1, (hb.cell (p := ⟨b, o + 2, none⟩) h.lt).trans h.c2, (hb.cell (p := ⟨b, o + 3, none⟩) h.lt).trans h.c3, (hb.cell (p := ⟨b, o + 4, none⟩) h.lt).trans h.c4, (hb.cell (p := ⟨b, o + 5, none⟩) h.lt).trans h.c5, (hb.cell (p := ⟨b, o + 6, none⟩) h.lt).trans h.c6, (hb.cell (p := ⟨b, o + 7, none⟩) h.lt).trans h.c7, (hb.cell (p := ⟨b, o + 8, none⟩) h.lt).trans h.c8, (hb.cell (p := ⟨b, o + 9, none⟩) h.lt).trans h.c9, (hb.cell (p := ⟨b, o + 10, none⟩) h.lt).trans h.c10, h.way.below hb⟩
theorem orAt_of {W : World} {A : Option Addr} {l : List OrR} (h : InK 11 orC W A l) (hw : ∀ z ∈ l, InK 2 tpC W z.A z.h) (j : Nat) (hj : j < l.length) : ∃ b, A = some ⟨b, 0, none⟩ ∧ OrAt W b (j * 11) l[j] := by
  obtain ⟨b, hA, hb, c0, c1, c2, c3, c4, c5, c6, c7, c8, c9, c10⟩ := h.or j hj
  exact ⟨b, hA, hb, c0, c1, c2, c3, c4, c5, c6, c7, c8, c9, c10, hw _ (List.getElem_mem hj)⟩
/-- a world in a box, where a pointer leads to -/
structure WoAt (W : World) (b : Nat) (x : Wp) : Prop where
  bx : Bx 42 W b [.slice x.A0 x.l.length x.k0, .slice x.A1 x.zs.length x.k1, .int .i64 x.c, .slice x.A2 x.os.length x.k2, .slice x.A3 x.bs.length x.k3, .slice x.A4 x.cs.length x.k4, .int .i64 x.n, .slice x.A5 x.ss.length x.k5, .slice x.A6 x.sk.length x.k6, .int .i64 x.m]
  i : WorIn W x
theorem WoAt.below {W W' : World} {b : Nat} {x : Wp} (h : WoAt W b x) (hb : Below W.heap.size W W') : WoAt W' b x := ⟨h.bx.below hb, h.i.below hb⟩
/-- the first trip to come -/
def comI (z : OrRD) : Int := if z.z = 2 then z.g + 1 else z.g
/-- the place behind so many trips -/
def ordPl (l : List Lg) (z : OrRD) : Nat → ByteArray
  | 0 => z.f
  | j + 1 => (lgAt l (z.h.getD j ⟨0, 0⟩).g).t
end Go.Proofs.YtadcmngooobeiabGreat

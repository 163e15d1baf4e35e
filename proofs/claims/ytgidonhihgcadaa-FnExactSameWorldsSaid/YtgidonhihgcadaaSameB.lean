/- Two worlds, equal in all their parts. Written by mk/same3.py. -/
import Derived.Test.YtgidonhihgcadaaSameO
namespace Go.Proofs.Ytgidonhihgcadaa
open Go.RowKit
def sameB (x y : Wd) : Bool := eqN x.l x.zs x.c y.l y.zs y.c && (eqL eqO x.os y.os && (eqL eqBk x.bs y.bs && (eqL eqTp x.cs y.cs && ((x.n == y.n) && (eqL eqSc x.ss y.ss && (eqL eqI x.sk y.sk && ((x.m == y.m))))))))
theorem sameB_of (x y : Wp) : sameB x.dat y.dat = (eqN x.l x.zs x.c y.l y.zs y.c && (eqL (fun x y : OrR => eqO x.d y.d) x.os y.os && (eqL eqBk x.bs y.bs && (eqL eqTp x.cs y.cs && ((x.n == y.n) && (eqL eqSc x.ss y.ss && (eqL eqI x.sk y.sk && ((x.m == y.m))))))))) := by
  unfold sameB Wp.dat
  dsimp only
  rw [eqL_map]
/-- two worlds in boxes of the call's own -/
structure Two2 (B : Nat) (w W : World) (x y : Wp) : Prop where
  p : Bx 42 W B [.slice x.A0 x.l.length x.k0, .slice x.A1 x.zs.length x.k1, .int .i64 x.c, .slice x.A2 x.os.length x.k2, .slice x.A3 x.bs.length x.k3, .slice x.A4 x.cs.length x.k4, .int .i64 x.n, .slice x.A5 x.ss.length x.k5, .slice x.A6 x.sk.length x.k6, .int .i64 x.m]
  q : Bx 42 W (B + 1) [.slice y.A0 y.l.length y.k0, .slice y.A1 y.zs.length y.k1, .int .i64 y.c, .slice y.A2 y.os.length y.k2, .slice y.A3 y.bs.length y.k3, .slice y.A4 y.cs.length y.k4, .int .i64 y.n, .slice y.A5 y.ss.length y.k5, .slice y.A6 y.sk.length y.k6, .int .i64 y.m]
  b : Below B w W
  z : B ≤ W.heap.size
  i : WorIn W x
  j : WorIn W y
theorem Two2.new (w : World) (x y : Wp) (hx : WorIn w x) (hy : WorIn w y) : Two2 w.heap.size w ((w.alloc (.cells ⟨[.slice x.A0 x.l.length x.k0, .slice x.A1 x.zs.length x.k1, .int .i64 x.c, .slice x.A2 x.os.length x.k2, .slice x.A3 x.bs.length x.k3, .slice x.A4 x.cs.length x.k4, .int .i64 x.n, .slice x.A5 x.ss.length x.k5, .slice x.A6 x.sk.length x.k6, .int .i64 x.m]⟩ 42)).alloc (.cells ⟨[.slice y.A0 y.l.length y.k0, .slice y.A1 y.zs.length y.k1, .int .i64 y.c, .slice y.A2 y.os.length y.k2, .slice y.A3 y.bs.length y.k3, .slice y.A4 y.cs.length y.k4, .int .i64 y.n, .slice y.A5 y.ss.length y.k5, .slice y.A6 y.sk.length y.k6, .int .i64 y.m]⟩ 42)) x y := by
  have hb0 := ((Below.refl w.heap.size w).alloc (Nat.le_refl _) (.cells ⟨[.slice x.A0 x.l.length x.k0, .slice x.A1 x.zs.length x.k1, .int .i64 x.c, .slice x.A2 x.os.length x.k2, .slice x.A3 x.bs.length x.k3, .slice x.A4 x.cs.length x.k4, .int .i64 x.n, .slice x.A5 x.ss.length x.k5, .slice x.A6 x.sk.length x.k6, .int .i64 x.m]⟩ 42)).alloc (by simp) (.cells ⟨[.slice y.A0 y.l.length y.k0, .slice y.A1 y.zs.length y.k1, .int .i64 y.c, .slice y.A2 y.os.length y.k2, .slice y.A3 y.bs.length y.k3, .slice y.A4 y.cs.length y.k4, .int .i64 y.n, .slice y.A5 y.ss.length y.k5, .slice y.A6 y.sk.length y.k6, .int .i64 y.m]⟩ 42)
  have e1 : (w.alloc (.cells ⟨[.slice x.A0 x.l.length x.k0, .slice x.A1 x.zs.length x.k1, .int .i64 x.c, .slice x.A2 x.os.length x.k2, .slice x.A3 x.bs.length x.k3, .slice x.A4 x.cs.length x.k4, .int .i64 x.n, .slice x.A5 x.ss.length x.k5, .slice x.A6 x.sk.length x.k6, .int .i64 x.m]⟩ 42)).heap.size = w.heap.size + 1 := by simp
  exact ⟨(Bx.new w _).alloc _, by rw [← e1]; exact Bx.new _ _, hb0, hb0.size, hx.below hb0, hy.below hb0⟩
theorem Two2.below {B : Nat} {w W W' : World} {x y : Wp} (h : Two2 B w W x y) (hb : Below W.heap.size W W') : Two2 B w W' x y :=
  ⟨h.p.below hb, h.q.below hb, h.b.trans (hb.mono h.z), Nat.le_trans h.z hb.size, h.i.below hb, h.j.below hb⟩
end Go.Proofs.Ytgidonhihgcadaa

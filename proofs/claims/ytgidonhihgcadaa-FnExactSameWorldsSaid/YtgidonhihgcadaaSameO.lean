/- Orders compared, and networks. Written by mk/same2.py. -/
import Derived.Test.YtgidonhihgcadaaSameR
namespace Go.Proofs.Ytgidonhihgcadaa
open Go.RowKit
def eqO (x y : OrRD) : Bool := (x.f.toList == y.f.toList) && ((x.t.toList == y.t.toList) && ((x.s == y.s) && ((x.m == y.m) && ((x.a == y.a) && ((x.u == y.u) && (eqL eqTp x.h y.h && ((x.g == y.g) && ((x.z == y.z) && ((x.p.toList == y.p.toList) && ((x.e == y.e)))))))))))
def eqN (l0 : List Lg) (z0 : List Int) (x0 : Int) (l1 : List Lg) (z1 : List Int) (x1 : Int) : Bool := eqL eqLg l0 l1 && (eqL eqI z0 z1 && (x0 == x1))
set_option maxRecDepth 100000 in
set_option maxHeartbeats 4000000 in
theorem same_net (A0 : Option Addr) (ca0 : Nat) (l0 : List Lg) (D0 : Option Addr) (cd0 : Nat) (z0 : List Int) (x0 : Int) (A1 : Option Addr) (ca1 : Nat) (l1 : List Lg) (D1 : Option Addr) (cd1 : Nat) (z1 : List Int) (x1 : Int) (w : World) (hA : InK 6 lgC w A0 l0) (hD : IntsIn w D0 z0) (hA' : InK 6 lgC w A1 l1) (hD' : IntsIn w D1 z1) (hn : l0.length ≤ 1048576) (hm : z0.length ≤ 1048576) :
    Calls Try.prog 33 #[.agg #[.slice A0 l0.length ca0, .slice D0 z0.length cd0, .int .i64 x0], .agg #[.slice A1 l1.length ca1, .slice D1 z1.length cd1, .int .i64 x1]] w fun e w' => e = .returned (.bool (eqN l0 z0 x0 l1 z1 x1)) ∧ Below w.heap.size w w' := by
  have H2 := two w (.cells #[.slice A0 l0.length ca0, .slice D0 z0.length cd0, .int .i64 x0] 36) (.cells #[.slice A1 l1.length ca1, .slice D1 z1.length cd1, .int .i64 x1] 36)
  have hb0 := H2.2.2.1
  have H0 := Lib.hid (And.intro (show Box3 36 _ w.heap.size _ _ _ from H2.1) (And.intro (show Box3 36 _ (w.heap.size + 1) _ _ _ from H2.2.1) (And.intro hb0 (And.intro (hA.below hb0) (And.intro (hD.below hb0) (And.intro (hA'.below hb0) (hD'.below hb0)))))))
  have HV := Lib.hid (show eqN l0 z0 x0 l1 z1 x1 = (eqL eqLg l0 l1 && (eqL eqI z0 z1 && (x0 == x1))) from rfl)
  have hbz : w.heap.size ≤ _ := hb0.size
  clear hA hA' hD hD' hb0 H2
  go_enter Try.func33, Try.ntmps33
  go_wp2_with fail
  generalize hB : w.heap.size = B0 at *
  have HBE := Lib.hid hB; clear hB
  generalize (w.alloc (.cells #[.slice A0 l0.length ca0, .slice D0 z0.length cd0, .int .i64 x0] 36)).alloc (.cells #[.slice A1 l1.length ca1, .slice D1 z1.length cd1, .int .i64 x1] 36) = W at *
  refine (equal_lg A0 A1 ca0 ca1 l0 l1 W H0.out.2.2.2.1 H0.out.2.2.2.2.2.1 hn).mono ?_; rintro e w1 ⟨rfl, hb⟩
  replace H0 := Lib.hid (And.intro (H0.out.1.below hb) (And.intro (H0.out.2.1.below hb) (And.intro (H0.out.2.2.1.trans (hb.mono hbz)) (And.intro (H0.out.2.2.2.2.1.below hb) (H0.out.2.2.2.2.2.2.below hb)))))
  replace hbz := Nat.le_trans hbz hb.size
  clear hb
  obtain ⟨c0_, c1_, c2_⟩ := H0.out.1.cells
  obtain ⟨d0_, d1_, d2_⟩ := H0.out.2.1.cells
  cases h0 : eqL eqLg l0 l1 with
  | false =>
    have HVF := Lib.hid (HV.out.trans (show _ = false by rw [h0]; rfl))
    go_wp2
    go_ret
    exact ⟨ret_bool HVF.out.symm, by rw [HBE.out]; exact H0.out.2.2.1⟩
  | true =>
    go_wp2_with fail
    refine (equal_i D0 D1 cd0 cd1 z0 z1 w1 H0.out.2.2.2.1 H0.out.2.2.2.2 hm).mono ?_; rintro e w2 ⟨rfl, hb⟩
    replace H0 := Lib.hid (And.intro (H0.out.1.below hb) (And.intro (H0.out.2.1.below hb) (H0.out.2.2.1.trans (hb.mono hbz))))
    clear hb c0_ c1_ c2_ d0_ d1_ d2_
    obtain ⟨c0_, c1_, c2_⟩ := H0.out.1.cells
    obtain ⟨d0_, d1_, d2_⟩ := H0.out.2.1.cells
    cases h1 : eqL eqI z0 z1 with
    | false =>
      have HVF := Lib.hid (HV.out.trans (show _ = false by rw [h0, h1]; rfl))
      go_wp2
      go_ret
      exact ⟨ret_bool HVF.out.symm, by rw [HBE.out]; exact H0.out.2.2⟩
    | true =>
      cases h2 : (x0 == x1) with
      | false =>
        have HVF := Lib.hid (HV.out.trans (show _ = false by rw [h0, h1, h2]; rfl))
        go_wp2
        go_ret
        exact ⟨ret_bool HVF.out.symm, by rw [HBE.out]; exact H0.out.2.2⟩
      | true =>
        have HVF := Lib.hid (HV.out.trans (show _ = true by rw [h0, h1, h2]; rfl))
        go_wp2
        go_ret
        exact ⟨ret_bool HVF.out.symm, by rw [HBE.out]; exact H0.out.2.2⟩
end Go.Proofs.Ytgidonhihgcadaa

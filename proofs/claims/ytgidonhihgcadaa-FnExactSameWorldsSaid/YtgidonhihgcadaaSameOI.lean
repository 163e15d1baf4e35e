/- Orders compared by the program. Written by mk/same2.py. -/
import Derived.Test.YtgidonhihgcadaaSameO
namespace Go.Proofs.Ytgidonhihgcadaa
open Go.RowKit
set_option maxRecDepth 100000 in
set_option maxHeartbeats 4000000 in
theorem same_or (x y : OrR) (w : World) (hA : InK 2 tpC w x.A x.h) (hB : InK 2 tpC w y.A y.h) (hn : x.h.length ≤ 1048576) :
    Calls Try.prog 35 #[.agg #[.string x.f, .string x.t, .int .i64 x.s, .int .i64 x.m, .int .i64 x.a, .int .i64 x.u, .slice x.A x.h.length x.k, .int .i64 x.g, .int .i64 x.z, .string x.p, .int .i64 x.e], .agg #[.string y.f, .string y.t, .int .i64 y.s, .int .i64 y.m, .int .i64 y.a, .int .i64 y.u, .slice y.A y.h.length y.k, .int .i64 y.g, .int .i64 y.z, .string y.p, .int .i64 y.e]] w fun e w' => e = .returned (.bool (eqO x.d y.d)) ∧ Below w.heap.size w w' := by
  let C1 : Obj := .cells ⟨[.string x.f, .string x.t, .int .i64 x.s, .int .i64 x.m, .int .i64 x.a, .int .i64 x.u, .slice x.A x.h.length x.k, .int .i64 x.g, .int .i64 x.z, .string x.p, .int .i64 x.e]⟩ 54
  let C2 : Obj := .cells ⟨[.string y.f, .string y.t, .int .i64 y.s, .int .i64 y.m, .int .i64 y.a, .int .i64 y.u, .slice y.A y.h.length y.k, .int .i64 y.g, .int .i64 y.z, .string y.p, .int .i64 y.e]⟩ 54
  have HV := Lib.hid (show eqO x.d y.d = ((x.f.toList == y.f.toList) && ((x.t.toList == y.t.toList) && ((x.s == y.s) && ((x.m == y.m) && ((x.a == y.a) && ((x.u == y.u) && (eqL eqTp x.h y.h && ((x.g == y.g) && ((x.z == y.z) && ((x.p.toList == y.p.toList) && ((x.e == y.e)))))))))))) from rfl)
  have e1 : (w.alloc C1).heap.size = w.heap.size + 1 := by simp
  have x1 : Bx 54 ((w.alloc C1).alloc C2) w.heap.size [.string x.f, .string x.t, .int .i64 x.s, .int .i64 x.m, .int .i64 x.a, .int .i64 x.u, .slice x.A x.h.length x.k, .int .i64 x.g, .int .i64 x.z, .string x.p, .int .i64 x.e] := (Bx.new w _).alloc C2
  have x2 : Bx 54 ((w.alloc C1).alloc C2) (w.heap.size + 1) [.string y.f, .string y.t, .int .i64 y.s, .int .i64 y.m, .int .i64 y.a, .int .i64 y.u, .slice y.A y.h.length y.k, .int .i64 y.g, .int .i64 y.z, .string y.p, .int .i64 y.e] := by rw [← e1]; exact Bx.new (w.alloc C1) _
  have hb0 : Below w.heap.size w ((w.alloc C1).alloc C2) := ((Below.refl _ _).alloc (Nat.le_refl _) C1).alloc (by simp) C2
  have H0 := Lib.hid (And.intro x1 (And.intro x2 (And.intro hb0 (And.intro (hA.below hb0) (hB.below hb0)))))
  clear hA hB x1 x2 hb0 e1
  cases h0 : (x.f.toList == y.f.toList) with
  | false =>
    have HVF := Lib.hid (HV.out.trans (show _ = false by rw [h0]; simp only [Bool.false_and]))
    clear HV
    go_enter Try.func35, Try.ntmps35
    simp only [List.append_eq, List.cons_append, List.nil_append]
    go_wp2
    go_ret
    exact ⟨ret_bool HVF.out.symm, H0.out.2.2.1⟩
  | true =>
  cases h1 : (x.t.toList == y.t.toList) with
  | false =>
    have HVF := Lib.hid (HV.out.trans (show _ = false by rw [h1]; simp only [Bool.and_false, Bool.false_and]))
    clear HV
    go_enter Try.func35, Try.ntmps35
    simp only [List.append_eq, List.cons_append, List.nil_append]
    go_wp2
    go_ret
    exact ⟨ret_bool HVF.out.symm, H0.out.2.2.1⟩
  | true =>
  cases h2 : (x.s == y.s) with
  | false =>
    have HVF := Lib.hid (HV.out.trans (show _ = false by rw [h2]; simp only [Bool.and_false, Bool.false_and]))
    clear HV
    go_enter Try.func35, Try.ntmps35
    simp only [List.append_eq, List.cons_append, List.nil_append]
    go_wp2
    go_ret
    exact ⟨ret_bool HVF.out.symm, H0.out.2.2.1⟩
  | true =>
  cases h3 : (x.m == y.m) with
  | false =>
    have HVF := Lib.hid (HV.out.trans (show _ = false by rw [h3]; simp only [Bool.and_false, Bool.false_and]))
    clear HV
    go_enter Try.func35, Try.ntmps35
    simp only [List.append_eq, List.cons_append, List.nil_append]
    go_wp2
    go_ret
    exact ⟨ret_bool HVF.out.symm, H0.out.2.2.1⟩
  | true =>
  cases h4 : (x.a == y.a) with
  | false =>
    have HVF := Lib.hid (HV.out.trans (show _ = false by rw [h4]; simp only [Bool.and_false, Bool.false_and]))
    clear HV
    go_enter Try.func35, Try.ntmps35
    simp only [List.append_eq, List.cons_append, List.nil_append]
    go_wp2
    go_ret
    exact ⟨ret_bool HVF.out.symm, H0.out.2.2.1⟩
  | true =>
  cases h5 : (x.u == y.u) with
  | false =>
    have HVF := Lib.hid (HV.out.trans (show _ = false by rw [h5]; simp only [Bool.and_false, Bool.false_and]))
    clear HV
    go_enter Try.func35, Try.ntmps35
    simp only [List.append_eq, List.cons_append, List.nil_append]
    go_wp2
    go_ret
    exact ⟨ret_bool HVF.out.symm, H0.out.2.2.1⟩
  | true =>
  cases h6 : eqL eqTp x.h y.h with
  | false =>
    have HVF := Lib.hid (HV.out.trans (show _ = false by rw [h6]; simp only [Bool.and_false, Bool.false_and]))
    clear HV
    go_enter Try.func35, Try.ntmps35
    simp only [List.append_eq, List.cons_append, List.nil_append]
    go_wp2_with fail
    generalize hB : w.heap.size = B0 at *
    have HBE := Lib.hid hB; clear hB
    change Hid (Bx 54 ((w.alloc C1).alloc C2) B0 [.string x.f, .string x.t, .int .i64 x.s, .int .i64 x.m, .int .i64 x.a, .int .i64 x.u, .slice x.A x.h.length x.k, .int .i64 x.g, .int .i64 x.z, .string x.p, .int .i64 x.e] ∧ Bx 54 ((w.alloc C1).alloc C2) (B0 + 1) [.string y.f, .string y.t, .int .i64 y.s, .int .i64 y.m, .int .i64 y.a, .int .i64 y.u, .slice y.A y.h.length y.k, .int .i64 y.g, .int .i64 y.z, .string y.p, .int .i64 y.e] ∧ Below B0 w ((w.alloc C1).alloc C2) ∧ InK 2 tpC ((w.alloc C1).alloc C2) x.A x.h ∧ InK 2 tpC ((w.alloc C1).alloc C2) y.A y.h) at H0
    change Calls _ _ _ ((w.alloc C1).alloc C2) _
    have hbz : B0 ≤ ((w.alloc C1).alloc C2).heap.size := by rw [← HBE.out]; simp; omega
    generalize (w.alloc C1).alloc C2 = W at *
    refine (equal_tp x.A y.A x.k y.k x.h y.h W H0.out.2.2.2.1 H0.out.2.2.2.2 hn).mono ?_; rintro e w1 ⟨rfl, hb⟩
    replace H0 := Lib.hid (And.intro (H0.out.1.below hb) (And.intro (H0.out.2.1.below hb) (H0.out.2.2.1.trans (hb.mono hbz))))
    obtain ⟨c0_, c1_, c2_, c3_, c4_, c5_, c6_, c7_, c8_, c9_, c10_⟩ := H0.out.1.c11
    obtain ⟨d0_, d1_, d2_, d3_, d4_, d5_, d6_, d7_, d8_, d9_, d10_⟩ := H0.out.2.1.c11
    clear hb hbz
    go_wp2
    go_ret
    exact ⟨ret_bool HVF.out.symm, by rw [HBE.out]; exact H0.out.2.2⟩
  | true =>
  cases h7 : (x.g == y.g) with
  | false =>
    have HVF := Lib.hid (HV.out.trans (show _ = false by rw [h7]; simp only [Bool.and_false, Bool.false_and]))
    clear HV
    go_enter Try.func35, Try.ntmps35
    simp only [List.append_eq, List.cons_append, List.nil_append]
    go_wp2_with fail
    generalize hB : w.heap.size = B0 at *
    have HBE := Lib.hid hB; clear hB
    change Hid (Bx 54 ((w.alloc C1).alloc C2) B0 [.string x.f, .string x.t, .int .i64 x.s, .int .i64 x.m, .int .i64 x.a, .int .i64 x.u, .slice x.A x.h.length x.k, .int .i64 x.g, .int .i64 x.z, .string x.p, .int .i64 x.e] ∧ Bx 54 ((w.alloc C1).alloc C2) (B0 + 1) [.string y.f, .string y.t, .int .i64 y.s, .int .i64 y.m, .int .i64 y.a, .int .i64 y.u, .slice y.A y.h.length y.k, .int .i64 y.g, .int .i64 y.z, .string y.p, .int .i64 y.e] ∧ Below B0 w ((w.alloc C1).alloc C2) ∧ InK 2 tpC ((w.alloc C1).alloc C2) x.A x.h ∧ InK 2 tpC ((w.alloc C1).alloc C2) y.A y.h) at H0
    change Calls _ _ _ ((w.alloc C1).alloc C2) _
    have hbz : B0 ≤ ((w.alloc C1).alloc C2).heap.size := by rw [← HBE.out]; simp; omega
    generalize (w.alloc C1).alloc C2 = W at *
    refine (equal_tp x.A y.A x.k y.k x.h y.h W H0.out.2.2.2.1 H0.out.2.2.2.2 hn).mono ?_; rintro e w1 ⟨rfl, hb⟩
    replace H0 := Lib.hid (And.intro (H0.out.1.below hb) (And.intro (H0.out.2.1.below hb) (H0.out.2.2.1.trans (hb.mono hbz))))
    obtain ⟨c0_, c1_, c2_, c3_, c4_, c5_, c6_, c7_, c8_, c9_, c10_⟩ := H0.out.1.c11
    obtain ⟨d0_, d1_, d2_, d3_, d4_, d5_, d6_, d7_, d8_, d9_, d10_⟩ := H0.out.2.1.c11
    clear hb hbz
    go_wp2
    go_ret
    exact ⟨ret_bool HVF.out.symm, by rw [HBE.out]; exact H0.out.2.2⟩
  | true =>
  cases h8 : (x.z == y.z) with
  | false =>
    have HVF := Lib.hid (HV.out.trans (show _ = false by rw [h8]; simp only [Bool.and_false, Bool.false_and]))
    clear HV
    go_enter Try.func35, Try.ntmps35
    simp only [List.append_eq, List.cons_append, List.nil_append]
    go_wp2_with fail
    generalize hB : w.heap.size = B0 at *
    have HBE := Lib.hid hB; clear hB
    change Hid (Bx 54 ((w.alloc C1).alloc C2) B0 [.string x.f, .string x.t, .int .i64 x.s, .int .i64 x.m, .int .i64 x.a, .int .i64 x.u, .slice x.A x.h.length x.k, .int .i64 x.g, .int .i64 x.z, .string x.p, .int .i64 x.e] ∧ Bx 54 ((w.alloc C1).alloc C2) (B0 + 1) [.string y.f, .string y.t, .int .i64 y.s, .int .i64 y.m, .int .i64 y.a, .int .i64 y.u, .slice y.A y.h.length y.k, .int .i64 y.g, .int .i64 y.z, .string y.p, .int .i64 y.e] ∧ Below B0 w ((w.alloc C1).alloc C2) ∧ InK 2 tpC ((w.alloc C1).alloc C2) x.A x.h ∧ InK 2 tpC ((w.alloc C1).alloc C2) y.A y.h) at H0
    change Calls _ _ _ ((w.alloc C1).alloc C2) _
    have hbz : B0 ≤ ((w.alloc C1).alloc C2).heap.size := by rw [← HBE.out]; simp; omega
    generalize (w.alloc C1).alloc C2 = W at *
    refine (equal_tp x.A y.A x.k y.k x.h y.h W H0.out.2.2.2.1 H0.out.2.2.2.2 hn).mono ?_; rintro e w1 ⟨rfl, hb⟩
    replace H0 := Lib.hid (And.intro (H0.out.1.below hb) (And.intro (H0.out.2.1.below hb) (H0.out.2.2.1.trans (hb.mono hbz))))
    obtain ⟨c0_, c1_, c2_, c3_, c4_, c5_, c6_, c7_, c8_, c9_, c10_⟩ := H0.out.1.c11
    obtain ⟨d0_, d1_, d2_, d3_, d4_, d5_, d6_, d7_, d8_, d9_, d10_⟩ := H0.out.2.1.c11
    clear hb hbz
    go_wp2
    go_ret
    exact ⟨ret_bool HVF.out.symm, by rw [HBE.out]; exact H0.out.2.2⟩
  | true =>
  cases h9 : (x.p.toList == y.p.toList) with
  | false =>
    have HVF := Lib.hid (HV.out.trans (show _ = false by rw [h9]; simp only [Bool.and_false, Bool.false_and]))
    clear HV
    go_enter Try.func35, Try.ntmps35
    simp only [List.append_eq, List.cons_append, List.nil_append]
    go_wp2_with fail
    generalize hB : w.heap.size = B0 at *
    have HBE := Lib.hid hB; clear hB
    change Hid (Bx 54 ((w.alloc C1).alloc C2) B0 [.string x.f, .string x.t, .int .i64 x.s, .int .i64 x.m, .int .i64 x.a, .int .i64 x.u, .slice x.A x.h.length x.k, .int .i64 x.g, .int .i64 x.z, .string x.p, .int .i64 x.e] ∧ Bx 54 ((w.alloc C1).alloc C2) (B0 + 1) [.string y.f, .string y.t, .int .i64 y.s, .int .i64 y.m, .int .i64 y.a, .int .i64 y.u, .slice y.A y.h.length y.k, .int .i64 y.g, .int .i64 y.z, .string y.p, .int .i64 y.e] ∧ Below B0 w ((w.alloc C1).alloc C2) ∧ InK 2 tpC ((w.alloc C1).alloc C2) x.A x.h ∧ InK 2 tpC ((w.alloc C1).alloc C2) y.A y.h) at H0
    change Calls _ _ _ ((w.alloc C1).alloc C2) _
    have hbz : B0 ≤ ((w.alloc C1).alloc C2).heap.size := by rw [← HBE.out]; simp; omega
    generalize (w.alloc C1).alloc C2 = W at *
    refine (equal_tp x.A y.A x.k y.k x.h y.h W H0.out.2.2.2.1 H0.out.2.2.2.2 hn).mono ?_; rintro e w1 ⟨rfl, hb⟩
    replace H0 := Lib.hid (And.intro (H0.out.1.below hb) (And.intro (H0.out.2.1.below hb) (H0.out.2.2.1.trans (hb.mono hbz))))
    obtain ⟨c0_, c1_, c2_, c3_, c4_, c5_, c6_, c7_, c8_, c9_, c10_⟩ := H0.out.1.c11
    obtain ⟨d0_, d1_, d2_, d3_, d4_, d5_, d6_, d7_, d8_, d9_, d10_⟩ := H0.out.2.1.c11
    clear hb hbz
    go_wp2
    go_ret
    exact ⟨ret_bool HVF.out.symm, by rw [HBE.out]; exact H0.out.2.2⟩
  | true =>
  cases h10 : (x.e == y.e) with
  | false =>
    have HVF := Lib.hid (HV.out.trans (show _ = false by rw [h10]; simp only [Bool.and_false]))
    clear HV
    go_enter Try.func35, Try.ntmps35
    simp only [List.append_eq, List.cons_append, List.nil_append]
    go_wp2_with fail
    generalize hB : w.heap.size = B0 at *
    have HBE := Lib.hid hB; clear hB
    change Hid (Bx 54 ((w.alloc C1).alloc C2) B0 [.string x.f, .string x.t, .int .i64 x.s, .int .i64 x.m, .int .i64 x.a, .int .i64 x.u, .slice x.A x.h.length x.k, .int .i64 x.g, .int .i64 x.z, .string x.p, .int .i64 x.e] ∧ Bx 54 ((w.alloc C1).alloc C2) (B0 + 1) [.string y.f, .string y.t, .int .i64 y.s, .int .i64 y.m, .int .i64 y.a, .int .i64 y.u, .slice y.A y.h.length y.k, .int .i64 y.g, .int .i64 y.z, .string y.p, .int .i64 y.e] ∧ Below B0 w ((w.alloc C1).alloc C2) ∧ InK 2 tpC ((w.alloc C1).alloc C2) x.A x.h ∧ InK 2 tpC ((w.alloc C1).alloc C2) y.A y.h) at H0
    change Calls _ _ _ ((w.alloc C1).alloc C2) _
    have hbz : B0 ≤ ((w.alloc C1).alloc C2).heap.size := by rw [← HBE.out]; simp; omega
    generalize (w.alloc C1).alloc C2 = W at *
    refine (equal_tp x.A y.A x.k y.k x.h y.h W H0.out.2.2.2.1 H0.out.2.2.2.2 hn).mono ?_; rintro e w1 ⟨rfl, hb⟩
    replace H0 := Lib.hid (And.intro (H0.out.1.below hb) (And.intro (H0.out.2.1.below hb) (H0.out.2.2.1.trans (hb.mono hbz))))
    obtain ⟨c0_, c1_, c2_, c3_, c4_, c5_, c6_, c7_, c8_, c9_, c10_⟩ := H0.out.1.c11
    obtain ⟨d0_, d1_, d2_, d3_, d4_, d5_, d6_, d7_, d8_, d9_, d10_⟩ := H0.out.2.1.c11
    clear hb hbz
    go_wp2
    go_ret
    exact ⟨ret_bool HVF.out.symm, by rw [HBE.out]; exact H0.out.2.2⟩
  | true =>
    have HVF := Lib.hid (HV.out.trans (show _ = true by rw [h0, h1, h2, h3, h4, h5, h6, h7, h8, h9, h10]; rfl))
    clear HV
    go_enter Try.func35, Try.ntmps35
    simp only [List.append_eq, List.cons_append, List.nil_append]
    go_wp2_with fail
    generalize hB : w.heap.size = B0 at *
    have HBE := Lib.hid hB; clear hB
    change Hid (Bx 54 ((w.alloc C1).alloc C2) B0 [.string x.f, .string x.t, .int .i64 x.s, .int .i64 x.m, .int .i64 x.a, .int .i64 x.u, .slice x.A x.h.length x.k, .int .i64 x.g, .int .i64 x.z, .string x.p, .int .i64 x.e] ∧ Bx 54 ((w.alloc C1).alloc C2) (B0 + 1) [.string y.f, .string y.t, .int .i64 y.s, .int .i64 y.m, .int .i64 y.a, .int .i64 y.u, .slice y.A y.h.length y.k, .int .i64 y.g, .int .i64 y.z, .string y.p, .int .i64 y.e] ∧ Below B0 w ((w.alloc C1).alloc C2) ∧ InK 2 tpC ((w.alloc C1).alloc C2) x.A x.h ∧ InK 2 tpC ((w.alloc C1).alloc C2) y.A y.h) at H0
    change Calls _ _ _ ((w.alloc C1).alloc C2) _
    have hbz : B0 ≤ ((w.alloc C1).alloc C2).heap.size := by rw [← HBE.out]; simp; omega
    generalize (w.alloc C1).alloc C2 = W at *
    refine (equal_tp x.A y.A x.k y.k x.h y.h W H0.out.2.2.2.1 H0.out.2.2.2.2 hn).mono ?_; rintro e w1 ⟨rfl, hb⟩
    replace H0 := Lib.hid (And.intro (H0.out.1.below hb) (And.intro (H0.out.2.1.below hb) (H0.out.2.2.1.trans (hb.mono hbz))))
    obtain ⟨c0_, c1_, c2_, c3_, c4_, c5_, c6_, c7_, c8_, c9_, c10_⟩ := H0.out.1.c11
    obtain ⟨d0_, d1_, d2_, d3_, d4_, d5_, d6_, d7_, d8_, d9_, d10_⟩ := H0.out.2.1.c11
    clear hb hbz
    go_wp2
    go_ret
    exact ⟨ret_bool HVF.out.symm, by rw [HBE.out]; exact H0.out.2.2⟩
end Go.Proofs.Ytgidonhihgcadaa

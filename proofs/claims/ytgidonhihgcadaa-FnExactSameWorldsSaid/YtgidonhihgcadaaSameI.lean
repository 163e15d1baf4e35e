/- The program's SameWorlds. Written by mk/same3.py. -/
import Derived.Test.YtgidonhihgcadaaSameB
import Derived.Test.YtgidonhihgcadaaSameF
namespace Go.Proofs.Ytgidonhihgcadaa
open Go.RowKit
set_option maxRecDepth 100000 in
set_option maxHeartbeats 16000000 in
theorem same_impl (x y : Wp) (w : World) (hR : WorIn w x) (hS : WorIn w y) (hz : WorSz x) (_ : WorSz y) :
    Calls Try.prog 11 #[worV x, worV y] w fun e w' => e = .returned (.bool (sameB x.dat y.dat)) ∧ Below w.heap.size w w' := by
  dsimp only [worV]
  have HV := Lib.hid (sameB_of x y)
  have HZ := Lib.hid hz; clear hz
  have H0 := Lib.hid (Two2.new w x y hR hS); clear hR hS
  generalize sameB x.dat y.dat = V at *
  generalize hB : w.heap.size = B at *
  have HBE := Lib.hid hB
  have hcx := H0.out.p.c10
  have hcy := H0.out.q.c10
  obtain ⟨c0_, c1_, c2_, c3_, c4_, c5_, c6_, c7_, c8_, c9_⟩ := hcx
  obtain ⟨d0_, d1_, d2_, d3_, d4_, d5_, d6_, d7_, d8_, d9_⟩ := hcy
  go_enter Try.func11, Try.ntmps11
  go_wp2_with fail
  clear hB
  clear c0_ c1_ c2_ c3_ c4_ c5_ c6_ c7_ c8_ c9_ d0_ d1_ d2_ d3_ d4_ d5_ d6_ d7_ d8_ d9_
  generalize (w.alloc (.cells ⟨[.slice x.A0 x.l.length x.k0, .slice x.A1 x.zs.length x.k1, .int .i64 x.c, .slice x.A2 x.os.length x.k2, .slice x.A3 x.bs.length x.k3, .slice x.A4 x.cs.length x.k4, .int .i64 x.n, .slice x.A5 x.ss.length x.k5, .slice x.A6 x.sk.length x.k6, .int .i64 x.m]⟩ 42)).alloc (.cells ⟨[.slice y.A0 y.l.length y.k0, .slice y.A1 y.zs.length y.k1, .int .i64 y.c, .slice y.A2 y.os.length y.k2, .slice y.A3 y.bs.length y.k3, .slice y.A4 y.cs.length y.k4, .int .i64 y.n, .slice y.A5 y.ss.length y.k5, .slice y.A6 y.sk.length y.k6, .int .i64 y.m]⟩ 42) = W at *
  refine (same_net x.A0 x.k0 x.l x.A1 x.k1 x.zs x.c y.A0 y.k0 y.l y.A1 y.k1 y.zs y.c W H0.out.i.l H0.out.i.zs H0.out.j.l H0.out.j.zs HZ.out.l HZ.out.zs).mono ?_; rintro e w1 ⟨rfl, hb⟩
  replace H0 := Lib.hid (H0.out.below hb); clear hb
  obtain ⟨c0_, c1_, c2_, c3_, c4_, c5_, c6_, c7_, c8_, c9_⟩ := H0.out.p.c10
  obtain ⟨d0_, d1_, d2_, d3_, d4_, d5_, d6_, d7_, d8_, d9_⟩ := H0.out.q.c10
  cases h0 : eqN x.l x.zs x.c y.l y.zs y.c with
  | false =>
    have HVF := Lib.hid (HV.out.trans (show _ = false by rw [h0]; simp only [Bool.false_and]))
    go_wp2
    go_ret
    exact ⟨ret_bool HVF.out.symm, by first | exact H0.out.b | (rw [HBE.out]; exact H0.out.b)⟩
  | true =>
    go_wp2_with fail
    clear c0_ c1_ c2_ c3_ c4_ c5_ c6_ c7_ c8_ c9_ d0_ d1_ d2_ d3_ d4_ d5_ d6_ d7_ d8_ d9_
    refine (equalF x.A2 y.A2 x.k2 y.k2 x.os y.os w1 H0.out.i.os H0.out.j.os H0.out.i.way H0.out.j.way HZ.out.way HZ.out.os).mono ?_; rintro e w2 ⟨rfl, hb⟩
    replace H0 := Lib.hid (H0.out.below hb); clear hb
    obtain ⟨c0_, c1_, c2_, c3_, c4_, c5_, c6_, c7_, c8_, c9_⟩ := H0.out.p.c10
    obtain ⟨d0_, d1_, d2_, d3_, d4_, d5_, d6_, d7_, d8_, d9_⟩ := H0.out.q.c10
    cases h1 : eqL (fun x y : OrR => eqO x.d y.d) x.os y.os with
    | false =>
      have HVF := Lib.hid (HV.out.trans (show _ = false by rw [h1]; simp only [Bool.and_false, Bool.false_and]))
      go_wp2
      go_ret
      exact ⟨ret_bool HVF.out.symm, by first | exact H0.out.b | (rw [HBE.out]; exact H0.out.b)⟩
    | true =>
      go_wp2_with fail
      clear c0_ c1_ c2_ c3_ c4_ c5_ c6_ c7_ c8_ c9_ d0_ d1_ d2_ d3_ d4_ d5_ d6_ d7_ d8_ d9_
      refine (equal_bk x.A3 y.A3 x.k3 y.k3 x.bs y.bs w2 H0.out.i.bs H0.out.j.bs HZ.out.bs).mono ?_; rintro e w3 ⟨rfl, hb⟩
      replace H0 := Lib.hid (H0.out.below hb); clear hb
      obtain ⟨c0_, c1_, c2_, c3_, c4_, c5_, c6_, c7_, c8_, c9_⟩ := H0.out.p.c10
      obtain ⟨d0_, d1_, d2_, d3_, d4_, d5_, d6_, d7_, d8_, d9_⟩ := H0.out.q.c10
      cases h2 : eqL eqBk x.bs y.bs with
      | false =>
        have HVF := Lib.hid (HV.out.trans (show _ = false by rw [h2]; simp only [Bool.and_false, Bool.false_and]))
        go_wp2
        go_ret
        exact ⟨ret_bool HVF.out.symm, by first | exact H0.out.b | (rw [HBE.out]; exact H0.out.b)⟩
      | true =>
        go_wp2_with fail
        clear c0_ c1_ c2_ c3_ c4_ c5_ c6_ c7_ c8_ c9_ d0_ d1_ d2_ d3_ d4_ d5_ d6_ d7_ d8_ d9_
        refine (equal_tp x.A4 y.A4 x.k4 y.k4 x.cs y.cs w3 H0.out.i.cs H0.out.j.cs HZ.out.cs).mono ?_; rintro e w4 ⟨rfl, hb⟩
        replace H0 := Lib.hid (H0.out.below hb); clear hb
        obtain ⟨c0_, c1_, c2_, c3_, c4_, c5_, c6_, c7_, c8_, c9_⟩ := H0.out.p.c10
        obtain ⟨d0_, d1_, d2_, d3_, d4_, d5_, d6_, d7_, d8_, d9_⟩ := H0.out.q.c10
        cases h3 : eqL eqTp x.cs y.cs with
        | false =>
          have HVF := Lib.hid (HV.out.trans (show _ = false by rw [h3]; simp only [Bool.and_false, Bool.false_and]))
          go_wp2
          go_ret
          exact ⟨ret_bool HVF.out.symm, by first | exact H0.out.b | (rw [HBE.out]; exact H0.out.b)⟩
        | true =>
          cases h4 : (x.n == y.n) with
          | false =>
            have HVF := Lib.hid (HV.out.trans (show _ = false by rw [h4]; simp only [Bool.and_false, Bool.false_and]))
            go_wp2
            go_ret
            exact ⟨ret_bool HVF.out.symm, by first | exact H0.out.b | (rw [HBE.out]; exact H0.out.b)⟩
          | true =>
            go_wp2_with fail
            clear c0_ c1_ c2_ c3_ c4_ c5_ c6_ c7_ c8_ c9_ d0_ d1_ d2_ d3_ d4_ d5_ d6_ d7_ d8_ d9_
            refine (equal_sc x.A5 y.A5 x.k5 y.k5 x.ss y.ss w4 H0.out.i.ss H0.out.j.ss HZ.out.ss).mono ?_; rintro e w5 ⟨rfl, hb⟩
            replace H0 := Lib.hid (H0.out.below hb); clear hb
            obtain ⟨c0_, c1_, c2_, c3_, c4_, c5_, c6_, c7_, c8_, c9_⟩ := H0.out.p.c10
            obtain ⟨d0_, d1_, d2_, d3_, d4_, d5_, d6_, d7_, d8_, d9_⟩ := H0.out.q.c10
            cases h5 : eqL eqSc x.ss y.ss with
            | false =>
              have HVF := Lib.hid (HV.out.trans (show _ = false by rw [h5]; simp only [Bool.and_false, Bool.false_and]))
              go_wp2
              go_ret
              exact ⟨ret_bool HVF.out.symm, by first | exact H0.out.b | (rw [HBE.out]; exact H0.out.b)⟩
            | true =>
              go_wp2_with fail
              clear c0_ c1_ c2_ c3_ c4_ c5_ c6_ c7_ c8_ c9_ d0_ d1_ d2_ d3_ d4_ d5_ d6_ d7_ d8_ d9_
              refine (equal_i x.A6 y.A6 x.k6 y.k6 x.sk y.sk w5 H0.out.i.sk H0.out.j.sk HZ.out.sk).mono ?_; rintro e w6 ⟨rfl, hb⟩
              replace H0 := Lib.hid (H0.out.below hb); clear hb
              obtain ⟨c0_, c1_, c2_, c3_, c4_, c5_, c6_, c7_, c8_, c9_⟩ := H0.out.p.c10
              obtain ⟨d0_, d1_, d2_, d3_, d4_, d5_, d6_, d7_, d8_, d9_⟩ := H0.out.q.c10
              cases h6 : eqL eqI x.sk y.sk with
              | false =>
                have HVF := Lib.hid (HV.out.trans (show _ = false by rw [h6]; simp only [Bool.and_false, Bool.false_and]))
                go_wp2
                go_ret
                exact ⟨ret_bool HVF.out.symm, by first | exact H0.out.b | (rw [HBE.out]; exact H0.out.b)⟩
              | true =>
                cases h7 : (x.m == y.m) with
                | false =>
                  have HVF := Lib.hid (HV.out.trans (show _ = false by rw [h7]; simp only [Bool.and_false]))
                  go_wp2
                  go_ret
                  exact ⟨ret_bool HVF.out.symm, by first | exact H0.out.b | (rw [HBE.out]; exact H0.out.b)⟩
                | true =>
                  have HVF := Lib.hid (HV.out.trans (show _ = true by rw [h0, h1, h2, h3, h4, h5, h6, h7]; rfl))
                  go_wp2
                  go_ret
                  exact ⟨ret_bool HVF.out.symm, by first | exact H0.out.b | (rw [HBE.out]; exact H0.out.b)⟩
end Go.Proofs.Ytgidonhihgcadaa

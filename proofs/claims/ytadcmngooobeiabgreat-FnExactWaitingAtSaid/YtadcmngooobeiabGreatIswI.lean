/- The program's IsWorld. Written by mk/isw7.py. -/
import Derived.Test.YtadcmngooobeiabGreatIswO
import Derived.Test.YtadcmngooobeiabGreatIswC
import Derived.Test.YtadcmngooobeiabGreatIswS
import Derived.Test.YtadcmngooobeiabGreatAreBI
namespace Go.Proofs.YtadcmngooobeiabGreat
open Go.RowKit
def isWorB (d : Wd) : Bool := bksB d.l d.zs d.c d.bs && (decide (0 ≤ d.n) && (decide (d.n ≤ 100000) && (closedW d.l d.zs d.c d.cs && (scansW d.l d.zs d.c d.n d.m d.ss && (decide ((d.sk.length : Int) ≤ 50) && (ordersW d))))))
set_option maxRecDepth 100000 in
set_option maxHeartbeats 8000000 in
theorem isw_impl (x : Wp) (w : World) (hR : WorIn w x) (hz : WorSz x) :
    Calls Tryz.prog 52 #[worV x] w fun e w' => e = .returned (.bool (isWorB x.dat)) ∧ Below w.heap.size w w' := by
  dsimp only [worV]
  have HV := Lib.hid (show isWorB x.dat = (bksB x.l x.zs x.c x.bs && (decide (0 ≤ x.n) && (decide (x.n ≤ 100000) && (closedW x.l x.zs x.c x.cs && (scansW x.l x.zs x.c x.n x.m x.ss && (decide ((x.sk.length : Int) ≤ 50) && (ordersW x.dat))))))) from rfl)
  have HZ := Lib.hid hz; clear hz
  generalize isWorB x.dat = V at *
  have hbA := (Below.refl w.heap.size w).alloc (Nat.le_refl _) (.cells ⟨[.slice x.A0 x.l.length x.k0, .slice x.A1 x.zs.length x.k1, .int .i64 x.c, .slice x.A2 x.os.length x.k2, .slice x.A3 x.bs.length x.k3, .slice x.A4 x.cs.length x.k4, .int .i64 x.n, .slice x.A5 x.ss.length x.k5, .slice x.A6 x.sk.length x.k6, .int .i64 x.m]⟩ 42)
  have HX := Lib.hid (show WoAt (w.alloc (.cells ⟨[.slice x.A0 x.l.length x.k0, .slice x.A1 x.zs.length x.k1, .int .i64 x.c, .slice x.A2 x.os.length x.k2, .slice x.A3 x.bs.length x.k3, .slice x.A4 x.cs.length x.k4, .int .i64 x.n, .slice x.A5 x.ss.length x.k5, .slice x.A6 x.sk.length x.k6, .int .i64 x.m]⟩ 42)) w.heap.size x from ⟨Bx.new w _, hR.below hbA⟩)
  have HB := Lib.hid hbA
  have HSZ := Lib.hid hbA.size
  clear hbA hR
  generalize hB : w.heap.size = B at *
  have HBE := Lib.hid hB
  go_enter Tryz.func52, Tryz.ntmps52
  go_upto_region 1 with (fail)
  clear hB
  generalize w.alloc (.cells ⟨[.slice x.A0 x.l.length x.k0, .slice x.A1 x.zs.length x.k1, .int .i64 x.c, .slice x.A2 x.os.length x.k2, .slice x.A3 x.bs.length x.k3, .slice x.A4 x.cs.length x.k4, .int .i64 x.n, .slice x.A5 x.ss.length x.k5, .slice x.A6 x.sk.length x.k6, .int .i64 x.m]⟩ 42) = W0 at *
  have b0_ := HX.out.bx.cell 0 _ rfl
  have b1_ := HX.out.bx.cell 1 _ rfl
  have b2_ := HX.out.bx.cell 2 _ rfl
  have b4_ := HX.out.bx.cell 4 _ rfl
  have b6_ := HX.out.bx.cell 6 _ rfl
  have b8_ := HX.out.bx.cell 8 _ rfl
  go_wp2_with fail
  clear b0_ b1_ b2_ b4_ b6_ b8_
  refine (are_bks_impl x.A0 x.k0 x.l x.A1 x.k1 x.zs x.c x.A3 x.k3 x.bs W0 HX.out.i.l HX.out.i.zs HZ.out.ls HZ.out.l HZ.out.zs HX.out.i.bs HZ.out.bs).mono ?_; rintro e w1 ⟨rfl, hb⟩
  replace HX := Lib.hid (HX.out.below hb); replace HB := Lib.hid (HB.out.trans (hb.mono HSZ.out)); replace HSZ := Lib.hid (Nat.le_trans HSZ.out hb.size)
  clear hb
  have b0_ := HX.out.bx.cell 0 _ rfl
  have b1_ := HX.out.bx.cell 1 _ rfl
  have b2_ := HX.out.bx.cell 2 _ rfl
  have b4_ := HX.out.bx.cell 4 _ rfl
  have b6_ := HX.out.bx.cell 6 _ rfl
  have b8_ := HX.out.bx.cell 8 _ rfl
  cases h0 : bksB x.l x.zs x.c x.bs with
  | false =>
    have HVF := Lib.hid (HV.out.trans (show _ = false by rw [h0]; simp only [Bool.false_and]))
    go_wp2
    go_ret
    exact ⟨ret_bool HVF.out.symm, by first | exact HB.out | (rw [HBE.out]; exact HB.out)⟩
  | true =>
    cases h1 : decide (0 ≤ x.n) with
    | false =>
      have HVF := Lib.hid (HV.out.trans (show _ = false by rw [h1]; simp only [Bool.and_false, Bool.false_and]))
      go_wp2
      go_ret
      exact ⟨ret_bool HVF.out.symm, by first | exact HB.out | (rw [HBE.out]; exact HB.out)⟩
    | true =>
      cases h2 : decide (x.n ≤ 100000) with
      | false =>
        have HVF := Lib.hid (HV.out.trans (show _ = false by rw [h2]; simp only [Bool.and_false, Bool.false_and]))
        go_wp2
        go_ret
        exact ⟨ret_bool HVF.out.symm, by first | exact HB.out | (rw [HBE.out]; exact HB.out)⟩
      | true =>
        go_wp2_with fail
        clear b0_ b1_ b2_ b4_ b6_ b8_
        refine (has_closed x B w1 HX.out HZ.out).mono ?_; rintro e w2 ⟨rfl, hb⟩
        replace HX := Lib.hid (HX.out.below hb); replace HB := Lib.hid (HB.out.trans (hb.mono HSZ.out)); replace HSZ := Lib.hid (Nat.le_trans HSZ.out hb.size)
        clear hb
        have b0_ := HX.out.bx.cell 0 _ rfl
        have b1_ := HX.out.bx.cell 1 _ rfl
        have b2_ := HX.out.bx.cell 2 _ rfl
        have b4_ := HX.out.bx.cell 4 _ rfl
        have b6_ := HX.out.bx.cell 6 _ rfl
        have b8_ := HX.out.bx.cell 8 _ rfl
        cases h3 : closedW x.l x.zs x.c x.cs with
        | false =>
          have HVF := Lib.hid (HV.out.trans (show _ = false by rw [h3]; simp only [Bool.and_false, Bool.false_and]))
          go_wp2
          go_ret
          exact ⟨ret_bool HVF.out.symm, by first | exact HB.out | (rw [HBE.out]; exact HB.out)⟩
        | true =>
          go_wp2_with fail
          clear b0_ b1_ b2_ b4_ b6_ b8_
          refine (has_scans x B w2 HX.out HZ.out).mono ?_; rintro e w3 ⟨rfl, hb⟩
          replace HX := Lib.hid (HX.out.below hb); replace HB := Lib.hid (HB.out.trans (hb.mono HSZ.out)); replace HSZ := Lib.hid (Nat.le_trans HSZ.out hb.size)
          clear hb
          have b0_ := HX.out.bx.cell 0 _ rfl
          have b1_ := HX.out.bx.cell 1 _ rfl
          have b2_ := HX.out.bx.cell 2 _ rfl
          have b4_ := HX.out.bx.cell 4 _ rfl
          have b6_ := HX.out.bx.cell 6 _ rfl
          have b8_ := HX.out.bx.cell 8 _ rfl
          cases h4 : scansW x.l x.zs x.c x.n x.m x.ss with
          | false =>
            have HVF := Lib.hid (HV.out.trans (show _ = false by rw [h4]; simp only [Bool.and_false, Bool.false_and]))
            go_wp2
            go_ret
            exact ⟨ret_bool HVF.out.symm, by first | exact HB.out | (rw [HBE.out]; exact HB.out)⟩
          | true =>
            cases h5 : decide ((x.sk.length : Int) ≤ 50) with
            | false =>
              have HVF := Lib.hid (HV.out.trans (show _ = false by rw [h5]; simp only [Bool.and_false, Bool.false_and]))
              go_wp2
              go_ret
              exact ⟨ret_bool HVF.out.symm, by first | exact HB.out | (rw [HBE.out]; exact HB.out)⟩
            | true =>
              go_wp2_with fail
              clear b0_ b1_ b2_ b4_ b6_ b8_
              refine (has_orders x B w3 HX.out HZ.out ⟨of_decide_eq_true h1, of_decide_eq_true h2⟩).mono ?_; rintro e w4 ⟨rfl, hb⟩
              replace HX := Lib.hid (HX.out.below hb); replace HB := Lib.hid (HB.out.trans (hb.mono HSZ.out)); replace HSZ := Lib.hid (Nat.le_trans HSZ.out hb.size)
              clear hb
              have b0_ := HX.out.bx.cell 0 _ rfl
              have b1_ := HX.out.bx.cell 1 _ rfl
              have b2_ := HX.out.bx.cell 2 _ rfl
              have b4_ := HX.out.bx.cell 4 _ rfl
              have b6_ := HX.out.bx.cell 6 _ rfl
              have b8_ := HX.out.bx.cell 8 _ rfl
              cases h6 : ordersW x.dat with
              | false =>
                have HVF := Lib.hid (HV.out.trans (show _ = false by rw [h6]; simp only [Bool.and_false]))
                go_wp2
                go_ret
                exact ⟨ret_bool HVF.out.symm, by first | exact HB.out | (rw [HBE.out]; exact HB.out)⟩
              | true =>
                have HVF := Lib.hid (HV.out.trans (show _ = true by rw [h0, h1, h2, h3, h4, h5, h6]; rfl))
                go_wp2
                go_ret
                exact ⟨ret_bool HVF.out.symm, by first | exact HB.out | (rw [HBE.out]; exact HB.out)⟩
end Go.Proofs.YtadcmngooobeiabGreat

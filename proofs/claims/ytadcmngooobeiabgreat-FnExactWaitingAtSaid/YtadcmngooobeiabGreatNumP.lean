/- LateOrders, WaitingAt, RidingOn of the program. Written by mk/nums2.py. -/
import Derived.Test.YtadcmngooobeiabGreatNumI
import Derived.Test.YtadcmngooobeiabGreatHasX
namespace Go.Proofs.YtadcmngooobeiabGreat
open Go.RowKit
def lateP (now : Int) (z : OrRD) : Bool := if z.z = 3 then decide (z.u < z.e) else decide (z.u < now)
def waitP (pl : ByteArray) (z : OrRD) : Bool := (z.z == 1) && (z.p.toList == pl.toList)
def rideP (t : Tp) (z : OrRD) : Bool := (z.z == 2) && eqTp (z.h.getD z.g.toNat ⟨0, 0⟩) t
set_option maxRecDepth 100000 in
set_option maxHeartbeats 2000000 in
theorem late_says (x : Wp) (B : Nat) : SaysO x 55 #[.pointer (some ⟨B, 0, none⟩)] (lateP x.n) (fun W => Bx 42 W B [.slice x.A0 x.l.length x.k0, .slice x.A1 x.zs.length x.k1, .int .i64 x.c, .slice x.A2 x.os.length x.k2, .slice x.A3 x.bs.length x.k3, .slice x.A4 x.cs.length x.k4, .int .i64 x.n, .slice x.A5 x.ss.length x.k5, .slice x.A6 x.sk.length x.k6, .int .i64 x.m]) := by
  intro W b o z hO _ hK
  have HO := Lib.hid hO; have HX := Lib.hid hK; clear hO hK
  have HV := Lib.hid (show lateP x.n z.d = (if z.z = 3 then decide (z.u < z.e) else decide (z.u < x.n)) from rfl)
  generalize lateP x.n z.d = V at *
  show Calls Tryz.prog 55 #[.pointer (some ⟨b, o, none⟩), .pointer (some ⟨B, 0, none⟩)] W _
  have o8_ := HO.out.c8
  have hol := HO.out.lt; have hxl := HX.out.lt
  have o5F := far_cell hol HO.out.c5; have o10F := far_cell hol HO.out.c10
  have b6F := far_cell hxl (HX.out.cell 6 _ rfl)
  generalize z.z = zz at *
  by_cases h3 : zz = 3
  · have HVF := Lib.hid (HV.out.trans (if_pos h3))
    have e3 : (zz == 3) = true := by simp [h3]
    clear h3
    go_enter Tryz.func55, Tryz.ntmps55
    go_upto_region 2 with (fail)
    clear o8_
    refine wp_region_far (by kernel_rfl) (by kernel_rfl) ?_
    repeat (any_goals (first | go_big_quiet_step (fail) | quiet_step (fail)))
    refine wpQuiet_nil ?_; intro W1 hw
    have hb : Below W.heap.size W W1 := by obtain ⟨u, rfl⟩ := hw; exact below_far W u
    have HB := Lib.hid hb
    clear hw hb
    go_wp2
    go_ret
    exact ⟨ret_bool HVF.out.symm, HB.out⟩
  · have HVF := Lib.hid (HV.out.trans (if_neg h3))
    have e3 : (zz == 3) = false := by simp [h3]
    clear h3
    go_enter Tryz.func55, Tryz.ntmps55
    go_upto_region 3 with (fail)
    clear o8_
    refine wp_region_far (by kernel_rfl) (by kernel_rfl) ?_
    repeat (any_goals (first | go_big_quiet_step (fail) | quiet_step (fail)))
    refine wpQuiet_nil ?_; intro W1 hw
    have hb : Below W.heap.size W W1 := by obtain ⟨u, rfl⟩ := hw; exact below_far W u
    have HB := Lib.hid hb
    clear hw hb
    go_wp2
    go_ret
    exact ⟨ret_bool HVF.out.symm, HB.out⟩
theorem late_impl (x : Wp) (w : World) (hR : WorIn w x) (hz : WorSz x) :
    Calls Tryz.prog 22 #[worV x] w fun e w' => ∃ v, e = .returned v ∧ OwnI w' w.heap.size v (numsB (lateP x.n) x.dat) ∧ Below w.heap.size w w' := by
  have eg : ∀ args w, (callFunc 55 args).run Tryz.prog w = .ok (.enter 55 args) w := enters_of Tryz.func55 (by kernel_rfl) rfl
  have hmf : ∀ (fn : Fn) (first cap : Array Value) (w : World), (Instr.makeFunc fn first cap).run Tryz.prog w = .ok (.func fn first cap) w := fun _ _ _ _ => rfl
  have hbA := (Below.refl w.heap.size w).alloc (Nat.le_refl _) (.cells ⟨[.slice x.A0 x.l.length x.k0, .slice x.A1 x.zs.length x.k1, .int .i64 x.c, .slice x.A2 x.os.length x.k2, .slice x.A3 x.bs.length x.k3, .slice x.A4 x.cs.length x.k4, .int .i64 x.n, .slice x.A5 x.ss.length x.k5, .slice x.A6 x.sk.length x.k6, .int .i64 x.m]⟩ 42)
  have hX : Bx 42 (w.alloc (.cells ⟨[.slice x.A0 x.l.length x.k0, .slice x.A1 x.zs.length x.k1, .int .i64 x.c, .slice x.A2 x.os.length x.k2, .slice x.A3 x.bs.length x.k3, .slice x.A4 x.cs.length x.k4, .int .i64 x.n, .slice x.A5 x.ss.length x.k5, .slice x.A6 x.sk.length x.k6, .int .i64 x.m]⟩ 42)) w.heap.size [.slice x.A0 x.l.length x.k0, .slice x.A1 x.zs.length x.k1, .int .i64 x.c, .slice x.A2 x.os.length x.k2, .slice x.A3 x.bs.length x.k3, .slice x.A4 x.cs.length x.k4, .int .i64 x.n, .slice x.A5 x.ss.length x.k5, .slice x.A6 x.sk.length x.k6, .int .i64 x.m] := Bx.new w _
  have HC := Lib.hid (nums_of (lateP x.n) 55 #[.pointer (some ⟨w.heap.size, 0, none⟩)] (fun W => Bx 42 W w.heap.size [.slice x.A0 x.l.length x.k0, .slice x.A1 x.zs.length x.k1, .int .i64 x.c, .slice x.A2 x.os.length x.k2, .slice x.A3 x.bs.length x.k3, .slice x.A4 x.cs.length x.k4, .int .i64 x.n, .slice x.A5 x.ss.length x.k5, .slice x.A6 x.sk.length x.k6, .int .i64 x.m]) (fun _ _ h hb => h.below hb) eg x (w.alloc (.cells ⟨[.slice x.A0 x.l.length x.k0, .slice x.A1 x.zs.length x.k1, .int .i64 x.c, .slice x.A2 x.os.length x.k2, .slice x.A3 x.bs.length x.k3, .slice x.A4 x.cs.length x.k4, .int .i64 x.n, .slice x.A5 x.ss.length x.k5, .slice x.A6 x.sk.length x.k6, .int .i64 x.m]⟩ 42)) (hR.below hbA) hz (late_says x w.heap.size) hX)
  have HX := Lib.hid hX; have HB := Lib.hid hbA
  clear eg hbA hX hR hz
  dsimp only [worV] at HC ⊢
  have hsz := HB.out.size
  generalize hB : w.heap.size = B at *
  have HBE := Lib.hid hB
  go_enter Tryz.func22, Tryz.ntmps22
  go_upto_region 1 with (fail)
  clear hB
  generalize (w.alloc (.cells ⟨[.slice x.A0 x.l.length x.k0, .slice x.A1 x.zs.length x.k1, .int .i64 x.c, .slice x.A2 x.os.length x.k2, .slice x.A3 x.bs.length x.k3, .slice x.A4 x.cs.length x.k4, .int .i64 x.n, .slice x.A5 x.ss.length x.k5, .slice x.A6 x.sk.length x.k6, .int .i64 x.m]⟩ 42)) = V0 at *
  have b0_ := HX.out.cell 0 _ rfl; have b1_ := HX.out.cell 1 _ rfl; have b2_ := HX.out.cell 2 _ rfl; have b3_ := HX.out.cell 3 _ rfl; have b4_ := HX.out.cell 4 _ rfl; have b5_ := HX.out.cell 5 _ rfl; have b6_ := HX.out.cell 6 _ rfl; have b7_ := HX.out.cell 7 _ rfl; have b8_ := HX.out.cell 8 _ rfl; have b9_ := HX.out.cell 9 _ rfl
  go_wp2_with fail
  clear b0_ b1_ b2_ b3_ b4_ b5_ b6_ b7_ b8_ b9_
  refine HC.out.mono ?_; rintro e w1 ⟨v, rfl, ho, hb2⟩
  have HO := Lib.hid (OwnI.mono ho hsz); have HB2 := Lib.hid (HB.out.trans (hb2.mono hsz))
  clear ho hb2
  go_wp2
  go_ret
  exact ⟨_, rfl, by first | exact HO.out | (rw [HBE.out]; exact HO.out), by first | exact HB2.out | (rw [HBE.out]; exact HB2.out)⟩
end Go.Proofs.YtadcmngooobeiabGreat

/- WaitingAt, both texts. Written by mk/nums3.py. -/
import Derived.Test.YtadcmngooobeiabGreatNumP
namespace Go.Proofs.YtadcmngooobeiabGreat
open Go.RowKit
set_option maxRecDepth 100000 in
set_option maxHeartbeats 2000000 in
theorem wait_says (x : Wp) (B : Nat) (pl : ByteArray) : SaysO x 37 #[.pointer (some ⟨B, 0, none⟩)] (waitP pl) (fun W => Bx 9 W B [.string pl]) := by
  intro W b o z hO _ hK
  have HO := Lib.hid hO; have HX := Lib.hid hK; clear hO hK
  have HV := Lib.hid (show waitP pl z.d = ((z.z == 1) && (z.p.toList == pl.toList)) from rfl)
  generalize waitP pl z.d = V at *
  show Calls Tryz.prog 37 #[.pointer (some ⟨b, o, none⟩), .pointer (some ⟨B, 0, none⟩)] W _
  have hol := HO.out.lt; have hxl := HX.out.lt
  have o8F := far_cell hol HO.out.c8; have o9F := far_cell hol HO.out.c9
  have s0F := far_cell hxl (HX.out.cell 0 _ rfl)
  go_enter Tryz.func37, Tryz.ntmps37
  go_upto_region 1 with (fail)
  cases h1 : (z.z == 1) with
  | false =>
    have HVF := Lib.hid (HV.out.trans (show _ = false by rw [h1]; rfl))
    refine wp_region_far (by kernel_rfl) (by kernel_rfl) ?_
    repeat (any_goals (first | go_big_quiet_step (fail) | quiet_step (fail)))
    refine wpQuiet_nil ?_; intro W1 hw
    have hb : Below W.heap.size W W1 := by obtain ⟨u, rfl⟩ := hw; exact below_far W u
    have HB := Lib.hid hb
    clear hw hb
    go_wp2
    go_ret
    exact ⟨ret_bool HVF.out.symm, HB.out⟩
  | true =>
    replace HV := Lib.hid (HV.out.trans (show _ = (z.p.toList == pl.toList) by rw [h1]; rfl))
    cases h2 : (z.p.toList == pl.toList) with
    | false =>
      have HVF := Lib.hid (HV.out.trans h2)
      refine wp_region_far (by kernel_rfl) (by kernel_rfl) ?_
      repeat (any_goals (first | go_big_quiet_step (fail) | quiet_step (fail)))
      refine wpQuiet_nil ?_; intro W1 hw
      have hb : Below W.heap.size W W1 := by obtain ⟨u, rfl⟩ := hw; exact below_far W u
      have HB := Lib.hid hb
      clear hw hb
      go_wp2
      go_ret
      exact ⟨ret_bool HVF.out.symm, HB.out⟩
    | true =>
      have HVF := Lib.hid (HV.out.trans h2)
      refine wp_region_far (by kernel_rfl) (by kernel_rfl) ?_
      repeat (any_goals (first | go_big_quiet_step (fail) | quiet_step (fail)))
      refine wpQuiet_nil ?_; intro W1 hw
      have hb : Below W.heap.size W W1 := by obtain ⟨u, rfl⟩ := hw; exact below_far W u
      have HB := Lib.hid hb
      clear hw hb
      go_wp2
      go_ret
      exact ⟨ret_bool HVF.out.symm, HB.out⟩
theorem wait_impl (x : Wp) (pl : ByteArray) (w : World) (hR : WorIn w x) (hz : WorSz x) :
    Calls Tryz.prog 10 #[worV x, .string pl] w fun e w' => ∃ v, e = .returned v ∧ OwnI w' w.heap.size v (numsB (waitP pl) x.dat) ∧ Below w.heap.size w w' := by
  have eg : ∀ args w, (callFunc 37 args).run Tryz.prog w = .ok (.enter 37 args) w := enters_of Tryz.func37 (by kernel_rfl) rfl
  have hmf : ∀ (fn : Fn) (first cap : Array Value) (w : World), (Instr.makeFunc fn first cap).run Tryz.prog w = .ok (.func fn first cap) w := fun _ _ _ _ => rfl
  have hbA := (Below.refl w.heap.size w).alloc (Nat.le_refl _) (.cells ⟨[.slice x.A0 x.l.length x.k0, .slice x.A1 x.zs.length x.k1, .int .i64 x.c, .slice x.A2 x.os.length x.k2, .slice x.A3 x.bs.length x.k3, .slice x.A4 x.cs.length x.k4, .int .i64 x.n, .slice x.A5 x.ss.length x.k5, .slice x.A6 x.sk.length x.k6, .int .i64 x.m]⟩ 42)
  have e0 : (w.alloc (.cells ⟨[.slice x.A0 x.l.length x.k0, .slice x.A1 x.zs.length x.k1, .int .i64 x.c, .slice x.A2 x.os.length x.k2, .slice x.A3 x.bs.length x.k3, .slice x.A4 x.cs.length x.k4, .int .i64 x.n, .slice x.A5 x.ss.length x.k5, .slice x.A6 x.sk.length x.k6, .int .i64 x.m]⟩ 42)).heap.size = w.heap.size + 1 := by simp
  have hbE := (Below.refl (w.alloc (.cells ⟨[.slice x.A0 x.l.length x.k0, .slice x.A1 x.zs.length x.k1, .int .i64 x.c, .slice x.A2 x.os.length x.k2, .slice x.A3 x.bs.length x.k3, .slice x.A4 x.cs.length x.k4, .int .i64 x.n, .slice x.A5 x.ss.length x.k5, .slice x.A6 x.sk.length x.k6, .int .i64 x.m]⟩ 42)).heap.size (w.alloc (.cells ⟨[.slice x.A0 x.l.length x.k0, .slice x.A1 x.zs.length x.k1, .int .i64 x.c, .slice x.A2 x.os.length x.k2, .slice x.A3 x.bs.length x.k3, .slice x.A4 x.cs.length x.k4, .int .i64 x.n, .slice x.A5 x.ss.length x.k5, .slice x.A6 x.sk.length x.k6, .int .i64 x.m]⟩ 42))).alloc (Nat.le_refl _) (.cells #[.string pl] 9)
  have hbC := hbA.trans (hbE.mono hbA.size)
  have hX : Bx 42 ((w.alloc (.cells ⟨[.slice x.A0 x.l.length x.k0, .slice x.A1 x.zs.length x.k1, .int .i64 x.c, .slice x.A2 x.os.length x.k2, .slice x.A3 x.bs.length x.k3, .slice x.A4 x.cs.length x.k4, .int .i64 x.n, .slice x.A5 x.ss.length x.k5, .slice x.A6 x.sk.length x.k6, .int .i64 x.m]⟩ 42)).alloc (.cells #[.string pl] 9)) w.heap.size [.slice x.A0 x.l.length x.k0, .slice x.A1 x.zs.length x.k1, .int .i64 x.c, .slice x.A2 x.os.length x.k2, .slice x.A3 x.bs.length x.k3, .slice x.A4 x.cs.length x.k4, .int .i64 x.n, .slice x.A5 x.ss.length x.k5, .slice x.A6 x.sk.length x.k6, .int .i64 x.m] := (Bx.new w _).below hbE
  have hS : Bx 9 ((w.alloc (.cells ⟨[.slice x.A0 x.l.length x.k0, .slice x.A1 x.zs.length x.k1, .int .i64 x.c, .slice x.A2 x.os.length x.k2, .slice x.A3 x.bs.length x.k3, .slice x.A4 x.cs.length x.k4, .int .i64 x.n, .slice x.A5 x.ss.length x.k5, .slice x.A6 x.sk.length x.k6, .int .i64 x.m]⟩ 42)).alloc (.cells #[.string pl] 9)) (w.heap.size + 1) [.string pl] := by rw [← e0]; exact Bx.new _ [.string pl]
  have HC := Lib.hid (nums_of (waitP pl) 37 #[.pointer (some ⟨w.heap.size + 1, 0, none⟩)] (fun W => Bx 9 W (w.heap.size + 1) [.string pl]) (fun _ _ h hb => h.below hb) eg x ((w.alloc (.cells ⟨[.slice x.A0 x.l.length x.k0, .slice x.A1 x.zs.length x.k1, .int .i64 x.c, .slice x.A2 x.os.length x.k2, .slice x.A3 x.bs.length x.k3, .slice x.A4 x.cs.length x.k4, .int .i64 x.n, .slice x.A5 x.ss.length x.k5, .slice x.A6 x.sk.length x.k6, .int .i64 x.m]⟩ 42)).alloc (.cells #[.string pl] 9)) (hR.below hbC) hz (wait_says x (w.heap.size + 1) pl) hS)
  have HX := Lib.hid hX; have HB := Lib.hid hbC
  clear eg hbA hbE hbC hX hS hR hz e0
  dsimp only [worV] at HC ⊢
  have hsz := HB.out.size
  generalize hB : w.heap.size = B at *
  have HBE := Lib.hid hB
  go_enter Tryz.func10, Tryz.ntmps10
  go_upto_region 1 with (fail)
  clear hB
  generalize ((w.alloc (.cells ⟨[.slice x.A0 x.l.length x.k0, .slice x.A1 x.zs.length x.k1, .int .i64 x.c, .slice x.A2 x.os.length x.k2, .slice x.A3 x.bs.length x.k3, .slice x.A4 x.cs.length x.k4, .int .i64 x.n, .slice x.A5 x.ss.length x.k5, .slice x.A6 x.sk.length x.k6, .int .i64 x.m]⟩ 42)).alloc (.cells #[.string pl] 9)) = V0 at *
  have b0_ := HX.out.cell 0 _ rfl; have b1_ := HX.out.cell 1 _ rfl; have b2_ := HX.out.cell 2 _ rfl; have b3_ := HX.out.cell 3 _ rfl; have b4_ := HX.out.cell 4 _ rfl; have b5_ := HX.out.cell 5 _ rfl; have b6_ := HX.out.cell 6 _ rfl; have b7_ := HX.out.cell 7 _ rfl; have b8_ := HX.out.cell 8 _ rfl; have b9_ := HX.out.cell 9 _ rfl
  go_wp2_with fail
  clear b0_ b1_ b2_ b3_ b4_ b5_ b6_ b7_ b8_ b9_
  refine HC.out.mono ?_; rintro e w1 ⟨v, rfl, ho, hb2⟩
  have HO := Lib.hid (OwnI.mono ho hsz); have HB2 := Lib.hid (HB.out.trans (hb2.mono hsz))
  clear ho hb2
  go_wp2
  go_ret
  exact ⟨_, rfl, by first | exact HO.out | (rw [HBE.out]; exact HO.out), by first | exact HB2.out | (rw [HBE.out]; exact HB2.out)⟩
set_option maxRecDepth 100000 in
set_option maxHeartbeats 3000000 in
theorem wait_spec (x : Wp) (pl : ByteArray) (w : World) (hR : WorIn w x) (hz : WorSz x) :
    Calls Tryz.prog 8 #[worV x, .string pl] w fun e w' => ∃ v, e = .returned v ∧ OwnI w' w.heap.size v (numsB (waitP pl) x.dat) ∧ Below w.heap.size w w' := by
  obtain ⟨p, hp⟩ : ∃ p, p = waitP pl := ⟨_, rfl⟩
  rw [← hp]
  have HP := Lib.hid (fun z => show p z = ((z.z == 1) && (z.p.toList == pl.toList)) by rw [hp]; rfl)
  clear hp
  obtain ⟨i0, hi0, hz0, hz1, hz2⟩ := info_parts int_info
  dsimp only [worV]
  have HV := Lib.hid (show numsB p x.dat = (if isWorB x.dat = true then numK p x.dat.os x.os.length else []) by unfold numsB; rw [os_len])
  have HZ := Lib.hid hz; have HR := Lib.hid hR
  have hbA := (Below.refl w.heap.size w).alloc (Nat.le_refl _) (.cells ⟨[.slice x.A0 x.l.length x.k0, .slice x.A1 x.zs.length x.k1, .int .i64 x.c, .slice x.A2 x.os.length x.k2, .slice x.A3 x.bs.length x.k3, .slice x.A4 x.cs.length x.k4, .int .i64 x.n, .slice x.A5 x.ss.length x.k5, .slice x.A6 x.sk.length x.k6, .int .i64 x.m]⟩ 42)
  have e0 : (w.alloc (.cells ⟨[.slice x.A0 x.l.length x.k0, .slice x.A1 x.zs.length x.k1, .int .i64 x.c, .slice x.A2 x.os.length x.k2, .slice x.A3 x.bs.length x.k3, .slice x.A4 x.cs.length x.k4, .int .i64 x.n, .slice x.A5 x.ss.length x.k5, .slice x.A6 x.sk.length x.k6, .int .i64 x.m]⟩ 42)).heap.size = w.heap.size + 1 := by simp
  have hbE := (Below.refl (w.alloc (.cells ⟨[.slice x.A0 x.l.length x.k0, .slice x.A1 x.zs.length x.k1, .int .i64 x.c, .slice x.A2 x.os.length x.k2, .slice x.A3 x.bs.length x.k3, .slice x.A4 x.cs.length x.k4, .int .i64 x.n, .slice x.A5 x.ss.length x.k5, .slice x.A6 x.sk.length x.k6, .int .i64 x.m]⟩ 42)).heap.size (w.alloc (.cells ⟨[.slice x.A0 x.l.length x.k0, .slice x.A1 x.zs.length x.k1, .int .i64 x.c, .slice x.A2 x.os.length x.k2, .slice x.A3 x.bs.length x.k3, .slice x.A4 x.cs.length x.k4, .int .i64 x.n, .slice x.A5 x.ss.length x.k5, .slice x.A6 x.sk.length x.k6, .int .i64 x.m]⟩ 42))).alloc (Nat.le_refl _) (.cells #[] 3)
  have hbC := hbA.trans (hbE.mono hbA.size)
  have HX := Lib.hid (show WoAt ((w.alloc (.cells ⟨[.slice x.A0 x.l.length x.k0, .slice x.A1 x.zs.length x.k1, .int .i64 x.c, .slice x.A2 x.os.length x.k2, .slice x.A3 x.bs.length x.k3, .slice x.A4 x.cs.length x.k4, .int .i64 x.n, .slice x.A5 x.ss.length x.k5, .slice x.A6 x.sk.length x.k6, .int .i64 x.m]⟩ 42)).alloc (.cells #[] 3)) w.heap.size x from ⟨(Bx.new w _).below hbE, hR.below hbC⟩)
  have HO := Lib.hid (show OwnI ((w.alloc (.cells ⟨[.slice x.A0 x.l.length x.k0, .slice x.A1 x.zs.length x.k1, .int .i64 x.c, .slice x.A2 x.os.length x.k2, .slice x.A3 x.bs.length x.k3, .slice x.A4 x.cs.length x.k4, .int .i64 x.n, .slice x.A5 x.ss.length x.k5, .slice x.A6 x.sk.length x.k6, .int .i64 x.m]⟩ 42)).alloc (.cells #[] 3)) (w.heap.size + 1) (.slice (some ⟨w.heap.size + 1, 0, none⟩) 0 0) [] by have h := ownI_new (w.alloc (.cells ⟨[.slice x.A0 x.l.length x.k0, .slice x.A1 x.zs.length x.k1, .int .i64 x.c, .slice x.A2 x.os.length x.k2, .slice x.A3 x.bs.length x.k3, .slice x.A4 x.cs.length x.k4, .int .i64 x.n, .slice x.A5 x.ss.length x.k5, .slice x.A6 x.sk.length x.k6, .int .i64 x.m]⟩ 42)); rw [e0] at h; exact h)
  have HB := Lib.hid hbC
  have HSZ := Lib.hid hbC.size
  clear hbA hbE hbC hR hz e0
  have HI := Lib.hid (fun W (h : WorIn W x) => isw_spec x W h HZ.out)
  dsimp only [worV] at HI
  have HTY := Lib.hid (fun k (hk : k < x.os.length) (e : p (x.os[k]).d = true) => numK_yes (os_get x k hk) e)
  have HTN := Lib.hid (fun k (hk : k < x.os.length) (e : p (x.os[k]).d = false) => numK_no (os_get x k hk) e)
  have HNL := Lib.hid (fun k => numK_len p x.dat.os k)
  have HN0 := Lib.hid (numK_zero p x.dat.os)
  generalize numsB p x.dat = R at *
  generalize numK p x.dat.os = NK at *
  generalize hB : w.heap.size = B at HX HO HB HSZ ⊢
  have HBE := Lib.hid hB
  cases q : isWorB x.dat with
  | false =>
    replace HV := Lib.hid (HV.out.trans (show _ = [] by rw [q]; rfl))
    rw [q] at HI
    clear q
    go_enter Tryz.func8, Tryz.ntmps8
    go_upto_region 2 with (fail)
    clear hB
    obtain ⟨S0, hS0⟩ : ∃ S0 : Value, S0 = .slice (some ⟨B + 1, 0, none⟩) 0 0 := ⟨_, rfl⟩
    rw [← hS0] at HO
    rw [← hS0]
    clear hS0
    generalize ((w.alloc (.cells ⟨[.slice x.A0 x.l.length x.k0, .slice x.A1 x.zs.length x.k1, .int .i64 x.c, .slice x.A2 x.os.length x.k2, .slice x.A3 x.bs.length x.k3, .slice x.A4 x.cs.length x.k4, .int .i64 x.n, .slice x.A5 x.ss.length x.k5, .slice x.A6 x.sk.length x.k6, .int .i64 x.m]⟩ 42)).alloc (.cells #[] 3)) = V0 at *
    have b0_ := HX.out.bx.cell 0 _ rfl; have b1_ := HX.out.bx.cell 1 _ rfl; have b2_ := HX.out.bx.cell 2 _ rfl; have b3_ := HX.out.bx.cell 3 _ rfl; have b4_ := HX.out.bx.cell 4 _ rfl; have b5_ := HX.out.bx.cell 5 _ rfl; have b6_ := HX.out.bx.cell 6 _ rfl; have b7_ := HX.out.bx.cell 7 _ rfl; have b8_ := HX.out.bx.cell 8 _ rfl; have b9_ := HX.out.bx.cell 9 _ rfl
    go_wp2_with fail
    clear b0_ b1_ b2_ b3_ b4_ b5_ b6_ b7_ b8_ b9_
    refine (HI.out V0 HX.out.i).mono ?_; rintro e V1 ⟨rfl, hb⟩
    replace HO := Lib.hid (OwnI.below HO.out hb); replace HX := Lib.hid (HX.out.below hb); replace HB := Lib.hid (HB.out.trans (hb.mono HSZ.out)); replace HSZ := Lib.hid (Nat.le_trans HSZ.out hb.size); clear hb
    go_wp2
    go_ret
    exact ⟨_, rfl, by rw [HV.out]; first | exact OwnI.mono HO.out (by omega) | (rw [HBE.out]; exact OwnI.mono HO.out (by omega)), by first | exact HB.out | (rw [HBE.out]; exact HB.out)⟩
  | true =>
    replace HV := Lib.hid (HV.out.trans (show _ = NK x.os.length by rw [q]; rfl))
    rw [q] at HI
    have HOK := Lib.hid (fun k (hk : k < x.os.length) => ord_ok (isw_ord q hk))
    clear q
    go_enter Tryz.func8, Tryz.ntmps8
    go_upto_region 2 with (fail)
    clear hB
    obtain ⟨S0, hS0⟩ : ∃ S0 : Value, S0 = .slice (some ⟨B + 1, 0, none⟩) 0 0 := ⟨_, rfl⟩
    rw [← hS0] at HO
    rw [← hS0]
    clear hS0
    generalize ((w.alloc (.cells ⟨[.slice x.A0 x.l.length x.k0, .slice x.A1 x.zs.length x.k1, .int .i64 x.c, .slice x.A2 x.os.length x.k2, .slice x.A3 x.bs.length x.k3, .slice x.A4 x.cs.length x.k4, .int .i64 x.n, .slice x.A5 x.ss.length x.k5, .slice x.A6 x.sk.length x.k6, .int .i64 x.m]⟩ 42)).alloc (.cells #[] 3)) = V0 at *
    have b0_ := HX.out.bx.cell 0 _ rfl; have b1_ := HX.out.bx.cell 1 _ rfl; have b2_ := HX.out.bx.cell 2 _ rfl; have b3_ := HX.out.bx.cell 3 _ rfl; have b4_ := HX.out.bx.cell 4 _ rfl; have b5_ := HX.out.bx.cell 5 _ rfl; have b6_ := HX.out.bx.cell 6 _ rfl; have b7_ := HX.out.bx.cell 7 _ rfl; have b8_ := HX.out.bx.cell 8 _ rfl; have b9_ := HX.out.bx.cell 9 _ rfl
    go_wp2_with fail
    clear b0_ b1_ b2_ b3_ b4_ b5_ b6_ b7_ b8_ b9_
    refine (HI.out V0 HX.out.i).mono ?_; rintro e V1 ⟨rfl, hb⟩
    replace HO := Lib.hid (OwnI.below HO.out hb); replace HX := Lib.hid (HX.out.below hb); replace HB := Lib.hid (HB.out.trans (hb.mono HSZ.out)); replace HSZ := Lib.hid (Nat.le_trans HSZ.out hb.size); clear hb
    obtain ⟨L, hL⟩ : ∃ L, L = x.os.length := ⟨_, rfl⟩
    have HLE := Lib.hid hL
    have HLB := Lib.hid (show L ≤ 1048576 by rw [hL]; exact HZ.out.os)
    rw [← hL] at HV
    clear hL
    have b3_ := HX.out.bx.cell 3 _ rfl
    rw [← HLE.out] at b3_
    have HBX := Lib.hid HX.out.bx
    go_wp2
    clear b3_ HX HSZ
    go_loopw [5, 6] (fun v i wr => ∃ k : Nat, k ≤ L ∧ i = .int .i64 k ∧ Hid (OwnI wr (B + 1) v (NK k)) ∧ Hid (Bx 42 wr B [.slice x.A0 x.l.length x.k0, .slice x.A1 x.zs.length x.k1, .int .i64 x.c, .slice x.A2 x.os.length x.k2, .slice x.A3 x.bs.length x.k3, .slice x.A4 x.cs.length x.k4, .int .i64 x.n, .slice x.A5 x.ss.length x.k5, .slice x.A6 x.sk.length x.k6, .int .i64 x.m]) ∧ Hid (Below B w wr)) (fun _ i _ => L - (intOf i).toNat)
    case atStart => exact ⟨0, Nat.zero_le _, rfl, by rw [HN0.out]; exact HO, HBX, HB⟩
    case round =>
      clear HO HB HBX
      obtain ⟨k, hk, rfl, ho, hbx, hb⟩ := hrel
      have hbz : B ≤ wr.heap.size := by rw [← HBE.out]; exact (show Below w.heap.size w wr by rw [HBE.out]; exact hb.out).size
      have hbw : Below w.heap.size w wr := by rw [HBE.out]; exact hb.out
      have HX := Lib.hid (show WoAt wr B x from ⟨hbx.out, HR.out.below hbw⟩)
      have b3_ := HX.out.bx.cell 3 _ rfl
      rw [← HLE.out] at b3_
      by_cases hlt : (k : Int) < (L : Int)
      · have hkl : k < x.os.length := by rw [← HLE.out]; omega
        obtain ⟨g, hAe, hoa⟩ := orAt_of HX.out.i.os HX.out.i.way k hkl
        rw [hAe] at b3_
        clear hAe
        have hok := HOK.out k hkl
        have HY := Lib.hid (HTY.out k hkl); have HNN := Lib.hid (HTN.out k hkl)
        have hDl := HNL.out k
        generalize x.os[k] = z at *
        clear hkl
        have hL1 : L ≤ 1048576 := HLB.out
        obtain ⟨D, hD⟩ : ∃ D, D = NK k := ⟨_, rfl⟩
        rw [← hD] at ho HY HNN hDl
        clear hD
        obtain ⟨n, hn'⟩ : ∃ n, n = D.length := ⟨_, rfl⟩
        have hnk : n ≤ 1048576 := by omega
        have HN := Lib.hid hn'.symm
        clear hn' hDl
        have p8_ := hoa.c8; have p9_ := hoa.c9
        have HO1 := ho; have HX1 := HX; have HB1 := hb; have HS1 := Lib.hid hbz
        have HPZ := Lib.hid (show p z.d = ((z.z == 1) && (z.p.toList == pl.toList)) from HP.out z.d)
        clear hoa hok hbw ho hbx hb HX
        cases h1 : (z.z == 1) with
        | false =>
          have hq : p z.d = false := HPZ.out.trans (by rw [h1]; rfl)
          have HD := Lib.hid (HNN.out hq)
          clear hq
          go_wp2
          go_roundw
          case rel => exact ⟨k + 1, by omega, by go_num, Lib.hid (by rw [HD.out]; exact HO1.out), Lib.hid HX1.out.bx, HB1⟩
          case measure => simp [intOf]; omega
        | true =>
          cases h2 : (z.p.toList == pl.toList) with
          | false =>
            have hq : p z.d = false := HPZ.out.trans (by rw [h1, h2]; rfl)
            have HD := Lib.hid (HNN.out hq)
            clear hq
            go_wp2
            go_roundw
            case rel => exact ⟨k + 1, by omega, by go_num, Lib.hid (by rw [HD.out]; exact HO1.out), Lib.hid HX1.out.bx, HB1⟩
            case measure => simp [intOf]; omega
          | true =>
            have hq : p z.d = true := HPZ.out.trans (by rw [h1, h2]; rfl)
            have HD := Lib.hid (HY.out hq)
            have hlit := (Below.refl wr.heap.size wr).alloc (Nat.le_refl _) (.cells #[.int .i64 ((k : Int) + 1)] 3)
            have HO2 := Lib.hid (OwnI.atN (OwnI.below HO1.out hlit) HN.out)
            have hs2 : B ≤ wr.heap.size := HS1.out
            have HLO := Lib.hid (fun q h => Nat.le_of_lt (World.ownsRow.lt HO1.out q h).1)
            have HXL := Lib.hid (HX1.out.bx.below hlit)
            clear hlit hq
            go_wp2_with (at_builtin; refine wpList_append_own _ rfl _ _ 23 rfl (B + 1) 3 i0 _ 1 8 Tryz.underlying23 hi0 hz0 hz1 hz2 rfl (by decide) _ n (intV D) rfl HO2.out ⟨wr.heap.size, 0, none⟩ 1 1 (intV [(k : Int) + 1]) rfl rfl (enc_news _ _ _) (one_int _) (by unfold maxLen; omega) (by omega) (by simp; omega) ?_; intro v' w5 hown' hgr hnil)
            go_roundw
            case rel => exact ⟨k + 1, by omega, by go_num, Lib.hid (by rw [HD.out]; exact ownI_push hown' HN.out), Lib.hid (HXL.out.apart hgr (fun e => by have h9 := (World.ownsRow.lt HO1.out B e.symm).1; omega)), Lib.hid ((HB1.out.alloc hs2 _).grown hgr (by simp; omega) HLO.out)⟩
            case measure => simp [intOf]; omega
      · obtain rfl : k = L := by omega
        go_wp2
        go_ret
        exact ⟨_, rfl, by rw [HV.out]; first | exact OwnI.mono ho.out (by omega) | (rw [HBE.out]; exact OwnI.mono ho.out (by omega)), by first | exact hb.out | (rw [HBE.out]; exact hb.out)⟩
end Go.Proofs.YtadcmngooobeiabGreat

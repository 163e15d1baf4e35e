/- What happens next: NextEvent of the reference. Written by mk/nexte.py. -/
import Derived.Test.YtadcmngooobeiaaGreatNextI
namespace Go.Proofs.YtadcmngooobeiaaGreat
open Go.RowKit
set_option maxRecDepth 100000 in
set_option maxHeartbeats 8000000 in
theorem nextE_spec (x : Wp) (w : World) (hR : WorIn w x) (hz : WorSz x) :
    Calls Tryz.prog 22 #[worV x] w fun e w' => e = .returned (.int .i64 (nextEB x.dat)) ∧ Below w.heap.size w w' := by
  dsimp only [worV]
  have HL := Lib.hid (show x.dat.os.length = x.os.length by show (x.os.map OrR.d).length = _; simp)
  have HV := Lib.hid (show nextEB x.dat = (if isWorB x.dat = true then bestN x.l x.dat.os x.os.length else -1) by unfold nextEB; rw [HL.out]; rfl)
  have HZ := Lib.hid hz; clear hz
  have hbA := (Below.refl w.heap.size w).alloc (Nat.le_refl _) (.cells ⟨[.slice x.A0 x.l.length x.k0, .slice x.A1 x.zs.length x.k1, .int .i64 x.c, .slice x.A2 x.os.length x.k2, .slice x.A3 x.bs.length x.k3, .slice x.A4 x.cs.length x.k4, .int .i64 x.n, .slice x.A5 x.ss.length x.k5, .slice x.A6 x.sk.length x.k6, .int .i64 x.m]⟩ 42)
  have HX := Lib.hid (show WoAt (w.alloc (.cells ⟨[.slice x.A0 x.l.length x.k0, .slice x.A1 x.zs.length x.k1, .int .i64 x.c, .slice x.A2 x.os.length x.k2, .slice x.A3 x.bs.length x.k3, .slice x.A4 x.cs.length x.k4, .int .i64 x.n, .slice x.A5 x.ss.length x.k5, .slice x.A6 x.sk.length x.k6, .int .i64 x.m]⟩ 42)) w.heap.size x from ⟨Bx.new w _, hR.below hbA⟩)
  have HB := Lib.hid hbA
  have HSZ := Lib.hid hbA.size
  clear hbA hR
  have HI := Lib.hid (fun W (h : WorIn W x) => isw_spec x W h HZ.out)
  dsimp only [worV] at HI
  generalize nextEB x.dat = V at *
  cases q : isWorB x.dat with
  | false =>
    replace HV := Lib.hid (HV.out.trans (show _ = -1 by rw [q]; rfl))
    rw [q] at HI
    clear q
    generalize hB : w.heap.size = B at *
    have HBE := Lib.hid hB
    go_enter Tryz.func22, Tryz.ntmps22
    go_upto_region 2 with (fail)
    clear hB
    generalize (w.alloc (.cells ⟨[.slice x.A0 x.l.length x.k0, .slice x.A1 x.zs.length x.k1, .int .i64 x.c, .slice x.A2 x.os.length x.k2, .slice x.A3 x.bs.length x.k3, .slice x.A4 x.cs.length x.k4, .int .i64 x.n, .slice x.A5 x.ss.length x.k5, .slice x.A6 x.sk.length x.k6, .int .i64 x.m]⟩ 42)) = V0 at *
    have b0_ := HX.out.bx.cell 0 _ rfl; have b1_ := HX.out.bx.cell 1 _ rfl; have b2_ := HX.out.bx.cell 2 _ rfl; have b3_ := HX.out.bx.cell 3 _ rfl; have b4_ := HX.out.bx.cell 4 _ rfl; have b5_ := HX.out.bx.cell 5 _ rfl; have b6_ := HX.out.bx.cell 6 _ rfl; have b7_ := HX.out.bx.cell 7 _ rfl; have b8_ := HX.out.bx.cell 8 _ rfl; have b9_ := HX.out.bx.cell 9 _ rfl
    go_wp2_with fail
    clear b0_ b1_ b2_ b3_ b4_ b5_ b6_ b7_ b8_ b9_
    refine (HI.out V0 HX.out.i).mono ?_; rintro e V1 ⟨rfl, hb⟩
    replace HX := Lib.hid (HX.out.below hb); replace HB := Lib.hid (HB.out.trans (hb.mono HSZ.out)); replace HSZ := Lib.hid (Nat.le_trans HSZ.out hb.size); clear hb
    go_wp2
    go_ret
    exact ⟨ret_int HV.out.symm, by first | exact HB.out | (rw [HBE.out]; exact HB.out)⟩
  | true =>
    replace HV := Lib.hid (HV.out.trans (show _ = bestN x.l x.dat.os x.os.length by rw [q]; rfl))
    rw [q] at HI
    have hv := q
    clear q
    have HTS := Lib.hid (fun k (hk : k < x.os.length) => show bestN x.l x.dat.os (k + 1) = nxStep x.l (bestN x.l x.dat.os k) (x.os[k]).d by
      rw [bestN_next (by show k < (x.os.map OrR.d).length; simpa using hk)]
      congr 1
      exact List.getElem_map OrR.d)
    have HT0 := Lib.hid (show bestN x.l x.dat.os 0 = -1 by unfold bestN; rfl)
    have HNN := Lib.hid (fun k (hk : k ≤ x.os.length) => bestN_nonneg hv k hk)
    have HWY := Lib.hid (fun k (hk : k < x.os.length) => isw_way hv hk)
    have HOR := Lib.hid (fun k (hk : k < x.os.length) => HZ.out.way _ (List.getElem_mem hk))
    clear hv
    generalize bestN x.l x.dat.os = TT at *
    generalize hB : w.heap.size = B at *
    have HBE := Lib.hid hB
    go_enter Tryz.func22, Tryz.ntmps22
    go_upto_region 2 with (fail)
    clear hB
    generalize (w.alloc (.cells ⟨[.slice x.A0 x.l.length x.k0, .slice x.A1 x.zs.length x.k1, .int .i64 x.c, .slice x.A2 x.os.length x.k2, .slice x.A3 x.bs.length x.k3, .slice x.A4 x.cs.length x.k4, .int .i64 x.n, .slice x.A5 x.ss.length x.k5, .slice x.A6 x.sk.length x.k6, .int .i64 x.m]⟩ 42)) = V0 at *
    have b0_ := HX.out.bx.cell 0 _ rfl; have b1_ := HX.out.bx.cell 1 _ rfl; have b2_ := HX.out.bx.cell 2 _ rfl; have b3_ := HX.out.bx.cell 3 _ rfl; have b4_ := HX.out.bx.cell 4 _ rfl; have b5_ := HX.out.bx.cell 5 _ rfl; have b6_ := HX.out.bx.cell 6 _ rfl; have b7_ := HX.out.bx.cell 7 _ rfl; have b8_ := HX.out.bx.cell 8 _ rfl; have b9_ := HX.out.bx.cell 9 _ rfl
    go_wp2_with fail
    clear b0_ b1_ b2_ b3_ b4_ b5_ b6_ b7_ b8_ b9_
    refine (HI.out V0 HX.out.i).mono ?_; rintro e V1 ⟨rfl, hb⟩
    replace HX := Lib.hid (HX.out.below hb); replace HB := Lib.hid (HB.out.trans (hb.mono HSZ.out)); replace HSZ := Lib.hid (Nat.le_trans HSZ.out hb.size); clear hb
    obtain ⟨L, hL⟩ : ∃ L, L = x.os.length := ⟨_, rfl⟩
    have HLE := Lib.hid hL
    have HLB := Lib.hid (show L ≤ 1048576 by rw [hL]; exact HZ.out.os)
    rw [← hL] at HV
    clear hL
    have ht0 := HT0.out
    have b3_ := HX.out.bx.cell 3 _ rfl
    go_wp2
    clear b3_
    go_loopw [3, 4] (fun t i wr => ∃ k : Nat, i = .int .i64 k ∧ k ≤ L ∧ t = .int .i64 (TT k) ∧ Hid (Below V1.heap.size V1 wr)) (fun _ i _ => L - (intOf i).toNat)
    case atStart => exact ⟨0, rfl, Nat.zero_le _, by rw [ht0], Lib.hid (Below.refl _ _)⟩
    case round =>
      clear ht0
      obtain ⟨k, rfl, hk, rfl, hbw⟩ := hrel
      have HX0 := HX; have HB0 := HB; have HS0 := HSZ
      replace HX := Lib.hid (HX0.out.below hbw.out); replace HB := Lib.hid (HB0.out.trans (hbw.out.mono HS0.out)); replace HSZ := Lib.hid (Nat.le_trans HS0.out hbw.out.size)
      have b3_ := HX.out.bx.cell 3 _ rfl
      rw [← HLE.out] at b3_
      by_cases hlt : (k : Int) < (L : Int)
      · have hkl : k < x.os.length := by rw [← HLE.out]; omega
        obtain ⟨g, hAe, hoa⟩ := orAt_of HX.out.i.os HX.out.i.way k hkl
        rw [hAe] at b3_
        clear hAe
        have HST := Lib.hid ((HTS.out k hkl).trans (show nxStep x.l (TT k) (x.os[k]).d = (if nxO x.l (x.os[k]).d = -1 then TT k else if TT k = -1 then nxO x.l (x.os[k]).d else if nxO x.l (x.os[k]).d < TT k then nxO x.l (x.os[k]).d else TT k) from rfl))
        have hob := HOR.out k hkl
        have hwy := way_of (HWY.out k hkl)
        have HNK := Lib.hid (HNN.out k (by omega))
        generalize hTe : nxO x.l (x.os[k]).d = T at *
        generalize x.os[k] = z at *
        clear hkl
        obtain ⟨zf, zt, zs, zm, za, zu, zh, zg, zz, zp, ze, zA, zk⟩ := z
        dsimp only [OrR.d] at hob hwy hTe
        obtain ⟨hT, hg0, hg1⟩ := hwy
        obtain ⟨q, rfl⟩ : ∃ q : Nat, zg = (q : Int) := ⟨zg.toNat, by omega⟩
        have hq : q ≤ zh.length := by omega
        clear hg0 hg1
        have HTR := Lib.hid (tripsB_iff.1 hT); clear hT
        have HNO := Lib.hid (hTe.symm.trans (show nxO x.l ⟨zf, zt, zs, zm, za, zu, zh, (q : Int), zz, zp, ze⟩ = (if (q : Int) = (zh.length : Int) then -1 else if zz = 2 then trE x.l (zh.getD q ⟨0, 0⟩) else trS x.l (zh.getD q ⟨0, 0⟩)) from rfl))
        clear hTe
        obtain ⟨N, hN⟩ : ∃ N, N = TT k := ⟨_, rfl⟩
        rw [← hN] at HST HNK ⊢
        clear hN
        have hL1 : L ≤ 1048576 := HLB.out
        have p0_ := hoa.c0
        have p1_ := hoa.c1
        have p2_ := hoa.c2
        have p3_ := hoa.c3
        have p4_ := hoa.c4
        have p5_ := hoa.c5
        have p6_ := hoa.c6
        have p7_ := hoa.c7
        have p8_ := hoa.c8
        have p9_ := hoa.c9
        have p10_ := hoa.c10
        dsimp only at p0_ p1_ p2_ p3_ p4_ p5_ p6_ p7_ p8_ p9_ p10_
        have hbA := (Below.refl wr.heap.size wr).alloc (Nat.le_refl _) (.cells ⟨[.string zf, .string zt, .int .i64 zs, .int .i64 zm, .int .i64 za, .int .i64 zu, .slice zA zh.length zk, .int .i64 (q : Int), .int .i64 zz, .string zp, .int .i64 ze]⟩ 73)
        have FO := Lib.hid (Bx.new (T := 73) wr [.string zf, .string zt, .int .i64 zs, .int .i64 zm, .int .i64 za, .int .i64 zu, .slice zA zh.length zk, .int .i64 (q : Int), .int .i64 zz, .string zp, .int .i64 ze])
        have HW := Lib.hid (show InK 2 tpC (wr.alloc (.cells ⟨[.string zf, .string zt, .int .i64 zs, .int .i64 zm, .int .i64 za, .int .i64 zu, .slice zA zh.length zk, .int .i64 (q : Int), .int .i64 zz, .string zp, .int .i64 ze]⟩ 73)) zA zh from hoa.way.below hbA)
        replace HX := Lib.hid (HX.out.below hbA); replace HB := Lib.hid (HB.out.trans (hbA.mono HSZ.out)); replace HSZ := Lib.hid (Nat.le_trans HSZ.out hbA.size); replace hbw := Lib.hid (hbw.out.trans (hbA.mono hbw.out.size))
        clear hbA hoa
        go_upto_region 8 with (fail)
        clear b3_ p0_ p1_ p2_ p3_ p4_ p5_ p6_ p7_ p8_ p9_ p10_
        generalize wr.heap.size = G at *
        change Hid (Bx 73 (wr.alloc (.cells ⟨[.string zf, .string zt, .int .i64 zs, .int .i64 zm, .int .i64 za, .int .i64 zu, .slice zA zh.length zk, .int .i64 (q : Int), .int .i64 zz, .string zp, .int .i64 ze]⟩ 73)) G [.string zf, .string zt, .int .i64 zs, .int .i64 zm, .int .i64 za, .int .i64 zu, .slice zA zh.length zk, .int .i64 (q : Int), .int .i64 zz, .string zp, .int .i64 ze]) at FO
        generalize wr.alloc (.cells ⟨[.string zf, .string zt, .int .i64 zs, .int .i64 zm, .int .i64 za, .int .i64 zu, .slice zA zh.length zk, .int .i64 (q : Int), .int .i64 zz, .string zp, .int .i64 ze]⟩ 73) = V2 at *
        have o6_ := FO.out.cell 6 _ rfl; have o7_ := FO.out.cell 7 _ rfl
        have hob1 := hob
        by_cases hql : q = zh.length
        · replace HNO := Lib.hid (HNO.out.trans (if_pos (by rw [hql])))
          have HNX := Lib.hid (HST.out.trans (if_pos HNO.out))
          have e1 : ((q : Int) == (zh.length : Int)) = true := by simp [hql]
          have HQL := Lib.hid hql; clear hql
          go_wp2
          go_roundw
          case rel => exact ⟨k + 1, by go_num, by omega, by rw [HNX.out], hbw⟩
          case measure => simp [intOf]; omega
        replace HNO := Lib.hid (HNO.out.trans (if_neg (by omega)))
        have e1 : ((q : Int) == (zh.length : Int)) = false := beq_eq_false_iff_ne.2 (by omega)
        have hqn : q < zh.length := by omega
        clear hql
        have hw := HW.out
        obtain ⟨ga, hAe, hga, t0_, t1_⟩ := hw.tp q hqn
        have HAE := Lib.hid hAe; clear hAe hw
        have HGD := Lib.hid (getD_at hqn)
        rw [HGD.out] at HNO
        have htr := HTR.out.2 q hqn
        have HTQ := Lib.hid htr; clear htr
        generalize zh[q] = y at *
        obtain ⟨yg, yd⟩ := y
        dsimp only at t0_ t1_
        have HTN := Lib.hid (trS_nonneg HTQ.out)
        go_upto_region 9 with (fail)
        clear o6_ o7_
        have o6_ := FO.out.cell 6 _ rfl; have o7_ := FO.out.cell 7 _ rfl
        rw [HAE.out] at o6_
        have b0_ := HX.out.bx.cell 0 _ rfl; have b1_ := HX.out.bx.cell 1 _ rfl; have b2_ := HX.out.bx.cell 2 _ rfl
        have hol := FO.out.lt; have hxl := HX.out.bx.lt
        have o6F := far_cell hol o6_; have o7F := far_cell hol o7_
        have b0F := far_cell hxl b0_; have b1F := far_cell hxl b1_; have b2F := far_cell hxl b2_
        have hq0 : (0 : Int) ≤ (q : Int) := by omega
        have hq1 : (q : Int) < (zh.length : Int) := by omega
        have t0F := far_cell hga t0_; have t1F := far_cell hga t1_
        clear o6_ o7_ b0_ b1_ b2_ hol hxl
        have HC := Lib.hid (fun x' => start_tp_spec ⟨yg, yd⟩ HTQ.out x.A0 x.k0 x.A1 x.k1 (far V2 x') (HX.out.below (below_far V2 x')).i.l (HX.out.below (below_far V2 x')).i.zs HZ.out.l)
        refine wp_region_far (by kernel_rfl) (by kernel_rfl) ?_
        repeat (any_goals (first | go_big_quiet_step ((go_at_call 63; with_reducible exact call_far (HC.out _))) | quiet_step ((go_at_call 63; with_reducible exact call_far (HC.out _)))))
        refine wpQuiet_nil ?_; intro V3 hw
        have hb : Below V2.heap.size V2 V3 := by obtain ⟨u, rfl⟩ := hw; exact below_far V2 u
        have t0n := (hb.cell (p := ⟨ga, q * 2, none⟩) hga).trans t0_; have t1n := (hb.cell (p := ⟨ga, q * 2 + 1, none⟩) hga).trans t1_; clear t0_ t1_; have t0_ := t0n; have t1_ := t1n; clear t0n t1n; replace hga := Nat.lt_of_lt_of_le hga hb.size
        replace HX := Lib.hid (HX.out.below hb); replace HB := Lib.hid (HB.out.trans (hb.mono HSZ.out)); replace HSZ := Lib.hid (Nat.le_trans HSZ.out hb.size); replace FO := Lib.hid (FO.out.below hb); replace HW := Lib.hid (HW.out.below hb); replace hbw := Lib.hid (hbw.out.trans (hb.mono hbw.out.size))
        clear hw hb HC o6F o7F b0F b1F b2F t0F t1F
        have o8_ := FO.out.cell 8 _ rfl
        by_cases h2 : zz = 2
        · replace HNO := Lib.hid (HNO.out.trans (if_pos h2))
          have e2 : (zz == 2) = true := by simp [h2]
          clear h2
          go_upto_region 11 with (fail)
          clear o8_
          have o6_ := FO.out.cell 6 _ rfl; have o7_ := FO.out.cell 7 _ rfl
          rw [HAE.out] at o6_
          have b0_ := HX.out.bx.cell 0 _ rfl; have b1_ := HX.out.bx.cell 1 _ rfl; have b2_ := HX.out.bx.cell 2 _ rfl
          have hol := FO.out.lt; have hxl := HX.out.bx.lt
          have o6F := far_cell hol o6_; have o7F := far_cell hol o7_
          have b0F := far_cell hxl b0_; have b1F := far_cell hxl b1_; have b2F := far_cell hxl b2_
          have hq0 : (0 : Int) ≤ (q : Int) := by omega
          have hq1 : (q : Int) < (zh.length : Int) := by omega
          have t0F := far_cell hga t0_; have t1F := far_cell hga t1_
          clear o6_ o7_ b0_ b1_ b2_ hol hxl
          have HC := Lib.hid (fun x' => end_tp_spec ⟨yg, yd⟩ HTQ.out x.A0 x.k0 x.A1 x.k1 (far V3 x') (HX.out.below (below_far V3 x')).i.l (HX.out.below (below_far V3 x')).i.zs HZ.out.l)
          refine wp_region_far (by kernel_rfl) (by kernel_rfl) ?_
          repeat (any_goals (first | go_big_quiet_step ((go_at_call 64; with_reducible exact call_far (HC.out _))) | quiet_step ((go_at_call 64; with_reducible exact call_far (HC.out _)))))
          refine wpQuiet_nil ?_; intro V4 hw
          have hb : Below V3.heap.size V3 V4 := by obtain ⟨u, rfl⟩ := hw; exact below_far V3 u
          have t0n := (hb.cell (p := ⟨ga, q * 2, none⟩) hga).trans t0_; have t1n := (hb.cell (p := ⟨ga, q * 2 + 1, none⟩) hga).trans t1_; clear t0_ t1_; have t0_ := t0n; have t1_ := t1n; clear t0n t1n; replace hga := Nat.lt_of_lt_of_le hga hb.size
          replace HX := Lib.hid (HX.out.below hb); replace HB := Lib.hid (HB.out.trans (hb.mono HSZ.out)); replace HSZ := Lib.hid (Nat.le_trans HSZ.out hb.size); replace FO := Lib.hid (FO.out.below hb); replace HW := Lib.hid (HW.out.below hb); replace hbw := Lib.hid (hbw.out.trans (hb.mono hbw.out.size))
          clear hw hb HC o6F o7F b0F b1F b2F t0F t1F
          generalize trE x.l ⟨yg, yd⟩ = TE at *
          have hT1 : ¬ T = -1 := by have h1 := HNO.out; have h2 := HTN.out; omega
          replace HST := Lib.hid (HST.out.trans (if_neg hT1))
          clear hT1
          rw [HNO.out] at HST
          by_cases a2 : N = -1
          · have HNX := Lib.hid (HST.out.trans (if_pos a2))
            have d2 : decide (N < 0) = true := decide_eq_true (by omega)
            have HA1 := Lib.hid a2; clear a2
            go_wp2
            go_roundw
            case rel => exact ⟨k + 1, by go_num, by omega, by rw [HNX.out], hbw⟩
            case measure => simp [intOf]; omega
          replace HST := Lib.hid (HST.out.trans (if_neg a2))
          have d2 : decide (N < 0) = false := decide_eq_false (by have := HNK.out; omega)
          clear a2
          by_cases a3 : TE < N
          · have HNX := Lib.hid (HST.out.trans (if_pos a3))
            have d3 : decide (TE < N) = true := decide_eq_true a3
            clear a3
            go_wp2
            go_roundw
            case rel => exact ⟨k + 1, by go_num, by omega, by rw [HNX.out], hbw⟩
            case measure => simp [intOf]; omega
          have HNX := Lib.hid (HST.out.trans (if_neg a3))
          have d3 : decide (TE < N) = false := decide_eq_false a3
          clear a3
          go_wp2
          go_roundw
          case rel => exact ⟨k + 1, by go_num, by omega, by rw [HNX.out], hbw⟩
          case measure => simp [intOf]; omega
        replace HNO := Lib.hid (HNO.out.trans (if_neg h2))
        have e2 : (zz == 2) = false := by simp [h2]
        clear h2
        generalize trS x.l ⟨yg, yd⟩ = TS at *
        have hT1 : ¬ T = -1 := by have h1 := HNO.out; have h2 := HTN.out; omega
        replace HST := Lib.hid (HST.out.trans (if_neg hT1))
        clear hT1
        rw [HNO.out] at HST
        by_cases a2 : N = -1
        · have HNX := Lib.hid (HST.out.trans (if_pos a2))
          have d2 : decide (N < 0) = true := decide_eq_true (by omega)
          have HA1 := Lib.hid a2; clear a2
          go_wp2
          go_roundw
          case rel => exact ⟨k + 1, by go_num, by omega, by rw [HNX.out], hbw⟩
          case measure => simp [intOf]; omega
        replace HST := Lib.hid (HST.out.trans (if_neg a2))
        have d2 : decide (N < 0) = false := decide_eq_false (by have := HNK.out; omega)
        clear a2
        by_cases a3 : TS < N
        · have HNX := Lib.hid (HST.out.trans (if_pos a3))
          have d3 : decide (TS < N) = true := decide_eq_true a3
          clear a3
          go_wp2
          go_roundw
          case rel => exact ⟨k + 1, by go_num, by omega, by rw [HNX.out], hbw⟩
          case measure => simp [intOf]; omega
        have HNX := Lib.hid (HST.out.trans (if_neg a3))
        have d3 : decide (TS < N) = false := decide_eq_false a3
        clear a3
        go_wp2
        go_roundw
        case rel => exact ⟨k + 1, by go_num, by omega, by rw [HNX.out], hbw⟩
        case measure => simp [intOf]; omega
      · obtain rfl : k = L := by omega
        go_wp2
        go_ret
        exact ⟨ret_int HV.out.symm, by first | exact HB.out | (rw [HBE.out]; exact HB.out)⟩
end Go.Proofs.YtadcmngooobeiaaGreat

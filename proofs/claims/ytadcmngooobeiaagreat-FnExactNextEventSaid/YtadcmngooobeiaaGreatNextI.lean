/- What happens next: nextEvent of an order, of a world; NextEvent of the program. Written by mk/nexte.py. -/
import Derived.Test.YtadcmngooobeiaaGreatIswX
namespace Go.Proofs.YtadcmngooobeiaaGreat
open Go.RowKit
/-- when the next thing happens to an order, -1 if nothing does -/
def nxO (l : List Lg) (z : OrRD) : Int := if z.g = (z.h.length : Int) then -1 else if z.z = 2 then trE l (z.h.getD z.g.toNat ⟨0, 0⟩) else trS l (z.h.getD z.g.toNat ⟨0, 0⟩)
def nxStep (l : List Lg) (n : Int) (z : OrRD) : Int := if nxO l z = -1 then n else if n = -1 then nxO l z else if nxO l z < n then nxO l z else n
def bestN (l : List Lg) (os : List OrRD) (k : Nat) : Int := (os.take k).foldl (nxStep l) (-1)
def nextEB (d : Wd) : Int := if isWorB d then bestN d.l d.os d.os.length else -1
theorem bestN_next {l : List Lg} {os : List OrRD} {k : Nat} (h : k < os.length) : bestN l os (k + 1) = nxStep l (bestN l os k) os[k] := by
  unfold bestN; rw [List.take_succ_eq_append_getElem h, List.foldl_append]; rfl
theorem isw_way {x : Wp} (h : isWorB x.dat = true) {k : Nat} (hk : k < x.os.length) : wayB x.l x.zs x.c x.n (x.os[k]).d = true := by
  rw [isWor_eq] at h
  simp only [Bool.and_eq_true] at h
  obtain ⟨_, _, _, _, _, _, _, _, _, h4, _⟩ := h
  have h5 := List.all_eq_true.1 h4 k (List.mem_range.2 hk)
  rw [ordAt_get x k hk] at h5
  unfold ordB at h5
  simp only [Bool.and_eq_true] at h5
  exact h5.2.1
theorem trS_nonneg {l : List Lg} {zs : List Int} {x : Int} {t : Tp} (h : trB l zs x t = true) : 0 ≤ trS l t ∧ 0 ≤ trE l t := by
  obtain ⟨_, hd, k, hk, hkl, hlg, hok, _⟩ := trB_of h
  have h1 := leg_bd hok
  unfold trS trE; rw [hlg]; omega
theorem nxO_nonneg {l : List Lg} {zs : List Int} {c now : Int} {z : OrRD} (h : wayB l zs c now z = true) : nxO l z = -1 ∨ 0 ≤ nxO l z := by
  obtain ⟨hT, hg0, hg1⟩ := way_of h
  unfold nxO
  by_cases hq : z.g = (z.h.length : Int)
  · rw [if_pos hq]; exact .inl rfl
  · rw [if_neg hq]
    have hl : z.g.toNat < z.h.length := by omega
    have ht := trS_nonneg ((tripsB_iff.1 hT).2 z.g.toNat hl)
    rw [getD_at hl]
    split
    · exact .inr ht.2
    · exact .inr ht.1
theorem bestN_nonneg {x : Wp} (h : isWorB x.dat = true) : ∀ k, k ≤ x.os.length → bestN x.l x.dat.os k = -1 ∨ 0 ≤ bestN x.l x.dat.os k
  | 0, _ => .inl (by unfold bestN; rfl)
  | k + 1, hk => by
    have hk' : k < x.dat.os.length := by show k < (x.os.map OrR.d).length; simp; omega
    have ih := bestN_nonneg h k (by omega)
    have hn := nxO_nonneg (isw_way h (show k < x.os.length by omega))
    have he : x.dat.os[k] = (x.os[k]).d := List.getElem_map OrR.d
    rw [bestN_next hk', he]
    unfold nxStep
    split
    · exact ih
    · split
      · exact hn
      · split
        · exact hn
        · exact ih
set_option maxRecDepth 100000 in
set_option maxHeartbeats 4000000 in
theorem ord_next (z : OrR) (b o : Nat) (x : Wp) (w : World) (h : OrAt w b o z) (hi : WorIn w x) (hz : WorSz x) (hm : z.h.length ≤ 1048576) (hg : 0 ≤ z.g ∧ z.g ≤ z.h.length) (hT : tripsB x.l x.zs x.c z.h = true) :
    Calls Tryz.prog 111 #[.pointer (some ⟨b, o, none⟩), .agg #[.slice x.A0 x.l.length x.k0, .slice x.A1 x.zs.length x.k1, .int .i64 x.c]] w fun e w' => e = .returned (.int .i64 (nxO x.l z.d)) ∧ Below w.heap.size w w' := by
  obtain ⟨zf, zt, zs, zm, za, zu, zh, zg, zz, zp, ze, zA, zk⟩ := z
  dsimp only [OrR.d] at hm hg hT ⊢
  obtain ⟨q, rfl⟩ : ∃ q : Nat, zg = (q : Int) := ⟨zg.toNat, by omega⟩
  have hq : q ≤ zh.length := by omega
  clear hg
  have HTR := Lib.hid (tripsB_iff.1 hT); clear hT
  have HV := Lib.hid (show nxO x.l ⟨zf, zt, zs, zm, za, zu, zh, (q : Int), zz, zp, ze⟩ = (if (q : Int) = (zh.length : Int) then -1 else if zz = 2 then trE x.l (zh.getD q ⟨0, 0⟩) else trS x.l (zh.getD q ⟨0, 0⟩)) from rfl)
  generalize nxO x.l ⟨zf, zt, zs, zm, za, zu, zh, (q : Int), zz, zp, ze⟩ = V at *
  have hbA := (Below.refl w.heap.size w).alloc (Nat.le_refl _) (.cells ⟨[.slice x.A0 x.l.length x.k0, .slice x.A1 x.zs.length x.k1, .int .i64 x.c]⟩ 36)
  have HN := Lib.hid (Bx.new (T := 36) w [.slice x.A0 x.l.length x.k0, .slice x.A1 x.zs.length x.k1, .int .i64 x.c])
  have HO := Lib.hid (h.below hbA); have HI := Lib.hid (hi.below hbA)
  have HB := Lib.hid hbA; have HSZ := Lib.hid hbA.size
  have HZ := Lib.hid hz; have HM := Lib.hid hm
  clear h hi hbA hz hm
  generalize hB : w.heap.size = B at *
  have HBE := Lib.hid hB
  go_enter Tryz.func111, Tryz.ntmps111
  go_upto_region 1 with (fail)
  clear hB
  generalize (w.alloc (.cells ⟨[.slice x.A0 x.l.length x.k0, .slice x.A1 x.zs.length x.k1, .int .i64 x.c]⟩ 36)) = V0 at *
  have o6_ := HO.out.c6; have o7_ := HO.out.c7
  dsimp only at o6_ o7_
  have hol := HO.out.lt
  have o6F := far_cell hol o6_; have o7F := far_cell hol o7_
  clear o6_ o7_ hol
  by_cases hql : q = zh.length
  · replace HV := Lib.hid (HV.out.trans (if_pos (by rw [hql])))
    have e1 : ((q : Int) == (zh.length : Int)) = true := by simp [hql]
    have HQL := Lib.hid hql; clear hql
    refine wp_region_far (by kernel_rfl) (by kernel_rfl) ?_
    repeat (any_goals (first | go_big_quiet_step (fail) | quiet_step (fail)))
    refine wpQuiet_nil ?_; intro V1 hw
    have hb : Below V0.heap.size V0 V1 := by obtain ⟨u, rfl⟩ := hw; exact below_far V0 u
    replace HN := Lib.hid (HN.out.below hb); replace HO := Lib.hid (HO.out.below hb); replace HI := Lib.hid (HI.out.below hb); replace HB := Lib.hid (HB.out.trans (hb.mono HSZ.out)); replace HSZ := Lib.hid (Nat.le_trans HSZ.out hb.size)
    clear hw hb o6F o7F
    go_wp2
    go_ret
    exact ⟨ret_int HV.out.symm, by first | exact HB.out | (rw [HBE.out]; exact HB.out)⟩
  · replace HV := Lib.hid (HV.out.trans (if_neg (by omega)))
    have e1 : ((q : Int) == (zh.length : Int)) = false := beq_eq_false_iff_ne.2 (by omega)
    have hqn : q < zh.length := by omega
    clear hql
    refine wp_region_far (by kernel_rfl) (by kernel_rfl) ?_
    repeat (any_goals (first | go_big_quiet_step (fail) | quiet_step (fail)))
    refine wpQuiet_nil ?_; intro V1 hw
    have hb : Below V0.heap.size V0 V1 := by obtain ⟨u, rfl⟩ := hw; exact below_far V0 u
    replace HN := Lib.hid (HN.out.below hb); replace HO := Lib.hid (HO.out.below hb); replace HI := Lib.hid (HI.out.below hb); replace HB := Lib.hid (HB.out.trans (hb.mono HSZ.out)); replace HSZ := Lib.hid (Nat.le_trans HSZ.out hb.size)
    clear hw hb o6F o7F
    have o8_ := HO.out.c8
    dsimp only at o8_
    have hw := HO.out.way
    dsimp only at hw
    obtain ⟨ga, hAe, hga, t0_, t1_⟩ := hw.tp q hqn
    have HAE := Lib.hid hAe; clear hAe hw
    have HGD := Lib.hid (getD_at hqn)
    rw [HGD.out] at HV
    have htr := HTR.out.2 q hqn
    have HTQ := Lib.hid htr; clear htr
    generalize zh[q] = y at *
    obtain ⟨yg, yd⟩ := y
    dsimp only at t0_ t1_
    have t0F := far_cell hga t0_; have t1F := far_cell hga t1_
    clear t0_ t1_
    by_cases h2 : zz = 2
    · replace HV := Lib.hid (HV.out.trans (if_pos h2))
      have e2 : (zz == 2) = true := by simp [h2]
      clear h2
      go_upto_region 4 with (fail)
      clear o8_
      have o6_ := HO.out.c6; have o7_ := HO.out.c7
      dsimp only at o6_ o7_
      rw [HAE.out] at o6_
      have hol := HO.out.lt; have hnl := HN.out.lt
      have o6F := far_cell hol o6_; have o7F := far_cell hol o7_
      have n0_ := HN.out.cell 0 _ rfl; have n1_ := HN.out.cell 1 _ rfl; have n2_ := HN.out.cell 2 _ rfl
      have n0F := far_cell hnl n0_; have n1F := far_cell hnl n1_; have n2F := far_cell hnl n2_
      have hq0 : (0 : Int) ≤ (q : Int) := by omega
      have hq1 : (q : Int) < (zh.length : Int) := by omega
      clear o6_ o7_ n0_ n1_ n2_ hol hnl
      have HC := Lib.hid (fun x' => end_tp_impl ⟨yg, yd⟩ HTQ.out x.A0 x.k0 x.A1 x.k1 (far V1 x') (HI.out.below (below_far V1 x')).l (HI.out.below (below_far V1 x')).zs HZ.out.l)
      refine wp_region_far (by kernel_rfl) (by kernel_rfl) ?_
      repeat (any_goals (first | go_big_quiet_step ((go_at_call 127; with_reducible exact call_far (HC.out _))) | quiet_step ((go_at_call 127; with_reducible exact call_far (HC.out _)))))
      refine wpQuiet_nil ?_; intro V2 hw
      have hb : Below V1.heap.size V1 V2 := by obtain ⟨u, rfl⟩ := hw; exact below_far V1 u
      replace HN := Lib.hid (HN.out.below hb); replace HO := Lib.hid (HO.out.below hb); replace HI := Lib.hid (HI.out.below hb); replace HB := Lib.hid (HB.out.trans (hb.mono HSZ.out)); replace HSZ := Lib.hid (Nat.le_trans HSZ.out hb.size)
      clear hw hb
      go_wp2
      go_ret
      exact ⟨ret_int HV.out.symm, by first | exact HB.out | (rw [HBE.out]; exact HB.out)⟩
    · replace HV := Lib.hid (HV.out.trans (if_neg h2))
      have e2 : (zz == 2) = false := by simp [h2]
      clear h2
      go_upto_region 5 with (fail)
      clear o8_
      have o6_ := HO.out.c6; have o7_ := HO.out.c7
      dsimp only at o6_ o7_
      rw [HAE.out] at o6_
      have hol := HO.out.lt; have hnl := HN.out.lt
      have o6F := far_cell hol o6_; have o7F := far_cell hol o7_
      have n0_ := HN.out.cell 0 _ rfl; have n1_ := HN.out.cell 1 _ rfl; have n2_ := HN.out.cell 2 _ rfl
      have n0F := far_cell hnl n0_; have n1F := far_cell hnl n1_; have n2F := far_cell hnl n2_
      have hq0 : (0 : Int) ≤ (q : Int) := by omega
      have hq1 : (q : Int) < (zh.length : Int) := by omega
      clear o6_ o7_ n0_ n1_ n2_ hol hnl
      have HC := Lib.hid (fun x' => start_tp_impl ⟨yg, yd⟩ HTQ.out x.A0 x.k0 x.A1 x.k1 (far V1 x') (HI.out.below (below_far V1 x')).l (HI.out.below (below_far V1 x')).zs HZ.out.l)
      refine wp_region_far (by kernel_rfl) (by kernel_rfl) ?_
      repeat (any_goals (first | go_big_quiet_step ((go_at_call 130; with_reducible exact call_far (HC.out _))) | quiet_step ((go_at_call 130; with_reducible exact call_far (HC.out _)))))
      refine wpQuiet_nil ?_; intro V2 hw
      have hb : Below V1.heap.size V1 V2 := by obtain ⟨u, rfl⟩ := hw; exact below_far V1 u
      replace HN := Lib.hid (HN.out.below hb); replace HO := Lib.hid (HO.out.below hb); replace HI := Lib.hid (HI.out.below hb); replace HB := Lib.hid (HB.out.trans (hb.mono HSZ.out)); replace HSZ := Lib.hid (Nat.le_trans HSZ.out hb.size)
      clear hw hb
      go_wp2
      go_ret
      exact ⟨ret_int HV.out.symm, by first | exact HB.out | (rw [HBE.out]; exact HB.out)⟩
set_option maxRecDepth 100000 in
set_option maxHeartbeats 4000000 in
theorem wor_next (x : Wp) (B : Nat) (w : World) (hx : WoAt w B x) (hz : WorSz x) (hv : isWorB x.dat = true) :
    Calls Tryz.prog 65 #[.pointer (some ⟨B, 0, none⟩)] w fun e w' => e = .returned (.int .i64 (bestN x.l x.dat.os x.os.length)) ∧ Below w.heap.size w w' := by
  have HX := Lib.hid hx; clear hx
  have HZ := Lib.hid hz; clear hz
  have HTS := Lib.hid (fun k (hk : k < x.os.length) => show bestN x.l x.dat.os (k + 1) = nxStep x.l (bestN x.l x.dat.os k) (x.os[k]).d by
    rw [bestN_next (by show k < (x.os.map OrR.d).length; simpa using hk)]
    congr 1
    exact List.getElem_map OrR.d)
  have HT0 := Lib.hid (show bestN x.l x.dat.os 0 = -1 by unfold bestN; rfl)
  have HWY := Lib.hid (fun k (hk : k < x.os.length) => isw_way hv hk)
  have HOR := Lib.hid (fun k (hk : k < x.os.length) => HZ.out.way _ (List.getElem_mem hk))
  clear hv
  generalize bestN x.l x.dat.os = TT at *
  obtain ⟨L, hL⟩ : ∃ L, L = x.os.length := ⟨_, rfl⟩
  have HLE := Lib.hid hL
  have HLB := Lib.hid (show L ≤ 1048576 by rw [hL]; exact HZ.out.os)
  have b3_ := HX.out.bx.cell 3 _ rfl
  rw [← hL] at b3_ ⊢
  clear hL
  have ht0 := HT0.out
  go_enter Tryz.func65, Tryz.ntmps65
  go_wp2
  clear b3_
  go_loopw [3, 11] (fun t i wr => ∃ k : Nat, i = .int .i64 k ∧ k ≤ L ∧ t = .int .i64 (TT k) ∧ Hid (Below w.heap.size w wr)) (fun _ i _ => L - (intOf i).toNat)
  case atStart => exact ⟨0, rfl, Nat.zero_le _, by rw [ht0], Lib.hid (Below.refl _ _)⟩
  case round =>
    clear ht0
    obtain ⟨k, rfl, hk, rfl, hbw⟩ := hrel
    have HXw := Lib.hid (HX.out.below hbw.out)
    by_cases hlt : (k : Int) < (L : Int)
    · have hkl : k < x.os.length := by rw [← HLE.out]; omega
      obtain ⟨g, hAe, hoa⟩ := orAt_of HXw.out.i.os HXw.out.i.way k hkl
      have HAE := Lib.hid hAe; clear hAe
      have HST := Lib.hid ((HTS.out k hkl).trans (show nxStep x.l (TT k) (x.os[k]).d = (if nxO x.l (x.os[k]).d = -1 then TT k else if TT k = -1 then nxO x.l (x.os[k]).d else if nxO x.l (x.os[k]).d < TT k then nxO x.l (x.os[k]).d else TT k) from rfl))
      have hob := HOR.out k hkl
      have hwy := way_of (HWY.out k hkl)
      have HON := Lib.hid (fun W (h1 : OrAt W g (k * 11) x.os[k]) (h2 : WorIn W x) => ord_next x.os[k] g (k * 11) x W h1 h2 HZ.out hob hwy.2 hwy.1)
      have HO := Lib.hid hoa
      clear hoa hob hwy
      generalize nxO x.l (x.os[k]).d = T at *
      generalize x.os[k] = z at *
      clear hkl
      obtain ⟨N, hN⟩ : ∃ N, N = TT k := ⟨_, rfl⟩
      rw [← hN] at HST ⊢
      clear hN
      have hL1 : L ≤ 1048576 := HLB.out
      go_upto_region 5 with (fail)
      have b3_ := HXw.out.bx.cell 3 _ rfl
      rw [← HLE.out, HAE.out] at b3_
      have b0_ := HXw.out.bx.cell 0 _ rfl; have b1_ := HXw.out.bx.cell 1 _ rfl; have b2_ := HXw.out.bx.cell 2 _ rfl
      have hxl := HXw.out.bx.lt
      have b0F := far_cell hxl b0_; have b1F := far_cell hxl b1_; have b2F := far_cell hxl b2_; have b3F := far_cell hxl b3_
      clear b0_ b1_ b2_ b3_ hxl
      have hk0 : (0 : Int) ≤ (k : Int) := by omega
      have HC := Lib.hid (fun x' => HON.out (far wr x') (HO.out.below (below_far wr x')) (HXw.out.below (below_far wr x')).i)
      refine wp_region_far (by kernel_rfl) (by kernel_rfl) ?_
      repeat (any_goals (first | go_big_quiet_step ((go_at_call 111; with_reducible exact call_far (HC.out _))) | quiet_step ((go_at_call 111; with_reducible exact call_far (HC.out _)))))
      refine wpQuiet_nil ?_; intro wz hw
      have hb : Below wr.heap.size wr wz := by obtain ⟨u, rfl⟩ := hw; exact below_far wr u
      replace hbw := Lib.hid (hbw.out.trans (hb.mono hbw.out.size))
      clear hw hb HC b0F b1F b2F b3F
      by_cases a1 : T = -1
      · have HNX := Lib.hid (HST.out.trans (if_pos a1))
        have d1 : (T != -1) = false := by simp [a1]
        have HA1 := Lib.hid a1; clear a1
        go_wp2
        go_roundw
        case rel => exact ⟨k + 1, by go_num, by omega, by rw [HNX.out], hbw⟩
        case measure => simp [intOf]; omega
      replace HST := Lib.hid (HST.out.trans (if_neg a1))
      have d1 : (T != -1) = true := by simp [a1]
      by_cases a2 : N = -1
      · have HNX := Lib.hid (HST.out.trans (if_pos a2))
        have d2 : (N == -1) = true := by simp [a2]
        have HA1 := Lib.hid (And.intro a1 a2); clear a1 a2
        go_wp2
        go_roundw
        case rel => exact ⟨k + 1, by go_num, by omega, by rw [HNX.out], hbw⟩
        case measure => simp [intOf]; omega
      replace HST := Lib.hid (HST.out.trans (if_neg a2))
      have d2 : (N == -1) = false := by simp [a2]
      clear a1 a2
      by_cases a3 : T < N
      · have HNX := Lib.hid (HST.out.trans (if_pos a3))
        have d3 : decide (T < N) = true := decide_eq_true a3
        clear a3
        go_wp2
        go_roundw
        case rel => exact ⟨k + 1, by go_num, by omega, by rw [HNX.out], hbw⟩
        case measure => simp [intOf]; omega
      have HNX := Lib.hid (HST.out.trans (if_neg a3))
      have d3 : decide (T < N) = false := decide_eq_false a3
      clear a3
      go_wp2
      go_roundw
      case rel => exact ⟨k + 1, by go_num, by omega, by rw [HNX.out], hbw⟩
      case measure => simp [intOf]; omega
    · obtain rfl : k = L := by omega
      go_wp2
      go_ret
      exact ⟨rfl, hbw.out⟩
set_option maxRecDepth 100000 in
set_option maxHeartbeats 4000000 in
theorem nextE_impl (x : Wp) (w : World) (hR : WorIn w x) (hz : WorSz x) :
    Calls Tryz.prog 23 #[worV x] w fun e w' => e = .returned (.int .i64 (nextEB x.dat)) ∧ Below w.heap.size w w' := by
  dsimp only [worV]
  have HL := Lib.hid (show x.dat.os.length = x.os.length by show (x.os.map OrR.d).length = _; simp)
  have HV := Lib.hid (show nextEB x.dat = (if isWorB x.dat = true then bestN x.l x.dat.os x.os.length else -1) by unfold nextEB; rw [HL.out]; rfl)
  have HZ := Lib.hid hz; clear hz
  have hbA := (Below.refl w.heap.size w).alloc (Nat.le_refl _) (.cells ⟨[.slice x.A0 x.l.length x.k0, .slice x.A1 x.zs.length x.k1, .int .i64 x.c, .slice x.A2 x.os.length x.k2, .slice x.A3 x.bs.length x.k3, .slice x.A4 x.cs.length x.k4, .int .i64 x.n, .slice x.A5 x.ss.length x.k5, .slice x.A6 x.sk.length x.k6, .int .i64 x.m]⟩ 42)
  have HX := Lib.hid (show WoAt (w.alloc (.cells ⟨[.slice x.A0 x.l.length x.k0, .slice x.A1 x.zs.length x.k1, .int .i64 x.c, .slice x.A2 x.os.length x.k2, .slice x.A3 x.bs.length x.k3, .slice x.A4 x.cs.length x.k4, .int .i64 x.n, .slice x.A5 x.ss.length x.k5, .slice x.A6 x.sk.length x.k6, .int .i64 x.m]⟩ 42)) w.heap.size x from ⟨Bx.new w _, hR.below hbA⟩)
  have HB := Lib.hid hbA
  have HSZ := Lib.hid hbA.size
  clear hbA hR
  have HI := Lib.hid (fun W (h : WorIn W x) => isw_impl x W h HZ.out)
  dsimp only [worV] at HI
  generalize nextEB x.dat = V at *
  cases q : isWorB x.dat with
  | false =>
    replace HV := Lib.hid (HV.out.trans (show _ = -1 by rw [q]; rfl))
    rw [q] at HI
    clear q
    generalize hB : w.heap.size = B at *
    have HBE := Lib.hid hB
    go_enter Tryz.func23, Tryz.ntmps23
    go_upto_region 1 with (fail)
    clear hB
    generalize (w.alloc (.cells ⟨[.slice x.A0 x.l.length x.k0, .slice x.A1 x.zs.length x.k1, .int .i64 x.c, .slice x.A2 x.os.length x.k2, .slice x.A3 x.bs.length x.k3, .slice x.A4 x.cs.length x.k4, .int .i64 x.n, .slice x.A5 x.ss.length x.k5, .slice x.A6 x.sk.length x.k6, .int .i64 x.m]⟩ 42)) = V0 at *
    have b0_ := HX.out.bx.cell 0 _ rfl; have b1_ := HX.out.bx.cell 1 _ rfl; have b2_ := HX.out.bx.cell 2 _ rfl; have b3_ := HX.out.bx.cell 3 _ rfl; have b4_ := HX.out.bx.cell 4 _ rfl; have b5_ := HX.out.bx.cell 5 _ rfl; have b6_ := HX.out.bx.cell 6 _ rfl; have b7_ := HX.out.bx.cell 7 _ rfl; have b8_ := HX.out.bx.cell 8 _ rfl; have b9_ := HX.out.bx.cell 9 _ rfl
    go_wp2_with fail
    clear b0_ b1_ b2_ b3_ b4_ b5_ b6_ b7_ b8_ b9_
    refine (HI.out V0 HX.out.i).mono ?_; rintro e V1 ⟨rfl, hb⟩
    replace HX := Lib.hid (HX.out.below hb); replace HB := Lib.hid (HB.out.trans (hb.mono HSZ.out)); replace HSZ := Lib.hid (Nat.le_trans HSZ.out hb.size); clear hb
    go_wp2
    go_ret
    exact ⟨ret_int HV.out.symm, by first | exact HB.out | (rw [HBE.out]; exact HB.out)⟩
  | true =>
    replace HV := Lib.hid (HV.out.trans (show _ = bestN x.l x.dat.os x.os.length by rw [q]; rfl))
    rw [q] at HI
    have HQ := Lib.hid q
    clear q
    generalize hB : w.heap.size = B at *
    have HBE := Lib.hid hB
    go_enter Tryz.func23, Tryz.ntmps23
    go_upto_region 1 with (fail)
    clear hB
    generalize (w.alloc (.cells ⟨[.slice x.A0 x.l.length x.k0, .slice x.A1 x.zs.length x.k1, .int .i64 x.c, .slice x.A2 x.os.length x.k2, .slice x.A3 x.bs.length x.k3, .slice x.A4 x.cs.length x.k4, .int .i64 x.n, .slice x.A5 x.ss.length x.k5, .slice x.A6 x.sk.length x.k6, .int .i64 x.m]⟩ 42)) = V0 at *
    have b0_ := HX.out.bx.cell 0 _ rfl; have b1_ := HX.out.bx.cell 1 _ rfl; have b2_ := HX.out.bx.cell 2 _ rfl; have b3_ := HX.out.bx.cell 3 _ rfl; have b4_ := HX.out.bx.cell 4 _ rfl; have b5_ := HX.out.bx.cell 5 _ rfl; have b6_ := HX.out.bx.cell 6 _ rfl; have b7_ := HX.out.bx.cell 7 _ rfl; have b8_ := HX.out.bx.cell 8 _ rfl; have b9_ := HX.out.bx.cell 9 _ rfl
    go_wp2_with fail
    clear b0_ b1_ b2_ b3_ b4_ b5_ b6_ b7_ b8_ b9_
    refine (HI.out V0 HX.out.i).mono ?_; rintro e V1 ⟨rfl, hb⟩
    replace HX := Lib.hid (HX.out.below hb); replace HB := Lib.hid (HB.out.trans (hb.mono HSZ.out)); replace HSZ := Lib.hid (Nat.le_trans HSZ.out hb.size); clear hb
    go_wp2_with fail
    refine (wor_next x B V1 HX.out HZ.out HQ.out).mono ?_; rintro e V2 ⟨rfl, hb⟩
    replace HX := Lib.hid (HX.out.below hb); replace HB := Lib.hid (HB.out.trans (hb.mono HSZ.out)); replace HSZ := Lib.hid (Nat.le_trans HSZ.out hb.size); clear hb
    go_wp2
    go_ret
    exact ⟨ret_int HV.out.symm, by first | exact HB.out | (rw [HBE.out]; exact HB.out)⟩
end Go.Proofs.YtadcmngooobeiaaGreat

/- The reference's IsWorld. Written by mk/isw11.py. -/
import Derived.Test.YtadcmngooobeiabGreatIswI
import Derived.Test.YtadcmngooobeiabGreatIswV
import Derived.Test.YtadcmngooobeiabGreatIswP
import Derived.Test.YtadcmngooobeiabGreatAreBS
namespace Go.Proofs.YtadcmngooobeiabGreat
open Go.RowKit
theorem isWor_eq (x : Wp) : isWorB x.dat = (bksB x.l x.zs x.c x.bs && (inB x.n 0 100000 && (decide (x.os.length ≤ 30) && (decide (x.cs.length ≤ 20) && (decide (x.ss.length ≤ 200) && (decide (x.sk.length ≤ 50) && (inB x.m (x.ss.length : Int) 1000000000 && ((distB x.cs && tripsB x.l x.zs x.c x.cs) && (x.ss.all (scanOk x.l x.zs x.c x.n) && ((List.range x.os.length).all (ordAt x.dat) && (((x.bs.length : Int) == ((totH x.dat.os x.os.length : Nat) : Int))))))))))))) := by
  have h1 : ordersW x.dat = (decide (x.os.length ≤ 30) && ((List.range x.os.length).all (ordAt x.dat) && ((x.bs.length : Int) == ((totH x.dat.os x.os.length : Nat) : Int)))) := by
    unfold ordersW
    have e : x.dat.os.length = x.os.length := by show (x.os.map OrR.d).length = _; simp
    rw [e]; rfl
  have e2 : decide ((x.sk.length : Int) ≤ 50) = decide (x.sk.length ≤ 50) := decide_eq_decide.2 (by omega)
  show (bksB x.l x.zs x.c x.bs && (decide (0 ≤ x.n) && (decide (x.n ≤ 100000) && (closedW x.l x.zs x.c x.cs && (scansW x.l x.zs x.c x.n x.m x.ss && (decide ((x.sk.length : Int) ≤ 50) && (ordersW x.dat))))))) = _
  rw [h1, e2]
  unfold closedW scansW inB
  simp only [Bool.decide_and]
  ac_rfl
theorem bks_netT {l : List Lg} {zs : List Int} {x : Int} {bs : List Bk} (h : bksB l zs x bs = true) : netB l zs x = true := by
  cases e : netB l zs x with
  | true => rfl
  | false => rw [bks_net e] at h; cases h
theorem closed_no {l : List Lg} {zs : List Int} {c : Int} {cs : List Tp} (hn : netB l zs c = true) {j : Nat} (hj : j < cs.length) (h : r3B l zs (cs[j]).g (cs[j]).d = false ∨ anyE eqTp cs[j] (cs.take j) = true) : (distB cs && tripsB l zs c cs) = false := by
  rcases h with h | h
  · rw [trips_no hj (by rw [tr_r3 hn]; exact h), Bool.and_false]
  · rw [dist_no hj h, Bool.false_and]
theorem closed_yes {l : List Lg} {zs : List Int} {c : Int} {cs : List Tp} (hn : netB l zs c = true) (h : ∀ j (_ : j < cs.length), r3B l zs (cs[j]).g (cs[j]).d = true ∧ anyE eqTp cs[j] (cs.take j) = false) : (distB cs && tripsB l zs c cs) = true := by
  rw [dist_yes (fun j hj => (h j hj).2), tripsB_iff.2 ⟨hn, fun j hj => by rw [tr_r3 hn]; exact (h j hj).1⟩]; rfl
set_option maxRecDepth 100000 in
set_option maxHeartbeats 16000000 in
theorem isw_spec (x : Wp) (w : World) (hR : WorIn w x) (hz : WorSz x) :
    Calls Tryz.prog 29 #[worV x] w fun e w' => e = .returned (.bool (isWorB x.dat)) ∧ Below w.heap.size w w' := by
  dsimp only [worV]
  have HV := Lib.hid (isWor_eq x)
  have HG := Lib.hid (ordAt_get x)
  have HTS := Lib.hid (fun k (hk : k < x.os.length) => show totH x.dat.os (k + 1) = totH x.dat.os k + (x.os[k]).h.length by
    rw [totH_succ x.dat.os k (by show k < (x.os.map OrR.d).length; simpa using hk)]
    congr 1
    show ((x.os.map OrR.d)[k]'_).h.length = _
    simp [OrR.d])
  have HTL := Lib.hid (totH_le x.dat.os (fun z hz' => by
    obtain ⟨y, hy, rfl⟩ := List.mem_map.1 (show z ∈ x.os.map OrR.d from hz')
    exact hz.way y hy))
  have HTL2 := Lib.hid (fun k (hk : k ≤ x.os.length) => HTL.out k (by show k ≤ (x.os.map OrR.d).length; simpa using hk)); clear HTL
  have HOR := Lib.hid (fun k (hk : k < x.os.length) => hz.way _ (List.getElem_mem hk))
  generalize isWorB x.dat = V at *
  generalize totH x.dat.os = TT at *
  generalize ordAt x.dat = OA at *
  have ht0 : TT 0 = 0 := by have := HTL2.out 0 (Nat.zero_le _); omega
  have HT0 := Lib.hid ht0; clear ht0
  have hbA := (Below.refl w.heap.size w).alloc (Nat.le_refl _) (.cells ⟨[.slice x.A0 x.l.length x.k0, .slice x.A1 x.zs.length x.k1, .int .i64 x.c, .slice x.A2 x.os.length x.k2, .slice x.A3 x.bs.length x.k3, .slice x.A4 x.cs.length x.k4, .int .i64 x.n, .slice x.A5 x.ss.length x.k5, .slice x.A6 x.sk.length x.k6, .int .i64 x.m]⟩ 42)
  have HX := Lib.hid (show WoAt (w.alloc (.cells ⟨[.slice x.A0 x.l.length x.k0, .slice x.A1 x.zs.length x.k1, .int .i64 x.c, .slice x.A2 x.os.length x.k2, .slice x.A3 x.bs.length x.k3, .slice x.A4 x.cs.length x.k4, .int .i64 x.n, .slice x.A5 x.ss.length x.k5, .slice x.A6 x.sk.length x.k6, .int .i64 x.m]⟩ 42)) w.heap.size x from ⟨Bx.new w _, hR.below hbA⟩)
  have HB := Lib.hid hbA
  have HSZ := Lib.hid hbA.size
  have HZ := Lib.hid hz
  clear hbA hR hz
  generalize hB : w.heap.size = B at *
  have HBE := Lib.hid hB
  go_enter Tryz.func29, Tryz.ntmps29
  go_upto_region 1 with (fail)
  clear hB
  generalize (w.alloc (.cells ⟨[.slice x.A0 x.l.length x.k0, .slice x.A1 x.zs.length x.k1, .int .i64 x.c, .slice x.A2 x.os.length x.k2, .slice x.A3 x.bs.length x.k3, .slice x.A4 x.cs.length x.k4, .int .i64 x.n, .slice x.A5 x.ss.length x.k5, .slice x.A6 x.sk.length x.k6, .int .i64 x.m]⟩ 42)) = V0 at *
  have b0_ := HX.out.bx.cell 0 _ rfl
  have b1_ := HX.out.bx.cell 1 _ rfl
  have b2_ := HX.out.bx.cell 2 _ rfl
  have b3_ := HX.out.bx.cell 3 _ rfl
  have b4_ := HX.out.bx.cell 4 _ rfl
  have b5_ := HX.out.bx.cell 5 _ rfl
  have b6_ := HX.out.bx.cell 6 _ rfl
  have b7_ := HX.out.bx.cell 7 _ rfl
  have b8_ := HX.out.bx.cell 8 _ rfl
  have b9_ := HX.out.bx.cell 9 _ rfl
  go_wp2_with fail
  clear b0_ b1_ b2_ b3_ b4_ b5_ b6_ b7_ b8_ b9_
  refine (are_bks_spec x.A0 x.k0 x.l x.A1 x.k1 x.zs x.c x.A3 x.k3 x.bs V0 HX.out.i.l HX.out.i.zs HZ.out.ls HZ.out.l HZ.out.zs HX.out.i.bs HZ.out.bs).mono ?_; rintro e V1 ⟨rfl, hb⟩
  replace HX := Lib.hid (HX.out.below hb); replace HB := Lib.hid (HB.out.trans (hb.mono HSZ.out)); replace HSZ := Lib.hid (Nat.le_trans HSZ.out hb.size)
  clear hb
  have b0_ := HX.out.bx.cell 0 _ rfl
  have b1_ := HX.out.bx.cell 1 _ rfl
  have b2_ := HX.out.bx.cell 2 _ rfl
  have b3_ := HX.out.bx.cell 3 _ rfl
  have b4_ := HX.out.bx.cell 4 _ rfl
  have b5_ := HX.out.bx.cell 5 _ rfl
  have b6_ := HX.out.bx.cell 6 _ rfl
  have b7_ := HX.out.bx.cell 7 _ rfl
  have b8_ := HX.out.bx.cell 8 _ rfl
  have b9_ := HX.out.bx.cell 9 _ rfl
  cases q0 : bksB x.l x.zs x.c x.bs with
  | false =>
    have HVF := Lib.hid (HV.out.trans (show _ = false by rw [q0]; simp only [Bool.false_and]))
    go_wp2
    go_ret
    exact ⟨ret_bool HVF.out.symm, by first | exact HB.out | (rw [HBE.out]; exact HB.out)⟩
  | true =>
    have hT0 := Lib.hid q0; clear q0
    go_wp2_with fail
    refine (in_any x.n 0 100000 V1).mono ?_; rintro e u1 ⟨rfl, hu⟩; subst hu
    cases q1 : inB x.n 0 100000 with
    | false =>
      have HVF := Lib.hid (HV.out.trans (show _ = false by rw [q1]; simp only [Bool.false_and, Bool.and_false]))
      go_wp2
      go_ret
      exact ⟨ret_bool HVF.out.symm, by first | exact HB.out | (rw [HBE.out]; exact HB.out)⟩
    | true =>
      have hT1 := Lib.hid q1; clear q1
      by_cases q2 : x.os.length ≤ 30
      rotate_left
      · have hF2 : decide (x.os.length ≤ 30) = false := decide_eq_false q2
        have HVF := Lib.hid (HV.out.trans (show _ = false by rw [hF2]; simp only [Bool.false_and, Bool.and_false]))
        clear hF2
        go_wp2
        go_ret
        exact ⟨ret_bool HVF.out.symm, by first | exact HB.out | (rw [HBE.out]; exact HB.out)⟩
      have hT2 := Lib.hid (show decide (x.os.length ≤ 30) = true from decide_eq_true q2)
      by_cases q3 : x.cs.length ≤ 20
      rotate_left
      · have hF3 : decide (x.cs.length ≤ 20) = false := decide_eq_false q3
        have HVF := Lib.hid (HV.out.trans (show _ = false by rw [hF3]; simp only [Bool.false_and, Bool.and_false]))
        clear hF3
        go_wp2
        go_ret
        exact ⟨ret_bool HVF.out.symm, by first | exact HB.out | (rw [HBE.out]; exact HB.out)⟩
      have hT3 := Lib.hid (show decide (x.cs.length ≤ 20) = true from decide_eq_true q3)
      by_cases q4 : x.ss.length ≤ 200
      rotate_left
      · have hF4 : decide (x.ss.length ≤ 200) = false := decide_eq_false q4
        have HVF := Lib.hid (HV.out.trans (show _ = false by rw [hF4]; simp only [Bool.false_and, Bool.and_false]))
        clear hF4
        go_wp2
        go_ret
        exact ⟨ret_bool HVF.out.symm, by first | exact HB.out | (rw [HBE.out]; exact HB.out)⟩
      have hT4 := Lib.hid (show decide (x.ss.length ≤ 200) = true from decide_eq_true q4)
      by_cases q5 : x.sk.length ≤ 50
      rotate_left
      · have hF5 : decide (x.sk.length ≤ 50) = false := decide_eq_false q5
        have HVF := Lib.hid (HV.out.trans (show _ = false by rw [hF5]; simp only [Bool.false_and, Bool.and_false]))
        clear hF5
        go_wp2
        go_ret
        exact ⟨ret_bool HVF.out.symm, by first | exact HB.out | (rw [HBE.out]; exact HB.out)⟩
      have hT5 := Lib.hid (show decide (x.sk.length ≤ 50) = true from decide_eq_true q5)
      go_wp2_with fail
      refine (in_any x.m (x.ss.length : Int) 1000000000 V1).mono ?_; rintro e u6 ⟨rfl, hu⟩; subst hu
      cases q6 : inB x.m (x.ss.length : Int) 1000000000 with
      | false =>
        have HVF := Lib.hid (HV.out.trans (show _ = false by rw [q6]; simp only [Bool.false_and, Bool.and_false]))
        go_wp2
        go_ret
        exact ⟨ret_bool HVF.out.symm, by first | exact HB.out | (rw [HBE.out]; exact HB.out)⟩
      | true =>
        have hT6 := Lib.hid q6; clear q6
        replace HV := Lib.hid (HV.out.trans (show _ = ((distB x.cs && tripsB x.l x.zs x.c x.cs) && (x.ss.all (scanOk x.l x.zs x.c x.n) && ((List.range x.os.length).all (OA) && (((x.bs.length : Int) == ((TT x.os.length : Nat) : Int)))))) by rw [hT0.out, hT1.out, hT2.out, hT3.out, hT4.out, hT5.out, hT6.out]; rfl))
        have HNET := Lib.hid (bks_netT hT0.out)
        have HL30 := Lib.hid q2
        have HNOW := Lib.hid (inB_iff.1 hT1.out)
        clear hT0 hT1 hT2 hT3 hT4 hT5 hT6 q2 q3 q4 q5
        go_wp2
        clear b0_ b1_ b2_ b3_ b4_ b5_ b6_ b7_ b8_ b9_
        go_loopw [3] (fun i wr => ∃ k : Nat, i = .int .i64 k ∧ k ≤ x.cs.length ∧ Hid (∀ j (_ : j < x.cs.length), j < k → r3B x.l x.zs (x.cs[j]).g (x.cs[j]).d = true ∧ anyE eqTp x.cs[j] (x.cs.take j) = false) ∧ Hid (Below V1.heap.size V1 wr)) (fun i _ => x.cs.length - (intOf i).toNat)
        case atStart => exact ⟨0, rfl, Nat.zero_le _, Lib.hid (fun j _ h => absurd h (Nat.not_lt_zero j)), Lib.hid (Below.refl _ _)⟩
        case round =>
          obtain ⟨k, rfl, hk, hall, hbw⟩ := hrel
          have HX0 := HX; have HB0 := HB; have HS0 := HSZ; replace HX := Lib.hid (HX0.out.below hbw.out); replace HB := Lib.hid (HB0.out.trans (hbw.out.mono HS0.out)); replace HSZ := Lib.hid (Nat.le_trans HS0.out hbw.out.size)
          have b5_ := HX.out.bx.cell 5 _ rfl
          by_cases hlt : (k : Int) < (x.cs.length : Int)
          · have hkl : k < x.cs.length := by omega
            have hcap : x.cs.length ≤ x.k4 := HX.out.i.cap
            have hcsl : x.cs.length ≤ 1048576 := HZ.out.cs
            have hcs : InK 2 tpC wr x.A4 x.cs := HX.out.i.cs
            have htk := hcs.take k
            obtain ⟨ga, hAe, hga, c0_, c1_⟩ := hcs.tp k hkl
            rw [hAe] at b5_ htk
            have HIN := Lib.hid htk; clear hcs htk
            have HLK := Lib.hid (show (x.cs.take k).length = k by rw [List.length_take]; omega)
            have HH := Lib.hid (fun h => closed_no HNET.out (cs := x.cs) hkl h)
            have HN := Lib.hid (fun (h : r3B x.l x.zs (x.cs[k]).g (x.cs[k]).d = true ∧ anyE eqTp x.cs[k] (x.cs.take k) = false) j (hj : j < x.cs.length) (hjk : j < k + 1) => show r3B x.l x.zs (x.cs[j]).g (x.cs[j]).d = true ∧ anyE eqTp x.cs[j] (x.cs.take j) = false by
              by_cases e : j = k
              · subst e; exact h
              · exact hall.out j hj (by omega))
            clear hall
            have HAE := Lib.hid hAe; clear hAe
            generalize x.cs[k] = y at *
            obtain ⟨yg, yd⟩ := y
            dsimp only at c0_ c1_
            generalize hq : anyE eqTp ⟨yg, yd⟩ (x.cs.take k) = Q at *
            have HQ := Lib.hid hq; clear hq
            have c0F := far_cell hga c0_; have c1F := far_cell hga c1_
            clear c0_ c1_
            go_wp2_with fail
            clear b5_
            have b5_ := HX.out.bx.cell 5 _ rfl
            rw [HAE.out] at b5_
            have b0_ := HX.out.bx.cell 0 _ rfl; have b1_ := HX.out.bx.cell 1 _ rfl; have b2_ := HX.out.bx.cell 2 _ rfl
            have hxl := HX.out.bx.lt
            have b0F := far_cell hxl b0_
            have b1F := far_cell hxl b1_
            have b2F := far_cell hxl b2_
            have b5F := far_cell hxl b5_
            clear b0_ b1_ b2_ b5_ hxl
            have HC3 := Lib.hid (fun x' => runs3 x.A0 x.k0 x.l x.A1 x.k1 x.zs x.c yg yd (far wr x') (HX.out.below (below_far wr x')).i.l (HX.out.below (below_far wr x')).i.zs HZ.out.l HZ.out.zs)
            have HC6 := Lib.hid (fun x' => closedX_spec yg yd (some ⟨ga, 0, none⟩) x.k4 (x.cs.take k) (far wr x') (HIN.out.below (below_far wr x')) (by rw [HLK.out]; omega))
            rw [HLK.out, HQ.out] at HC6
            have hk0 : (0 : Int) ≤ (k : Int) := by omega
            have hkc : (k : Int) ≤ (x.k4 : Int) := by omega
            cases q3 : r3B x.l x.zs yg yd with
            | false =>
              rw [q3] at HC3
              have HVF := Lib.hid (HV.out.trans (show _ = false by rw [HH.out (.inl q3), Bool.false_and]))
              refine wp_region_far (by kernel_rfl) (by kernel_rfl) ?_
              repeat (any_goals (first | go_big_quiet_step ((go_at_call 60; with_reducible exact call_far (HC3.out _))) | quiet_step ((go_at_call 60; with_reducible exact call_far (HC3.out _)))))
              refine wpQuiet_nil ?_; intro wz hw
              have hb : Below wr.heap.size wr wz := by obtain ⟨u, rfl⟩ := hw; exact below_far wr u
              replace HB := Lib.hid (HB.out.trans (hb.mono HSZ.out)); replace HSZ := Lib.hid (Nat.le_trans HSZ.out hb.size); replace HX := Lib.hid (HX.out.below hb); replace hbw := Lib.hid (hbw.out.trans (hb.mono hbw.out.size))
              clear hw hb
              go_wp2
              go_ret
              exact ⟨ret_bool HVF.out.symm, by first | exact HB.out | (rw [HBE.out]; exact HB.out)⟩
            | true =>
              rw [q3] at HC3
              cases Q with
              | true =>
                have HVF := Lib.hid (HV.out.trans (show _ = false by rw [HH.out (.inr rfl), Bool.false_and]))
                refine wp_region_far (by kernel_rfl) (by kernel_rfl) ?_
                repeat (any_goals (first | go_big_quiet_step ((first | (go_at_call 60; with_reducible exact call_far (HC3.out _)) | (go_at_call 61; with_reducible exact call_far (HC6.out _)))) | quiet_step ((first | (go_at_call 60; with_reducible exact call_far (HC3.out _)) | (go_at_call 61; with_reducible exact call_far (HC6.out _))))))
                refine wpQuiet_nil ?_; intro wz hw
                have hb : Below wr.heap.size wr wz := by obtain ⟨u, rfl⟩ := hw; exact below_far wr u
                replace HB := Lib.hid (HB.out.trans (hb.mono HSZ.out)); replace HSZ := Lib.hid (Nat.le_trans HSZ.out hb.size); replace HX := Lib.hid (HX.out.below hb); replace hbw := Lib.hid (hbw.out.trans (hb.mono hbw.out.size))
                clear hw hb
                go_wp2
                go_ret
                exact ⟨ret_bool HVF.out.symm, by first | exact HB.out | (rw [HBE.out]; exact HB.out)⟩
              | false =>
                have HVN := Lib.hid (HN.out ⟨q3, rfl⟩)
                clear HH HN
                refine wp_region_far (by kernel_rfl) (by kernel_rfl) ?_
                repeat (any_goals (first | go_big_quiet_step ((first | (go_at_call 60; with_reducible exact call_far (HC3.out _)) | (go_at_call 61; with_reducible exact call_far (HC6.out _)))) | quiet_step ((first | (go_at_call 60; with_reducible exact call_far (HC3.out _)) | (go_at_call 61; with_reducible exact call_far (HC6.out _))))))
                refine wpQuiet_nil ?_; intro wz hw
                have hb : Below wr.heap.size wr wz := by obtain ⟨u, rfl⟩ := hw; exact below_far wr u
                replace HB := Lib.hid (HB.out.trans (hb.mono HSZ.out)); replace HSZ := Lib.hid (Nat.le_trans HSZ.out hb.size); replace HX := Lib.hid (HX.out.below hb); replace hbw := Lib.hid (hbw.out.trans (hb.mono hbw.out.size))
                clear hw hb
                go_wp2
                go_roundw
                case rel => exact ⟨k + 1, by go_num, by omega, HVN, hbw⟩
                case measure => simp [intOf]; omega
          · obtain rfl : k = x.cs.length := by omega
            replace HV := Lib.hid (HV.out.trans (show _ = (x.ss.all (scanOk x.l x.zs x.c x.n) && ((List.range x.os.length).all (OA) && (((x.bs.length : Int) == ((TT x.os.length : Nat) : Int))))) by rw [closed_yes HNET.out (fun j hj => hall.out j hj hj)]; rfl))
            clear hall
            clear HX0 HB0 HS0 hbw hlt hk
            obtain ⟨V2, hV2⟩ : ∃ V2 : World, V2 = wr := ⟨_, rfl⟩
            subst hV2
            go_wp2
            clear b5_
            go_loopw [4] (fun i wq => ∃ k : Nat, i = .int .i64 k ∧ k ≤ x.ss.length ∧ Hid (∀ j (_ : j < x.ss.length), j < k → scanOk x.l x.zs x.c x.n x.ss[j] = true) ∧ Hid (Below V2.heap.size V2 wq)) (fun i _ => x.ss.length - (intOf i).toNat)
            case atStart => exact ⟨0, rfl, Nat.zero_le _, Lib.hid (fun j _ h => absurd h (Nat.not_lt_zero j)), Lib.hid (Below.refl _ _)⟩
            case round =>
              obtain ⟨k, rfl, hk, hall, hbw⟩ := hrel
              have HX0 := HX; have HB0 := HB; have HS0 := HSZ; replace HX := Lib.hid (HX0.out.below hbw.out); replace HB := Lib.hid (HB0.out.trans (hbw.out.mono HS0.out)); replace HSZ := Lib.hid (Nat.le_trans HS0.out hbw.out.size)
              have b5_ := HX.out.bx.cell 7 _ rfl
              by_cases hlt : (k : Int) < (x.ss.length : Int)
              · have hkl : k < x.ss.length := by omega
                have hssl : x.ss.length ≤ 1048576 := HZ.out.ss
                have hss : InK 6 scC wr x.A5 x.ss := HX.out.i.ss
                obtain ⟨ga, hAe, hga, c0_, c1_, c2_, c3_, c4_, c5_⟩ := hss.sc k hkl
                have HAE := Lib.hid hAe; clear hAe hss
                rw [HAE.out] at b5_
                have HH := Lib.hid (fun h => allL_no (p := scanOk x.l x.zs x.c x.n) hkl h)
                have HN := Lib.hid (fun (h : scanOk x.l x.zs x.c x.n x.ss[k] = true) j (hj : j < x.ss.length) (hjk : j < k + 1) => show scanOk x.l x.zs x.c x.n x.ss[j] = true by
                  by_cases e : j = k
                  · subst e; exact h
                  · exact hall.out j hj (by omega))
                clear hall
                generalize x.ss[k] = y at *
                have HQ := Lib.hid (show scanOk x.l x.zs x.c x.n y = (decide (y.a ≤ x.n) && scB x.l x.zs x.c y) from rfl)
                have c0F := far_cell hga c0_
                have c1F := far_cell hga c1_
                have c2F := far_cell hga c2_
                have c3F := far_cell hga c3_
                have c4F := far_cell hga c4_
                have c5F := far_cell hga c5_
                clear c0_ c1_ c2_ c3_ c4_ c5_
                go_wp2_with fail
                clear b5_
                have b7_ := HX.out.bx.cell 7 _ rfl
                rw [HAE.out] at b7_
                have b0_ := HX.out.bx.cell 0 _ rfl; have b1_ := HX.out.bx.cell 1 _ rfl; have b2_ := HX.out.bx.cell 2 _ rfl; have b6_ := HX.out.bx.cell 6 _ rfl
                have hxl := HX.out.bx.lt
                have b0F := far_cell hxl b0_
                have b1F := far_cell hxl b1_
                have b2F := far_cell hxl b2_
                have b6F := far_cell hxl b6_
                have b7F := far_cell hxl b7_
                clear b0_ b1_ b2_ b6_ b7_ hxl
                have HC := Lib.hid (fun x' => is_sc_spec y.h y.a y.k y.p y.g y.d x.A0 x.k0 x.l x.A1 x.k1 x.zs x.c (far wr x') (HX.out.below (below_far wr x')).i.l (HX.out.below (below_far wr x')).i.zs HZ.out.ls HZ.out.l HZ.out.zs)
                cases q3 : scB x.l x.zs x.c y with
                | false =>
                  rw [show scB x.l x.zs x.c ⟨y.h, y.a, y.k, y.p, y.g, y.d⟩ = false from q3] at HC
                  have HVF := Lib.hid (HV.out.trans (show _ = false by rw [HH.out (HQ.out.trans (by rw [q3, Bool.and_false])), Bool.false_and]))
                  refine wp_region_far (by kernel_rfl) (by kernel_rfl) ?_
                  repeat (any_goals (first | go_big_quiet_step ((go_at_call 62; with_reducible exact call_far (HC.out _))) | quiet_step ((go_at_call 62; with_reducible exact call_far (HC.out _)))))
                  refine wpQuiet_nil ?_; intro wz hw
                  have hb : Below wr.heap.size wr wz := by obtain ⟨u, rfl⟩ := hw; exact below_far wr u
                  replace HB := Lib.hid (HB.out.trans (hb.mono HSZ.out)); replace HSZ := Lib.hid (Nat.le_trans HSZ.out hb.size); replace HX := Lib.hid (HX.out.below hb); replace hbw := Lib.hid (hbw.out.trans (hb.mono hbw.out.size))
                  clear hw hb
                  go_wp2
                  go_ret
                  exact ⟨ret_bool HVF.out.symm, by first | exact HB.out | (rw [HBE.out]; exact HB.out)⟩
                | true =>
                  rw [show scB x.l x.zs x.c ⟨y.h, y.a, y.k, y.p, y.g, y.d⟩ = true from q3] at HC
                  by_cases hA : y.a ≤ x.n
                  rotate_left
                  · have dA : decide (x.n < y.a) = true := decide_eq_true (by omega)
                    have HVF := Lib.hid (HV.out.trans (show _ = false by rw [HH.out (HQ.out.trans (by rw [decide_eq_false hA, Bool.false_and])), Bool.false_and]))
                    refine wp_region_far (by kernel_rfl) (by kernel_rfl) ?_
                    repeat (any_goals (first | go_big_quiet_step ((go_at_call 62; with_reducible exact call_far (HC.out _))) | quiet_step ((go_at_call 62; with_reducible exact call_far (HC.out _)))))
                    refine wpQuiet_nil ?_; intro wz hw
                    have hb : Below wr.heap.size wr wz := by obtain ⟨u, rfl⟩ := hw; exact below_far wr u
                    replace HB := Lib.hid (HB.out.trans (hb.mono HSZ.out)); replace HSZ := Lib.hid (Nat.le_trans HSZ.out hb.size); replace HX := Lib.hid (HX.out.below hb); replace hbw := Lib.hid (hbw.out.trans (hb.mono hbw.out.size))
                    clear hw hb
                    go_wp2
                    go_ret
                    exact ⟨ret_bool HVF.out.symm, by first | exact HB.out | (rw [HBE.out]; exact HB.out)⟩
                  have dA : decide (x.n < y.a) = false := decide_eq_false (by omega)
                  have HVN := Lib.hid (HN.out (HQ.out.trans (by rw [q3, decide_eq_true hA]; rfl)))
                  clear HH HN
                  refine wp_region_far (by kernel_rfl) (by kernel_rfl) ?_
                  repeat (any_goals (first | go_big_quiet_step ((go_at_call 62; with_reducible exact call_far (HC.out _))) | quiet_step ((go_at_call 62; with_reducible exact call_far (HC.out _)))))
                  refine wpQuiet_nil ?_; intro wz hw
                  have hb : Below wr.heap.size wr wz := by obtain ⟨u, rfl⟩ := hw; exact below_far wr u
                  replace HB := Lib.hid (HB.out.trans (hb.mono HSZ.out)); replace HSZ := Lib.hid (Nat.le_trans HSZ.out hb.size); replace HX := Lib.hid (HX.out.below hb); replace hbw := Lib.hid (hbw.out.trans (hb.mono hbw.out.size))
                  clear hw hb
                  go_wp2
                  go_roundw
                  case rel => exact ⟨k + 1, by go_num, by omega, HVN, hbw⟩
                  case measure => simp [intOf]; omega
              · obtain rfl : k = x.ss.length := by omega
                replace HV := Lib.hid (HV.out.trans (show _ = ((List.range x.os.length).all (OA) && (((x.bs.length : Int) == ((TT x.os.length : Nat) : Int)))) by rw [allL_yes (fun j hj => hall.out j hj hj)]; rfl))
                clear hall
                clear HX0 HB0 HS0 hbw hlt hk
                obtain ⟨V3, hV3⟩ : ∃ V3 : World, V3 = wr := ⟨_, rfl⟩
                subst hV3
                obtain ⟨L, hL⟩ : ∃ L, L = x.os.length := ⟨_, rfl⟩
                have HLE := Lib.hid hL
                rw [← hL] at HV
                clear hL
                have ht0 := HT0.out
                go_wp2
                clear b5_
                go_loopw [5, 6] (fun t i wq => ∃ k : Nat, i = .int .i64 k ∧ k ≤ L ∧ t = .int .i64 ((TT k : Nat) : Int) ∧ Hid (∀ j, j < k → OA j = true) ∧ Hid (Below V3.heap.size V3 wq)) (fun _ i _ => L - (intOf i).toNat)
                case atStart => exact ⟨0, rfl, Nat.zero_le _, by rw [ht0]; rfl, Lib.hid (fun j h => absurd h (Nat.not_lt_zero j)), Lib.hid (Below.refl _ _)⟩
                case round =>
                  clear ht0
                  obtain ⟨k, rfl, hk, rfl, hall, hbw⟩ := hrel
                  have HX0 := HX; have HB0 := HB; have HS0 := HSZ; replace HX := Lib.hid (HX0.out.below hbw.out); replace HB := Lib.hid (HB0.out.trans (hbw.out.mono HS0.out)); replace HSZ := Lib.hid (Nat.le_trans HS0.out hbw.out.size)
                  have b3_ := HX.out.bx.cell 3 _ rfl
                  rw [← HLE.out] at b3_
                  by_cases hlt : (k : Int) < (L : Int)
                  · have hkl : k < x.os.length := by rw [← HLE.out]; omega
                    have HQ := Lib.hid (HG.out k hkl)
                    have HST := Lib.hid (HTS.out k hkl)
                    have hob := HOR.out k hkl
                    have htk := HTL2.out k (by omega)
                    have HOS := Lib.hid (order_spec x k wr HX.out.i HZ.out hkl HNET.out HNOW.out)
                    have HORD := Lib.hid (fun W (h : WorIn W x) => orAt_of h.os h.way k hkl)
                    have HH := Lib.hid (fun h => rngL_no (p := OA) (show k < L by omega) h)
                    have HN := Lib.hid (fun (h : OA k = true) j (hjk : j < k + 1) => show OA j = true by
                      by_cases e : j = k
                      · subst e; exact h
                      · exact hall.out j (by omega))
                    clear hall
                    generalize ordB x.l x.zs x.c x.n x.bs x.cs ((k : Int) + 1) (x.os[k]).d = OB at *
                    generalize x.os[k] = z at *
                    have HM := Lib.hid hob
                    have hL30 : L ≤ 30 := by rw [HLE.out]; exact HL30.out
                    have htk2 : TT k ≤ 31457280 := by omega
                    clear htk hkl
                    have hos := HOS.out
                    dsimp only [worV] at hos
                    rw [← HLE.out] at hos
                    replace HOS := Lib.hid hos; clear hos
                    clear b3_
                    have b0_ := HX.out.bx.cell 0 _ rfl
                    have b1_ := HX.out.bx.cell 1 _ rfl
                    have b2_ := HX.out.bx.cell 2 _ rfl
                    have b3_ := HX.out.bx.cell 3 _ rfl
                    have b4_ := HX.out.bx.cell 4 _ rfl
                    have b5_ := HX.out.bx.cell 5 _ rfl
                    have b6_ := HX.out.bx.cell 6 _ rfl
                    have b7_ := HX.out.bx.cell 7 _ rfl
                    have b8_ := HX.out.bx.cell 8 _ rfl
                    have b9_ := HX.out.bx.cell 9 _ rfl
                    rw [← HLE.out] at b3_
                    go_wp2_with fail
                    clear b0_ b1_ b2_ b3_ b4_ b5_ b6_ b7_ b8_ b9_
                    refine HOS.out.mono ?_; rintro e wz ⟨rfl, hb⟩
                    replace HB := Lib.hid (HB.out.trans (hb.mono HSZ.out)); replace HSZ := Lib.hid (Nat.le_trans HSZ.out hb.size); replace HX := Lib.hid (HX.out.below hb); replace hbw := Lib.hid (hbw.out.trans (hb.mono hbw.out.size))
                    clear hb
                    have b3_ := HX.out.bx.cell 3 _ rfl
                    rw [← HLE.out] at b3_
                    cases OB with
                    | false =>
                      have HVF := Lib.hid (HV.out.trans (show _ = false by rw [HH.out HQ.out, Bool.false_and]))
                      go_wp2
                      go_ret
                      exact ⟨ret_bool HVF.out.symm, by first | exact HB.out | (rw [HBE.out]; exact HB.out)⟩
                    | true =>
                      have HVN := Lib.hid (HN.out HQ.out)
                      obtain ⟨g, hAe, hoa⟩ := HORD.out wz HX.out.i
                      rw [hAe] at b3_
                      have c6_ := hoa.c6
                      have hobm := HM.out
                      clear hAe hoa
                      go_wp2
                      go_roundw
                      case rel => exact ⟨k + 1, by go_num, by omega, by rw [HST.out]; go_num, HVN, hbw⟩
                      case measure => simp [intOf]; omega
                  · obtain rfl : k = L := by omega
                    replace HV := Lib.hid (HV.out.trans (show _ = (((TT k : Nat) : Int) == (x.bs.length : Int)) by rw [rngL_yes (fun j hj => hall.out j hj), Bool.true_and, BEq.comm]))
                    have b4_ := HX.out.bx.cell 4 _ rfl
                    cases hq : (((TT k : Nat) : Int) == (x.bs.length : Int)) with
                    | true =>
                      have HVF := Lib.hid (HV.out.trans hq)
                      go_wp2
                      go_ret
                      exact ⟨ret_bool HVF.out.symm, by first | exact HB.out | (rw [HBE.out]; exact HB.out)⟩
                    | false =>
                      have HVF := Lib.hid (HV.out.trans hq)
                      go_wp2
                      go_ret
                      exact ⟨ret_bool HVF.out.symm, by first | exact HB.out | (rw [HBE.out]; exact HB.out)⟩
end Go.Proofs.YtadcmngooobeiabGreat

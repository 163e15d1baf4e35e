/- The reference's l10Order. Written by mk/isw10.py. -/
import Derived.Test.YtadcmngooobeiabGreatIswO
import Derived.Test.YtadcmngooobeiabGreatIswU
import Derived.Test.YtadcmngooobeiabGreatIsWayS
namespace Go.Proofs.YtadcmngooobeiabGreat
open Go.RowKit
theorem terms_eq (l : List Lg) (now : Int) (z : OrRD) : termsB l now z = (!(z.f.toList == z.t.toList) && (Lib.containsS (placesB l) z.f && (Lib.containsS (placesB l) z.t && (inB z.s 1 3 && (inB z.m 1 30000 && (inB z.a 0 now && inB z.u 0 200000)))))) := by
  unfold termsB inB
  repeat (first | simp only [Bool.decide_and] | simp only [Bool.and_assoc])
theorem tr_r3 {l : List Lg} {zs : List Int} {x : Int} (h : netB l zs x = true) (t : Tp) : trB l zs x t = r3B l zs t.g t.d := by
  unfold trB ronB r3B
  rw [h, Bool.true_and]
theorem way_eq (l : List Lg) (zs : List Int) (c now : Int) (z : OrRD) : wayB l zs c now z = (tripsB l zs c z.h && (inB z.g 0 z.h.length && (iswB l zs c z.h z.f (ordPl l z z.h.length) (z.a + 1) && ((List.range z.h.length).all (noEnd l z) && goneB l now z)))) := by
  unfold wayB inB
  repeat (first | simp only [Bool.decide_and] | simp only [Bool.and_assoc])
/-- behind the first k trips of a way: each runs, is booked, and does not end at the end too early -/
def ordL1 (x : Wp) (i : Nat) (zm : Int) (zt : ByteArray) (zh : List Tp) (pl : Nat → ByteArray) (k : Nat) : Prop :=
  ∀ j (hj : j < zh.length), j < k → trB x.l x.zs x.c zh[j] = true ∧ anyE eqBk ⟨(i : Int) + 1, zh[j].g, zh[j].d, zm⟩ x.bs = true ∧ (j + 1 < zh.length → ((pl (j + 1)).toList == zt.toList) = false)
set_option maxRecDepth 100000 in
set_option maxHeartbeats 16000000 in
theorem order_spec (x : Wp) (i : Nat) (w : World) (hR : WorIn w x) (hz : WorSz x) (hi : i < x.os.length) (hnet : netB x.l x.zs x.c = true) (hnow : 0 ≤ x.n ∧ x.n ≤ 100000) :
    Calls Tryz.prog 63 #[worV x, .int .i64 (i : Int)] w fun e w' => e = .returned (.bool (ordB x.l x.zs x.c x.n x.bs x.cs ((i : Int) + 1) (x.os[i]).d)) ∧ Below w.heap.size w w' := by
  dsimp only [worV]
  have hm := hz.way _ (List.getElem_mem hi)
  have hbA := (Below.refl w.heap.size w).alloc (Nat.le_refl _) (.cells ⟨[.slice x.A0 x.l.length x.k0, .slice x.A1 x.zs.length x.k1, .int .i64 x.c, .slice x.A2 x.os.length x.k2, .slice x.A3 x.bs.length x.k3, .slice x.A4 x.cs.length x.k4, .int .i64 x.n, .slice x.A5 x.ss.length x.k5, .slice x.A6 x.sk.length x.k6, .int .i64 x.m]⟩ 42)
  have hX0 : WoAt (w.alloc (.cells ⟨[.slice x.A0 x.l.length x.k0, .slice x.A1 x.zs.length x.k1, .int .i64 x.c, .slice x.A2 x.os.length x.k2, .slice x.A3 x.bs.length x.k3, .slice x.A4 x.cs.length x.k4, .int .i64 x.n, .slice x.A5 x.ss.length x.k5, .slice x.A6 x.sk.length x.k6, .int .i64 x.m]⟩ 42)) w.heap.size x := ⟨Bx.new w _, hR.below hbA⟩
  have e0 : (w.alloc (.cells ⟨[.slice x.A0 x.l.length x.k0, .slice x.A1 x.zs.length x.k1, .int .i64 x.c, .slice x.A2 x.os.length x.k2, .slice x.A3 x.bs.length x.k3, .slice x.A4 x.cs.length x.k4, .int .i64 x.n, .slice x.A5 x.ss.length x.k5, .slice x.A6 x.sk.length x.k6, .int .i64 x.m]⟩ 42)).heap.size = w.heap.size + 1 := by simp
  have hbB := (Below.refl (w.alloc (.cells ⟨[.slice x.A0 x.l.length x.k0, .slice x.A1 x.zs.length x.k1, .int .i64 x.c, .slice x.A2 x.os.length x.k2, .slice x.A3 x.bs.length x.k3, .slice x.A4 x.cs.length x.k4, .int .i64 x.n, .slice x.A5 x.ss.length x.k5, .slice x.A6 x.sk.length x.k6, .int .i64 x.m]⟩ 42)).heap.size (w.alloc (.cells ⟨[.slice x.A0 x.l.length x.k0, .slice x.A1 x.zs.length x.k1, .int .i64 x.c, .slice x.A2 x.os.length x.k2, .slice x.A3 x.bs.length x.k3, .slice x.A4 x.cs.length x.k4, .int .i64 x.n, .slice x.A5 x.ss.length x.k5, .slice x.A6 x.sk.length x.k6, .int .i64 x.m]⟩ 42))).alloc (Nat.le_refl _) (.cells ⟨[.slice x.A0 x.l.length x.k0, .slice x.A1 x.zs.length x.k1, .int .i64 x.c]⟩ 36)
  have hX1 := hX0.below hbB
  have hN1 : Bx 36 ((w.alloc (.cells ⟨[.slice x.A0 x.l.length x.k0, .slice x.A1 x.zs.length x.k1, .int .i64 x.c, .slice x.A2 x.os.length x.k2, .slice x.A3 x.bs.length x.k3, .slice x.A4 x.cs.length x.k4, .int .i64 x.n, .slice x.A5 x.ss.length x.k5, .slice x.A6 x.sk.length x.k6, .int .i64 x.m]⟩ 42)).alloc (.cells ⟨[.slice x.A0 x.l.length x.k0, .slice x.A1 x.zs.length x.k1, .int .i64 x.c]⟩ 36)) (w.heap.size + 1) [.slice x.A0 x.l.length x.k0, .slice x.A1 x.zs.length x.k1, .int .i64 x.c] := by rw [← e0]; exact Bx.new _ _
  have e1 : ((w.alloc (.cells ⟨[.slice x.A0 x.l.length x.k0, .slice x.A1 x.zs.length x.k1, .int .i64 x.c, .slice x.A2 x.os.length x.k2, .slice x.A3 x.bs.length x.k3, .slice x.A4 x.cs.length x.k4, .int .i64 x.n, .slice x.A5 x.ss.length x.k5, .slice x.A6 x.sk.length x.k6, .int .i64 x.m]⟩ 42)).alloc (.cells ⟨[.slice x.A0 x.l.length x.k0, .slice x.A1 x.zs.length x.k1, .int .i64 x.c]⟩ 36)).heap.size = w.heap.size + 1 + 1 := by simp
  obtain ⟨g, hAe, hoa⟩ := orAt_of hX1.i.os hX1.i.way i hi
  have HLI := Lib.hid (show (i : Int) < (x.os.length : Int) by omega)
  have HIL := Lib.hid (show i < 1048576 from Nat.lt_of_lt_of_le hi hz.os)
  generalize x.os[i] = z at *
  obtain ⟨zf, zt, zs, zm, za, zu, zh, zg, zz, zp, ze, zA, zk⟩ := z
  dsimp only [OrR.d] at hm ⊢
  have hbC := (Below.refl ((w.alloc (.cells ⟨[.slice x.A0 x.l.length x.k0, .slice x.A1 x.zs.length x.k1, .int .i64 x.c, .slice x.A2 x.os.length x.k2, .slice x.A3 x.bs.length x.k3, .slice x.A4 x.cs.length x.k4, .int .i64 x.n, .slice x.A5 x.ss.length x.k5, .slice x.A6 x.sk.length x.k6, .int .i64 x.m]⟩ 42)).alloc (.cells ⟨[.slice x.A0 x.l.length x.k0, .slice x.A1 x.zs.length x.k1, .int .i64 x.c]⟩ 36)).heap.size ((w.alloc (.cells ⟨[.slice x.A0 x.l.length x.k0, .slice x.A1 x.zs.length x.k1, .int .i64 x.c, .slice x.A2 x.os.length x.k2, .slice x.A3 x.bs.length x.k3, .slice x.A4 x.cs.length x.k4, .int .i64 x.n, .slice x.A5 x.ss.length x.k5, .slice x.A6 x.sk.length x.k6, .int .i64 x.m]⟩ 42)).alloc (.cells ⟨[.slice x.A0 x.l.length x.k0, .slice x.A1 x.zs.length x.k1, .int .i64 x.c]⟩ 36))).alloc (Nat.le_refl _) (.cells ⟨[.string zf, .string zt, .int .i64 zs, .int .i64 zm, .int .i64 za, .int .i64 zu, .slice zA zh.length zk, .int .i64 zg, .int .i64 zz, .string zp, .int .i64 ze]⟩ 65)
  have HX := Lib.hid (hX1.below hbC)
  have FN := Lib.hid (hN1.below hbC)
  have FO := Lib.hid (show Bx 65 (((w.alloc (.cells ⟨[.slice x.A0 x.l.length x.k0, .slice x.A1 x.zs.length x.k1, .int .i64 x.c, .slice x.A2 x.os.length x.k2, .slice x.A3 x.bs.length x.k3, .slice x.A4 x.cs.length x.k4, .int .i64 x.n, .slice x.A5 x.ss.length x.k5, .slice x.A6 x.sk.length x.k6, .int .i64 x.m]⟩ 42)).alloc (.cells ⟨[.slice x.A0 x.l.length x.k0, .slice x.A1 x.zs.length x.k1, .int .i64 x.c]⟩ 36)).alloc (.cells ⟨[.string zf, .string zt, .int .i64 zs, .int .i64 zm, .int .i64 za, .int .i64 zu, .slice zA zh.length zk, .int .i64 zg, .int .i64 zz, .string zp, .int .i64 ze]⟩ 65)) (w.heap.size + 1 + 1) [.string zf, .string zt, .int .i64 zs, .int .i64 zm, .int .i64 za, .int .i64 zu, .slice zA zh.length zk, .int .i64 zg, .int .i64 zz, .string zp, .int .i64 ze] by rw [← e1]; exact Bx.new _ _)
  have HW := Lib.hid (show InK 2 tpC (((w.alloc (.cells ⟨[.slice x.A0 x.l.length x.k0, .slice x.A1 x.zs.length x.k1, .int .i64 x.c, .slice x.A2 x.os.length x.k2, .slice x.A3 x.bs.length x.k3, .slice x.A4 x.cs.length x.k4, .int .i64 x.n, .slice x.A5 x.ss.length x.k5, .slice x.A6 x.sk.length x.k6, .int .i64 x.m]⟩ 42)).alloc (.cells ⟨[.slice x.A0 x.l.length x.k0, .slice x.A1 x.zs.length x.k1, .int .i64 x.c]⟩ 36)).alloc (.cells ⟨[.string zf, .string zt, .int .i64 zs, .int .i64 zm, .int .i64 za, .int .i64 zu, .slice zA zh.length zk, .int .i64 zg, .int .i64 zz, .string zp, .int .i64 ze]⟩ 65)) zA zh from hoa.way.below hbC)
  have HB := Lib.hid (hbA.trans ((hbB.trans (hbC.mono hbB.size)).mono hbA.size))
  have HSZ := Lib.hid HB.out.size
  have b0_ := hX0.bx.cell 0 _ rfl
  have b1_ := hX0.bx.cell 1 _ rfl
  have b2_ := hX0.bx.cell 2 _ rfl
  have b3_ := hX1.bx.cell 3 _ rfl
  have n0_ := FN.out.cell 0 _ rfl
  have n1_ := FN.out.cell 1 _ rfl
  have n2_ := FN.out.cell 2 _ rfl
  have p0_ := hoa.c0
  have p1_ := hoa.c1
  have p2_ := hoa.c2
  have p3_ := hoa.c3
  have p4_ := hoa.c4
  have p5_ := hoa.c5
  have p6_ := hoa.c6
  have p7_ := hoa.c7
  have p8_ := hoa.c8
  have p9_ := hoa.c9
  have p10_ := hoa.c10
  dsimp only at p0_ p1_ p2_ p3_ p4_ p5_ p6_ p7_ p8_ p9_ p10_
  rw [hAe] at b3_ p0_ p1_ p2_ p3_ p4_ p5_ p6_ p7_ p8_ p9_ p10_
  have HZ := Lib.hid hz; have HM := Lib.hid hm; have HNET := Lib.hid hnet; have HNOW := Lib.hid hnow
  clear hz hm hnet hnow hX0 hX1 hN1 hbA hbB hbC hoa hR e0 e1 hi
  have HV := Lib.hid (show ordB x.l x.zs x.c x.n x.bs x.cs ((i : Int) + 1) ⟨zf, zt, zs, zm, za, zu, zh, zg, zz, zp, ze⟩ = (termsB x.l x.n ⟨zf, zt, zs, zm, za, zu, zh, zg, zz, zp, ze⟩ && (wayB x.l x.zs x.c x.n ⟨zf, zt, zs, zm, za, zu, zh, zg, zz, zp, ze⟩ && (roomB x.bs x.cs ((i : Int) + 1) ⟨zf, zt, zs, zm, za, zu, zh, zg, zz, zp, ze⟩ && stateB x.l x.n ⟨zf, zt, zs, zm, za, zu, zh, zg, zz, zp, ze⟩))) from rfl)
  have HT := Lib.hid (terms_eq x.l x.n ⟨zf, zt, zs, zm, za, zu, zh, zg, zz, zp, ze⟩)
  have HWY := Lib.hid (way_eq x.l x.zs x.c x.n ⟨zf, zt, zs, zm, za, zu, zh, zg, zz, zp, ze⟩)
  have HRM := Lib.hid (show roomB x.bs x.cs ((i : Int) + 1) ⟨zf, zt, zs, zm, za, zu, zh, zg, zz, zp, ze⟩ = (List.range zh.length).all (roomOk x.bs x.cs ((i : Int) + 1) zm (comI ⟨zf, zt, zs, zm, za, zu, zh, zg, zz, zp, ze⟩) zh) from rfl)
  dsimp only at HT HWY
  generalize ordB x.l x.zs x.c x.n x.bs x.cs ((i : Int) + 1) ⟨zf, zt, zs, zm, za, zu, zh, zg, zz, zp, ze⟩ = V at *
  generalize termsB x.l x.n ⟨zf, zt, zs, zm, za, zu, zh, zg, zz, zp, ze⟩ = VT at *
  generalize wayB x.l x.zs x.c x.n ⟨zf, zt, zs, zm, za, zu, zh, zg, zz, zp, ze⟩ = VW at *
  generalize roomB x.bs x.cs ((i : Int) + 1) ⟨zf, zt, zs, zm, za, zu, zh, zg, zz, zp, ze⟩ = VR at *
  have hili := HLI.out
  have hi48 := HIL.out
  generalize hB : w.heap.size = B at *
  have HBE := Lib.hid hB
  go_enter Tryz.func63, Tryz.ntmps63
  go_upto_region 3 with (fail)
  rw [← hAe]
  clear hAe
  clear hB b0_ b1_ b2_ b3_ n0_ n1_ n2_ p0_ p1_ p2_ p3_ p4_ p5_ p6_ p7_ p8_ p9_ p10_
  generalize (((w.alloc (.cells ⟨[.slice x.A0 x.l.length x.k0, .slice x.A1 x.zs.length x.k1, .int .i64 x.c, .slice x.A2 x.os.length x.k2, .slice x.A3 x.bs.length x.k3, .slice x.A4 x.cs.length x.k4, .int .i64 x.n, .slice x.A5 x.ss.length x.k5, .slice x.A6 x.sk.length x.k6, .int .i64 x.m]⟩ 42)).alloc (.cells ⟨[.slice x.A0 x.l.length x.k0, .slice x.A1 x.zs.length x.k1, .int .i64 x.c]⟩ 36)).alloc (.cells ⟨[.string zf, .string zt, .int .i64 zs, .int .i64 zm, .int .i64 za, .int .i64 zu, .slice zA zh.length zk, .int .i64 zg, .int .i64 zz, .string zp, .int .i64 ze]⟩ 65)) = V0 at *
  have n0_ := FN.out.cell 0 _ rfl
  have n1_ := FN.out.cell 1 _ rfl
  have n2_ := FN.out.cell 2 _ rfl
  go_wp2_with fail
  clear n0_ n1_ n2_
  refine (places_spec x.A0 x.k0 x.l x.A1 x.k1 x.zs.length x.c V0 HX.out.i.l HZ.out.l).mono ?_; rintro e V1 ⟨⟨v, rfl, ho⟩, hb⟩
  replace HB := Lib.hid (HB.out.trans (hb.mono HSZ.out)); replace HSZ := Lib.hid (Nat.le_trans HSZ.out hb.size); replace HX := Lib.hid (HX.out.below hb); replace HW := Lib.hid (HW.out.below hb); replace FN := Lib.hid (FN.out.below hb); replace FO := Lib.hid (FO.out.below hb)
  clear hb
  obtain ⟨PA, cp, rfl, hP⟩ := own_strs ho
  clear ho
  have hpl : (placesB x.l).length ≤ 4000000 := by have := placesB_len x.l; have := HZ.out.l; omega
  have HIX := Lib.hid (fun s => (index_spec PA cp (placesB x.l) s V1 hP hpl).mono (fun _ _ h => And.intro h.1 h.2.symm))
  have HCF := Lib.hid (show Lib.containsS (placesB x.l) zf = decide (0 ≤ idxI (placesB x.l) zf) from rfl)
  have HCT := Lib.hid (show Lib.containsS (placesB x.l) zt = decide (0 ≤ idxI (placesB x.l) zt) from rfl)
  have HI0 := Lib.hid (HIX.out zf)
  have HI1 := Lib.hid (HIX.out zt)
  clear HIX hP
  generalize Lib.containsS (placesB x.l) zf = CF at *
  generalize Lib.containsS (placesB x.l) zt = CT at *
  generalize idxI (placesB x.l) zf = IF at *
  generalize idxI (placesB x.l) zt = IT at *
  generalize placesB x.l = pl at *
  have o0_ := FO.out.cell 0 _ rfl
  have o1_ := FO.out.cell 1 _ rfl
  have o2_ := FO.out.cell 2 _ rfl
  have o3_ := FO.out.cell 3 _ rfl
  have o4_ := FO.out.cell 4 _ rfl
  have o5_ := FO.out.cell 5 _ rfl
  have o6_ := FO.out.cell 6 _ rfl
  have o7_ := FO.out.cell 7 _ rfl
  have b6_ := HX.out.bx.cell 6 _ rfl
  go_wp2_with fail
  refine (HI0.out).mono ?_; rintro e u0 ⟨rfl, hu⟩; subst hu
  cases q0 : CF with
  | false =>
    have d0 : IF < 0 := by have h1 := HCF.out; rw [q0] at h1; have h2 := of_decide_eq_false h1.symm; omega
    have hF : VT = false := HT.out.trans (by rw [q0]; repeat (first | simp only [Bool.true_and] | simp only [Bool.false_and] | simp only [Bool.and_false] | simp only [Bool.not_true] | simp only [Bool.not_false]))
    have HVF := Lib.hid (HV.out.trans (show _ = false by rw [hF]; rfl))
    go_wp2
    go_ret
    exact ⟨ret_bool HVF.out.symm, by first | exact HB.out | (rw [HBE.out]; exact HB.out)⟩
  | true =>
    have d0 : ¬ IF < 0 := by have h1 := HCF.out; rw [q0] at h1; have h2 := of_decide_eq_true h1.symm; omega
    go_wp2_with fail
    refine (HI1.out).mono ?_; rintro e u1 ⟨rfl, hu⟩; subst hu
    cases q1 : CT with
    | false =>
      have d1 : IT < 0 := by have h1 := HCT.out; rw [q1] at h1; have h2 := of_decide_eq_false h1.symm; omega
      have hF : VT = false := HT.out.trans (by rw [q1]; repeat (first | simp only [Bool.true_and] | simp only [Bool.false_and] | simp only [Bool.and_false] | simp only [Bool.not_true] | simp only [Bool.not_false]))
      have HVF := Lib.hid (HV.out.trans (show _ = false by rw [hF]; rfl))
      go_wp2
      go_ret
      exact ⟨ret_bool HVF.out.symm, by first | exact HB.out | (rw [HBE.out]; exact HB.out)⟩
    | true =>
      have d1 : ¬ IT < 0 := by have h1 := HCT.out; rw [q1] at h1; have h2 := of_decide_eq_true h1.symm; omega
      cases q2 : (zf.toList == zt.toList) with
      | true =>
        have hF : VT = false := HT.out.trans (by rw [q2]; repeat (first | simp only [Bool.true_and] | simp only [Bool.false_and] | simp only [Bool.and_false] | simp only [Bool.not_true] | simp only [Bool.not_false]))
        have HVF := Lib.hid (HV.out.trans (show _ = false by rw [hF]; rfl))
        go_wp2
        go_ret
        exact ⟨ret_bool HVF.out.symm, by first | exact HB.out | (rw [HBE.out]; exact HB.out)⟩
      | false =>
        go_wp2_with fail
        refine (in_any zs 1 3 V1).mono ?_; rintro e u3 ⟨rfl, hu⟩; subst hu
        cases q3 : inB zs 1 3 with
        | false =>
          have hF : VT = false := HT.out.trans (by rw [q3]; repeat (first | simp only [Bool.true_and] | simp only [Bool.false_and] | simp only [Bool.and_false] | simp only [Bool.not_true] | simp only [Bool.not_false]))
          have HVF := Lib.hid (HV.out.trans (show _ = false by rw [hF]; rfl))
          go_wp2
          go_ret
          exact ⟨ret_bool HVF.out.symm, by first | exact HB.out | (rw [HBE.out]; exact HB.out)⟩
        | true =>
          go_wp2_with fail
          refine (in_any zm 1 30000 V1).mono ?_; rintro e u4 ⟨rfl, hu⟩; subst hu
          cases q4 : inB zm 1 30000 with
          | false =>
            have hF : VT = false := HT.out.trans (by rw [q4]; repeat (first | simp only [Bool.true_and] | simp only [Bool.false_and] | simp only [Bool.and_false] | simp only [Bool.not_true] | simp only [Bool.not_false]))
            have HVF := Lib.hid (HV.out.trans (show _ = false by rw [hF]; rfl))
            go_wp2
            go_ret
            exact ⟨ret_bool HVF.out.symm, by first | exact HB.out | (rw [HBE.out]; exact HB.out)⟩
          | true =>
            go_wp2_with fail
            refine (in_any za 0 x.n V1).mono ?_; rintro e u5 ⟨rfl, hu⟩; subst hu
            cases q5 : inB za 0 x.n with
            | false =>
              have hF : VT = false := HT.out.trans (by rw [q5]; repeat (first | simp only [Bool.true_and] | simp only [Bool.false_and] | simp only [Bool.and_false] | simp only [Bool.not_true] | simp only [Bool.not_false]))
              have HVF := Lib.hid (HV.out.trans (show _ = false by rw [hF]; rfl))
              go_wp2
              go_ret
              exact ⟨ret_bool HVF.out.symm, by first | exact HB.out | (rw [HBE.out]; exact HB.out)⟩
            | true =>
              go_wp2_with fail
              refine (in_any zu 0 200000 V1).mono ?_; rintro e u6 ⟨rfl, hu⟩; subst hu
              cases q6 : inB zu 0 200000 with
              | false =>
                have hF : VT = false := HT.out.trans (by rw [q6]; repeat (first | simp only [Bool.true_and] | simp only [Bool.false_and] | simp only [Bool.and_false] | simp only [Bool.not_true] | simp only [Bool.not_false]))
                have HVF := Lib.hid (HV.out.trans (show _ = false by rw [hF]; rfl))
                go_wp2
                go_ret
                exact ⟨ret_bool HVF.out.symm, by first | exact HB.out | (rw [HBE.out]; exact HB.out)⟩
              | true =>
                go_wp2_with fail
                refine (in_any zg 0 (zh.length : Int) V1).mono ?_; rintro e u7 ⟨rfl, hu⟩; subst hu
                cases q7 : inB zg 0 (zh.length : Int) with
                | false =>
                  have hF : VW = false := HWY.out.trans (by rw [q7]; repeat (first | simp only [Bool.true_and] | simp only [Bool.false_and] | simp only [Bool.and_false] | simp only [Bool.not_true] | simp only [Bool.not_false]))
                  have HVF := Lib.hid (HV.out.trans (show _ = false by rw [hF]; repeat (first | simp only [Bool.false_and] | simp only [Bool.and_false])))
                  go_wp2
                  go_ret
                  exact ⟨ret_bool HVF.out.symm, by first | exact HB.out | (rw [HBE.out]; exact HB.out)⟩
                | true =>
                  have hVT : VT = true := HT.out.trans (by rw [q0, q1, q2, q3, q4, q5, q6]; rfl)
                  replace HV := Lib.hid (HV.out.trans (show _ = (VW && (VR && stateB x.l x.n ⟨zf, zt, zs, zm, za, zu, zh, zg, zz, zp, ze⟩)) by rw [hVT]; rfl))
                  replace HWY := Lib.hid (HWY.out.trans (show _ = (tripsB x.l x.zs x.c zh && (iswB x.l x.zs x.c zh zf (ordPl x.l ⟨zf, zt, zs, zm, za, zu, zh, zg, zz, zp, ze⟩ zh.length) (za + 1) && ((List.range zh.length).all (noEnd x.l ⟨zf, zt, zs, zm, za, zu, zh, zg, zz, zp, ze⟩) && goneB x.l x.n ⟨zf, zt, zs, zm, za, zu, zh, zg, zz, zp, ze⟩))) by rw [q7]; rfl))
                  have HQA := Lib.hid (inB_iff.1 q5); have HQG := Lib.hid (inB_iff.1 q7)
                  clear hVT HT HCF HCT HI0 HI1
                  have ha1 : 0 ≤ za ∧ za ≤ 100000 := by have h1 := HQA.out; have h2 := HNOW.out; omega
                  have HA1 := Lib.hid ha1; clear ha1
                  go_wp2
                  clear o0_ o1_ o2_ o3_ o4_ o5_ o6_ o7_ b6_ q0 q1 q2 q3 q4 q5 q6 q7 d0 d1
                  go_loopw [8, 9] (fun e_ q_ wr => ∃ k : Nat, q_ = .int .i64 k ∧ k ≤ zh.length ∧ e_ = .string (ordPl x.l ⟨zf, zt, zs, zm, za, zu, zh, zg, zz, zp, ze⟩ k) ∧ Hid (ordL1 x i zm zt zh (ordPl x.l ⟨zf, zt, zs, zm, za, zu, zh, zg, zz, zp, ze⟩) k) ∧ Hid (Below V1.heap.size V1 wr)) (fun _ q_ _ => zh.length - (intOf q_).toNat)
                  case atStart => exact ⟨0, rfl, Nat.zero_le _, rfl, Lib.hid (fun j _ h => absurd h (Nat.not_lt_zero j)), Lib.hid (Below.refl _ _)⟩
                  case round =>
                    obtain ⟨k, rfl, hk, rfl, hall, hbw⟩ := hrel
                    have HB0 := HB; have HS0 := HSZ; have HX0 := HX; have HW0 := HW; have FN0 := FN; have FO0 := FO; replace HB := Lib.hid (HB0.out.trans (hbw.out.mono HS0.out)); replace HSZ := Lib.hid (Nat.le_trans HS0.out hbw.out.size); replace HX := Lib.hid (HX0.out.below hbw.out); replace HW := Lib.hid (HW0.out.below hbw.out); replace FN := Lib.hid (FN0.out.below hbw.out); replace FO := Lib.hid (FO0.out.below hbw.out); clear HB0 HS0 HX0 HW0 FN0 FO0
                    have o6_ := FO.out.cell 6 _ rfl
                    by_cases hlt : (k : Int) < (zh.length : Int)
                    · have hkl : k < zh.length := by omega
                      have hmm : zh.length ≤ 1048576 := HM.out
                      have hw : InK 2 tpC wr zA zh := HW.out
                      obtain ⟨ga, rfl, hga, c0_, c1_⟩ := hw.tp k hkl
                      clear hw
                      have HP1 := Lib.hid (show (ordPl x.l ⟨zf, zt, zs, zm, za, zu, zh, zg, zz, zp, ze⟩ (k + 1)) = (lgAt x.l zh[k].g).t by show (lgAt x.l (zh.getD k ⟨0, 0⟩).g).t = _; rw [getD_at hkl])
                      have HTN := Lib.hid (fun (h : trB x.l x.zs x.c zh[k] = false) => show VW = false from HWY.out.trans (by rw [trips_no hkl h]; rfl))
                      have HRN := Lib.hid (fun (h : anyE eqBk ⟨(i : Int) + 1, zh[k].g, zh[k].d, zm⟩ x.bs = false) => show VR = false from HRM.out.trans (rngL_no (p := roomOk x.bs x.cs ((i : Int) + 1) zm (comI ⟨zf, zt, zs, zm, za, zu, zh, zg, zz, zp, ze⟩) zh) hkl (by unfold roomOk; rw [getD_at hkl, h]; rfl)))
                      have HEN := Lib.hid (fun (h1 : k + 1 < zh.length) (h : ((ordPl x.l ⟨zf, zt, zs, zm, za, zu, zh, zg, zz, zp, ze⟩ (k + 1)).toList == zt.toList) = true) => show VW = false from HWY.out.trans (by
                        rw [rngL_no (p := noEnd x.l ⟨zf, zt, zs, zm, za, zu, zh, zg, zz, zp, ze⟩) h1 (by unfold noEnd; rw [decide_eq_false (by omega)]; show (false || !((ordPl x.l ⟨zf, zt, zs, zm, za, zu, zh, zg, zz, zp, ze⟩ (k + 1)).toList == zt.toList)) = false; rw [h]; rfl)]
                        repeat (first | simp only [Bool.false_and] | simp only [Bool.and_false])))
                      have HN := Lib.hid (fun (h : trB x.l x.zs x.c zh[k] = true ∧ anyE eqBk ⟨(i : Int) + 1, zh[k].g, zh[k].d, zm⟩ x.bs = true ∧ (k + 1 < zh.length → ((ordPl x.l ⟨zf, zt, zs, zm, za, zu, zh, zg, zz, zp, ze⟩ (k + 1)).toList == zt.toList) = false)) j (hj : j < zh.length) (hjk : j < k + 1) => show trB x.l x.zs x.c zh[j] = true ∧ anyE eqBk ⟨(i : Int) + 1, zh[j].g, zh[j].d, zm⟩ x.bs = true ∧ (j + 1 < zh.length → ((ordPl x.l ⟨zf, zt, zs, zm, za, zu, zh, zg, zz, zp, ze⟩ (j + 1)).toList == zt.toList) = false) by
                        by_cases e : j = k
                        · subst e; exact h
                        · exact hall.out j hj (by omega))
                      clear hall
                      generalize hye : zh[k] = y at *
                      have HYE := Lib.hid hye; clear hye
                      generalize hpn : (ordPl x.l ⟨zf, zt, zs, zm, za, zu, zh, zg, zz, zp, ze⟩ (k + 1)) = PN at *
                      have HPN := Lib.hid hpn; clear hpn
                      have c0F := far_cell hga c0_; have c1F := far_cell hga c1_
                      clear c0_ c1_
                      go_wp2_with fail
                      clear o6_
                      have n0_ := FN.out.cell 0 _ rfl
                      have n1_ := FN.out.cell 1 _ rfl
                      have n2_ := FN.out.cell 2 _ rfl
                      have o3_ := FO.out.cell 3 _ rfl
                      have o6_ := FO.out.cell 6 _ rfl
                      have b4_ := HX.out.bx.cell 4 _ rfl
                      have hnl := FN.out.lt; have hol := FO.out.lt; have hbl := HX.out.bx.lt
                      have n0F := far_cell hnl n0_
                      have n1F := far_cell hnl n1_
                      have n2F := far_cell hnl n2_
                      have o3F := far_cell hol o3_
                      have o6F := far_cell hol o6_
                      have b4F := far_cell hbl b4_
                      clear n0_ n1_ n2_ o3_ o6_ b4_ hnl hol hbl
                      have HC1 := Lib.hid (fun x' => runs3 x.A0 x.k0 x.l x.A1 x.k1 x.zs x.c y.g y.d (far wr x') (HX.out.below (below_far wr x')).i.l (HX.out.below (below_far wr x')).i.zs HZ.out.l HZ.out.zs)
                      have HC2 := Lib.hid (fun x' => booked_spec ((i : Int) + 1) y.g y.d zm x.A3 x.k3 x.bs (far wr x') (HX.out.below (below_far wr x')).i.bs HZ.out.bs)
                      rw [← tr_r3 HNET.out y] at HC1
                      cases qT : trB x.l x.zs x.c y with
                      | false =>
                        rw [qT] at HC1
                        have hF := HTN.out qT
                        have HVF := Lib.hid (HV.out.trans (show _ = false by rw [hF]; rfl))
                        refine wp_region_far (by kernel_rfl) (by kernel_rfl) ?_
                        repeat (any_goals (first | go_big_quiet_step ((go_at_call 60; with_reducible exact call_far (HC1.out _))) | quiet_step ((go_at_call 60; with_reducible exact call_far (HC1.out _)))))
                        refine wpQuiet_nil ?_; intro wz hw
                        have hb : Below wr.heap.size wr wz := by obtain ⟨u, rfl⟩ := hw; exact below_far wr u
                        replace HB := Lib.hid (HB.out.trans (hb.mono HSZ.out)); replace HSZ := Lib.hid (Nat.le_trans HSZ.out hb.size); replace HX := Lib.hid (HX.out.below hb); replace HW := Lib.hid (HW.out.below hb); replace FN := Lib.hid (FN.out.below hb); replace FO := Lib.hid (FO.out.below hb)
                        clear hw hb
                        go_wp2
                        go_ret
                        exact ⟨ret_bool HVF.out.symm, by first | exact HB.out | (rw [HBE.out]; exact HB.out)⟩
                      | true =>
                        rw [qT] at HC1
                        cases qB : anyE eqBk ⟨(i : Int) + 1, y.g, y.d, zm⟩ x.bs with
                        | false =>
                          rw [qB] at HC2
                          have hF := HRN.out qB
                          have HVF := Lib.hid (HV.out.trans (show _ = false by rw [hF]; repeat (first | simp only [Bool.false_and] | simp only [Bool.and_false])))
                          refine wp_region_far (by kernel_rfl) (by kernel_rfl) ?_
                          repeat (any_goals (first | go_big_quiet_step ((first | (go_at_call 60; with_reducible exact call_far (HC1.out _)) | (go_at_call 94; with_reducible exact call_far (HC2.out _)))) | quiet_step ((first | (go_at_call 60; with_reducible exact call_far (HC1.out _)) | (go_at_call 94; with_reducible exact call_far (HC2.out _))))))
                          refine wpQuiet_nil ?_; intro wz hw
                          have hb : Below wr.heap.size wr wz := by obtain ⟨u, rfl⟩ := hw; exact below_far wr u
                          replace HB := Lib.hid (HB.out.trans (hb.mono HSZ.out)); replace HSZ := Lib.hid (Nat.le_trans HSZ.out hb.size); replace HX := Lib.hid (HX.out.below hb); replace HW := Lib.hid (HW.out.below hb); replace FN := Lib.hid (FN.out.below hb); replace FO := Lib.hid (FO.out.below hb)
                          clear hw hb
                          go_wp2
                          go_ret
                          exact ⟨ret_bool HVF.out.symm, by first | exact HB.out | (rw [HBE.out]; exact HB.out)⟩
                        | true =>
                          rw [qB] at HC2
                          refine wp_region_far (by kernel_rfl) (by kernel_rfl) ?_
                          repeat (any_goals (first | go_big_quiet_step ((first | (go_at_call 60; with_reducible exact call_far (HC1.out _)) | (go_at_call 94; with_reducible exact call_far (HC2.out _)))) | quiet_step ((first | (go_at_call 60; with_reducible exact call_far (HC1.out _)) | (go_at_call 94; with_reducible exact call_far (HC2.out _))))))
                          refine wpQuiet_nil ?_; intro V2 hw
                          have hb : Below wr.heap.size wr V2 := by obtain ⟨u, rfl⟩ := hw; exact below_far wr u
                          replace HB := Lib.hid (HB.out.trans (hb.mono HSZ.out)); replace HSZ := Lib.hid (Nat.le_trans HSZ.out hb.size); replace HX := Lib.hid (HX.out.below hb); replace HW := Lib.hid (HW.out.below hb); replace FN := Lib.hid (FN.out.below hb); replace FO := Lib.hid (FO.out.below hb)
                          replace hbw := Lib.hid (hbw.out.trans (hb.mono hbw.out.size))
                          clear hw hb HC1 HC2 c0F c1F n0F n1F n2F o3F o6F b4F
                          obtain ⟨_, _, kk, hkg, hkl2, hlg, _⟩ := trB_of qT
                          rw [hlg] at HP1
                          obtain ⟨gl, hAe2, hgl, l0_, l1_, l2_, l3_, l4_, l5_⟩ := (HX.out.i.l).lg kk hkl2
                          have l1F := far_cell hgl l1_
                          rw [← HP1.out] at l1F
                          have HAE := Lib.hid hAe2
                          clear l0_ l1_ l2_ l3_ l4_ l5_ hAe2 hlg
                          have hw : InK 2 tpC V2 (some ⟨ga, 0, none⟩) zh := HW.out
                          obtain ⟨g2, e2, hg2, c0_, c1_⟩ := hw.tp k hkl
                          cases e2
                          clear hw c1_
                          have HYK := Lib.hid (show zh[k].g = (kk : Int) from by rw [HYE.out]; exact hkg)
                          rw [HYK.out] at c0_
                          have c0F := far_cell hg2 c0_
                          clear c0_ hkg
                          have hkk0 : (0 : Int) ≤ (kk : Int) := by omega
                          have hkk1 : (kk : Int) < (x.l.length : Int) := by omega
                          go_wp2_with fail
                          have n0_ := FN.out.cell 0 _ rfl
                          have n1_ := FN.out.cell 1 _ rfl
                          have n2_ := FN.out.cell 2 _ rfl
                          have o6_ := FO.out.cell 6 _ rfl
                          rw [HAE.out] at n0_
                          have hnl := FN.out.lt; have hol := FO.out.lt; have hbl := HX.out.bx.lt
                          have n0F := far_cell hnl n0_
                          have n1F := far_cell hnl n1_
                          have n2F := far_cell hnl n2_
                          have o6F := far_cell hol o6_
                          clear n0_ n1_ n2_ o6_ hnl hol hbl
                          refine wp_region_far (by kernel_rfl) (by kernel_rfl) ?_
                          repeat (any_goals (first | go_big_quiet_step (fail) | quiet_step (fail)))
                          refine wpQuiet_nil ?_; intro V3 hw
                          have hb : Below V2.heap.size V2 V3 := by obtain ⟨u, rfl⟩ := hw; exact below_far V2 u
                          replace HB := Lib.hid (HB.out.trans (hb.mono HSZ.out)); replace HSZ := Lib.hid (Nat.le_trans HSZ.out hb.size); replace HX := Lib.hid (HX.out.below hb); replace HW := Lib.hid (HW.out.below hb); replace FN := Lib.hid (FN.out.below hb); replace FO := Lib.hid (FO.out.below hb)
                          replace hbw := Lib.hid (hbw.out.trans (hb.mono hbw.out.size))
                          clear hw hb c0F l1F hkk0 hkk1 n0F n1F n2F o6F
                          have o1_ := FO.out.cell 1 _ rfl
                          have o6_ := FO.out.cell 6 _ rfl
                          cases qE : (PN.toList == zt.toList) with
                          | true =>
                            by_cases hl1 : k + 1 < zh.length
                            · have hF := HEN.out hl1 qE
                              have hli : (k : Int) + 1 < (zh.length : Int) := by omega
                              have HVF := Lib.hid (HV.out.trans (show _ = false by rw [hF]; rfl))
                              go_wp2
                              go_ret
                              exact ⟨ret_bool HVF.out.symm, by first | exact HB.out | (rw [HBE.out]; exact HB.out)⟩
                            · have HVN := Lib.hid (HN.out ⟨qT, qB, fun h => absurd h hl1⟩)
                              have hli : ¬ (k : Int) + 1 < (zh.length : Int) := by omega
                              go_wp2
                              go_roundw
                              case rel => exact ⟨k + 1, by go_num, by omega, by rw [HPN.out], HVN, hbw⟩
                              case measure => simp [intOf]; omega
                          | false =>
                            have HVN := Lib.hid (HN.out ⟨qT, qB, fun _ => qE⟩)
                            go_wp2
                            go_roundw
                            case rel => exact ⟨k + 1, by go_num, by omega, by rw [HPN.out], HVN, hbw⟩
                            case measure => simp [intOf]; omega
                    · obtain rfl : k = zh.length := by omega
                      have HTT := Lib.hid (show tripsB x.l x.zs x.c zh = true from tripsB_iff.2 ⟨HNET.out, fun j hj => (hall.out j hj hj).1⟩)
                      have HBKD := Lib.hid (fun j (hj : j < zh.length) => (hall.out j hj hj).2.1)
                      have HNE := Lib.hid (show (List.range zh.length).all (noEnd x.l ⟨zf, zt, zs, zm, za, zu, zh, zg, zz, zp, ze⟩) = true from rngL_yes (fun q hq => by
                        cases q with
                        | zero => rfl
                        | succ j =>
                          unfold noEnd
                          show (decide (j + 1 = 0) || !((ordPl x.l ⟨zf, zt, zs, zm, za, zu, zh, zg, zz, zp, ze⟩ (j + 1)).toList == zt.toList)) = true
                          rw [(hall.out j (by omega) (by omega)).2.2 hq, Bool.not_false, Bool.or_true]))
                      replace HWY := Lib.hid (HWY.out.trans (show _ = (iswB x.l x.zs x.c zh zf (ordPl x.l ⟨zf, zt, zs, zm, za, zu, zh, zg, zz, zp, ze⟩ zh.length) (za + 1) && goneB x.l x.n ⟨zf, zt, zs, zm, za, zu, zh, zg, zz, zp, ze⟩) by rw [HTT.out, HNE.out]; rfl))
                      clear hall o6_ HNE
                      generalize ordPl x.l ⟨zf, zt, zs, zm, za, zu, zh, zg, zz, zp, ze⟩ zh.length = PL at *
                      have ha2 := HA1.out
                      have n0_ := FN.out.cell 0 _ rfl
                      have n1_ := FN.out.cell 1 _ rfl
                      have n2_ := FN.out.cell 2 _ rfl
                      have o0_ := FO.out.cell 0 _ rfl
                      have o1_ := FO.out.cell 1 _ rfl
                      have o2_ := FO.out.cell 2 _ rfl
                      have o3_ := FO.out.cell 3 _ rfl
                      have o4_ := FO.out.cell 4 _ rfl
                      have o5_ := FO.out.cell 5 _ rfl
                      have o6_ := FO.out.cell 6 _ rfl
                      have o7_ := FO.out.cell 7 _ rfl
                      have o8_ := FO.out.cell 8 _ rfl
                      have o9_ := FO.out.cell 9 _ rfl
                      have o10_ := FO.out.cell 10 _ rfl
                      have b6_ := HX.out.bx.cell 6 _ rfl
                      go_wp2_with fail
                      clear n0_ n1_ n2_ o0_ o1_ o2_ o3_ o4_ o5_ o6_ o7_ o8_ o9_ o10_ b6_
                      refine (isway_spec zf PL (za + 1) zA zk zh x.A0 x.k0 x.l x.A1 x.k1 x.zs x.c wr HX.out.i.l HX.out.i.zs HW.out HZ.out.ls HZ.out.l HZ.out.zs HM.out).mono ?_; rintro e v1 ⟨rfl, hb⟩
                      replace HB := Lib.hid (HB.out.trans (hb.mono HSZ.out)); replace HSZ := Lib.hid (Nat.le_trans HSZ.out hb.size); replace HX := Lib.hid (HX.out.below hb); replace HW := Lib.hid (HW.out.below hb); replace FN := Lib.hid (FN.out.below hb); replace FO := Lib.hid (FO.out.below hb)
                      clear hb
                      have n0_ := FN.out.cell 0 _ rfl
                      have n1_ := FN.out.cell 1 _ rfl
                      have n2_ := FN.out.cell 2 _ rfl
                      have o0_ := FO.out.cell 0 _ rfl
                      have o1_ := FO.out.cell 1 _ rfl
                      have o2_ := FO.out.cell 2 _ rfl
                      have o3_ := FO.out.cell 3 _ rfl
                      have o4_ := FO.out.cell 4 _ rfl
                      have o5_ := FO.out.cell 5 _ rfl
                      have o6_ := FO.out.cell 6 _ rfl
                      have o7_ := FO.out.cell 7 _ rfl
                      have o8_ := FO.out.cell 8 _ rfl
                      have o9_ := FO.out.cell 9 _ rfl
                      have o10_ := FO.out.cell 10 _ rfl
                      have b6_ := HX.out.bx.cell 6 _ rfl
                      cases qI : iswB x.l x.zs x.c zh zf PL (za + 1) with
                      | false =>
                        have hF : VW = false := HWY.out.trans (by rw [qI]; rfl)
                        have HVF := Lib.hid (HV.out.trans (show _ = false by rw [hF]; rfl))
                        go_wp2
                        go_ret
                        exact ⟨ret_bool HVF.out.symm, by first | exact HB.out | (rw [HBE.out]; exact HB.out)⟩
                      | true =>
                        go_wp2_with fail
                        clear n0_ n1_ n2_ o0_ o1_ o2_ o3_ o4_ o5_ o6_ o7_ o8_ o9_ o10_ b6_
                        refine (state_spec ⟨zf, zt, zs, zm, za, zu, zh, zg, zz, zp, ze, zA, zk⟩ x x.n v1 HX.out.i.l HX.out.i.zs HW.out HZ.out.l HM.out HQG.out HTT.out).mono ?_; rintro e v2 ⟨rfl, hb⟩
                        dsimp only [OrR.d]
                        replace HB := Lib.hid (HB.out.trans (hb.mono HSZ.out)); replace HSZ := Lib.hid (Nat.le_trans HSZ.out hb.size); replace HX := Lib.hid (HX.out.below hb); replace HW := Lib.hid (HW.out.below hb); replace FN := Lib.hid (FN.out.below hb); replace FO := Lib.hid (FO.out.below hb)
                        clear hb
                        have n0_ := FN.out.cell 0 _ rfl
                        have n1_ := FN.out.cell 1 _ rfl
                        have n2_ := FN.out.cell 2 _ rfl
                        have o0_ := FO.out.cell 0 _ rfl
                        have o1_ := FO.out.cell 1 _ rfl
                        have o2_ := FO.out.cell 2 _ rfl
                        have o3_ := FO.out.cell 3 _ rfl
                        have o4_ := FO.out.cell 4 _ rfl
                        have o5_ := FO.out.cell 5 _ rfl
                        have o6_ := FO.out.cell 6 _ rfl
                        have o7_ := FO.out.cell 7 _ rfl
                        have o8_ := FO.out.cell 8 _ rfl
                        have o9_ := FO.out.cell 9 _ rfl
                        have o10_ := FO.out.cell 10 _ rfl
                        have b6_ := HX.out.bx.cell 6 _ rfl
                        cases qG : goneB x.l x.n ⟨zf, zt, zs, zm, za, zu, zh, zg, zz, zp, ze⟩ with
                        | false =>
                          have hF : VW = false := HWY.out.trans (by rw [qI, qG]; rfl)
                          have HVF := Lib.hid (HV.out.trans (show _ = false by rw [hF]; rfl))
                          go_wp2
                          go_ret
                          exact ⟨ret_bool HVF.out.symm, by first | exact HB.out | (rw [HBE.out]; exact HB.out)⟩
                        | true =>
                          have hVW : VW = true := HWY.out.trans (by rw [qI, qG]; rfl)
                          cases qS : stateB x.l x.n ⟨zf, zt, zs, zm, za, zu, zh, zg, zz, zp, ze⟩ with
                          | false =>
                            have HVF := Lib.hid (HV.out.trans (show _ = false by rw [qS]; simp only [Bool.and_false]))
                            go_wp2
                            go_ret
                            exact ⟨ret_bool HVF.out.symm, by first | exact HB.out | (rw [HBE.out]; exact HB.out)⟩
                          | true =>
                            replace HV := Lib.hid (HV.out.trans (show _ = VR by rw [hVW, qS, Bool.true_and, Bool.and_true])); clear hVW
                            go_wp2_with fail
                            clear n0_ n1_ n2_ o0_ o1_ o2_ o3_ o4_ o5_ o6_ o7_ o8_ o9_ o10_ b6_
                            refine (coming_spec ⟨zf, zt, zs, zm, za, zu, zh, zg, zz, zp, ze, zA, zk⟩ v2 (by dsimp only; have h1 := HQG.out; have h2 := HM.out; omega)).mono ?_; rintro e v3 ⟨rfl, hb⟩
                            dsimp only [OrR.d]
                            replace HB := Lib.hid (HB.out.trans (hb.mono HSZ.out)); replace HSZ := Lib.hid (Nat.le_trans HSZ.out hb.size); replace HX := Lib.hid (HX.out.below hb); replace HW := Lib.hid (HW.out.below hb); replace FN := Lib.hid (FN.out.below hb); replace FO := Lib.hid (FO.out.below hb)
                            clear hb qI qG qS
                            obtain ⟨M, hM⟩ : ∃ M : Nat, comI ⟨zf, zt, zs, zm, za, zu, zh, zg, zz, zp, ze⟩ = (M : Int) := ⟨(comI ⟨zf, zt, zs, zm, za, zu, zh, zg, zz, zp, ze⟩).toNat, by have h1 := HQG.out; unfold comI; dsimp only; split <;> omega⟩
                            have hM2 : M ≤ zh.length + 1 := by have h1 := HQG.out; have h2 : comI ⟨zf, zt, zs, zm, za, zu, zh, zg, zz, zp, ze⟩ ≤ zg + 1 := (by unfold comI; dsimp only; split <;> omega); omega
                            rw [hM] at HRM ⊢
                            clear hM
                            have hmm : zh.length ≤ 1048576 := HM.out
                            have o6_ := FO.out.cell 6 _ rfl
                            go_wp2
                            clear o6_
                            go_loopw [10] (fun q_ w_ => ∃ k : Nat, q_ = .int .i64 k ∧ M ≤ k ∧ k ≤ zh.length + 1 ∧ Hid (∀ j (hj : j < zh.length), M ≤ j → j < k → anyE eqTp zh[j] x.cs = false) ∧ Hid (Below v3.heap.size v3 w_)) (fun q_ _ => zh.length - (intOf q_).toNat)
                            case atStart => exact ⟨M, rfl, Nat.le_refl _, hM2, Lib.hid (fun j _ h1 h2 => absurd h1 (by omega)), Lib.hid (Below.refl _ _)⟩
                            case round =>
                              obtain ⟨k, rfl, hkM, hk, hall, hbw⟩ := hrel
                              have HB0 := HB; have HS0 := HSZ; have HX0 := HX; have HW0 := HW; have FN0 := FN; have FO0 := FO; replace HB := Lib.hid (HB0.out.trans (hbw.out.mono HS0.out)); replace HSZ := Lib.hid (Nat.le_trans HS0.out hbw.out.size); replace HX := Lib.hid (HX0.out.below hbw.out); replace HW := Lib.hid (HW0.out.below hbw.out); replace FN := Lib.hid (FN0.out.below hbw.out); replace FO := Lib.hid (FO0.out.below hbw.out); clear HB0 HS0 HX0 HW0 FN0 FO0
                              have o6_ := FO.out.cell 6 _ rfl
                              by_cases hlt : (k : Int) < (zh.length : Int)
                              · have hkl : k < zh.length := by omega
                                have hw : InK 2 tpC wr zA zh := HW.out
                                obtain ⟨ga, rfl, hga, c0_, c1_⟩ := hw.tp k hkl
                                clear hw
                                have HRK := Lib.hid (fun (h : anyE eqTp zh[k] x.cs = true) => show VR = false from HRM.out.trans (rngL_no (p := roomOk x.bs x.cs ((i : Int) + 1) zm (M : Int) zh) hkl (by unfold roomOk; rw [getD_at hkl, HBKD.out k hkl, h, decide_eq_true (by omega)]; rfl)))
                                have HN := Lib.hid (fun (h : anyE eqTp zh[k] x.cs = false) j (hj : j < zh.length) (hMj : M ≤ j) (hjk : j < k + 1) => show anyE eqTp zh[j] x.cs = false by
                                  by_cases e : j = k
                                  · subst e; exact h
                                  · exact hall.out j hj hMj (by omega))
                                clear hall
                                generalize zh[k] = y at *
                                have c0F := far_cell hga c0_; have c1F := far_cell hga c1_
                                clear c0_ c1_
                                go_wp2_with fail
                                clear o6_
                                have o6_ := FO.out.cell 6 _ rfl
                                have b5_ := HX.out.bx.cell 5 _ rfl
                                have hnl := FN.out.lt; have hol := FO.out.lt; have hbl := HX.out.bx.lt
                                have o6F := far_cell hol o6_
                                have b5F := far_cell hbl b5_
                                clear o6_ b5_ hnl hol hbl
                                have HC := Lib.hid (fun x' => closedX_spec y.g y.d x.A4 x.k4 x.cs (far wr x') (HX.out.below (below_far wr x')).i.cs HZ.out.cs)
                                cases qC : anyE eqTp ⟨y.g, y.d⟩ x.cs with
                                | true =>
                                  rw [qC] at HC
                                  have hF := HRK.out qC
                                  have HVF := Lib.hid (HV.out.trans (show _ = false by exact hF))
                                  refine wp_region_far (by kernel_rfl) (by kernel_rfl) ?_
                                  repeat (any_goals (first | go_big_quiet_step ((go_at_call 61; with_reducible exact call_far (HC.out _))) | quiet_step ((go_at_call 61; with_reducible exact call_far (HC.out _)))))
                                  refine wpQuiet_nil ?_; intro wz hw
                                  have hb : Below wr.heap.size wr wz := by obtain ⟨u, rfl⟩ := hw; exact below_far wr u
                                  replace HB := Lib.hid (HB.out.trans (hb.mono HSZ.out)); replace HSZ := Lib.hid (Nat.le_trans HSZ.out hb.size); replace HX := Lib.hid (HX.out.below hb); replace HW := Lib.hid (HW.out.below hb); replace FN := Lib.hid (FN.out.below hb); replace FO := Lib.hid (FO.out.below hb)
                                  clear hw hb
                                  go_wp2
                                  go_ret
                                  exact ⟨ret_bool HVF.out.symm, by first | exact HB.out | (rw [HBE.out]; exact HB.out)⟩
                                | false =>
                                  rw [qC] at HC
                                  have HVN := Lib.hid (HN.out qC)
                                  clear HN HRK
                                  refine wp_region_far (by kernel_rfl) (by kernel_rfl) ?_
                                  repeat (any_goals (first | go_big_quiet_step ((go_at_call 61; with_reducible exact call_far (HC.out _))) | quiet_step ((go_at_call 61; with_reducible exact call_far (HC.out _)))))
                                  refine wpQuiet_nil ?_; intro wz hw
                                  have hb : Below wr.heap.size wr wz := by obtain ⟨u, rfl⟩ := hw; exact below_far wr u
                                  replace hbw := Lib.hid (hbw.out.trans (hb.mono hbw.out.size))
                                  clear hw hb
                                  go_wp2
                                  go_roundw
                                  case rel => exact ⟨k + 1, by go_num, by omega, by omega, HVN, hbw⟩
                                  case measure => simp [intOf]; omega
                              · have hVR : VR = true := HRM.out.trans (rngL_yes (fun j hj => by
                                  unfold roomOk
                                  rw [getD_at hj, HBKD.out j hj]
                                  by_cases hMj : M ≤ j
                                  · rw [hall.out j hj hMj (by omega), Bool.and_false]; rfl
                                  · rw [decide_eq_false (show ¬ (M : Int) ≤ (j : Int) by omega)]; rfl))
                                have HVF := Lib.hid (HV.out.trans hVR)
                                clear hall
                                go_wp2
                                go_ret
                                exact ⟨ret_bool HVF.out.symm, by first | exact HB.out | (rw [HBE.out]; exact HB.out)⟩
end Go.Proofs.YtadcmngooobeiabGreat

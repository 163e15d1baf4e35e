/- When an order ends as planned: l10Here, l10Stranded, PlannedEnd of the reference. Written by mk/plane.py. -/
import Derived.Test.YtadcmngooobeiabGreatPlanI
namespace Go.Proofs.YtadcmngooobeiabGreat
open Go.RowKit
/-- where the order is, or will be -/
def hereB (l : List Lg) (z : OrRD) : ByteArray := if z.z = 2 then (lgAt l (z.h.getD z.g.toNat ⟨0, 0⟩).g).t else z.p
theorem here_eq {x : Wp} {z : OrRD} (hk : OrdOk x z) (h3 : ¬ z.z = 3) : (hereB x.l z).toList = (ordPl x.l z (comI z).toNat).toList := by
  unfold hereB comI
  by_cases h2 : z.z = 2
  · rw [if_pos h2, if_pos h2]
    have hg := hk.g.1
    rw [show (z.g + 1).toNat = z.g.toNat + 1 by omega]
    rfl
  · rw [if_neg h2, if_neg h2]
    exact hk.wait (by have := hk.kind; omega)
set_option maxRecDepth 100000 in
set_option maxHeartbeats 2000000 in
theorem here_spec (z : OrR) (x : Wp) (w : World) (hw : InK 2 tpC w z.A z.h) (hi : WorIn w x) (hk : OrdOk x z.d) :
    Calls Tryz.prog 76 #[.agg #[.slice x.A0 x.l.length x.k0, .slice x.A1 x.zs.length x.k1, .int .i64 x.c], .agg ⟨[.string z.f, .string z.t, .int .i64 z.s, .int .i64 z.m, .int .i64 z.a, .int .i64 z.u, .slice z.A z.h.length z.k, .int .i64 z.g, .int .i64 z.z, .string z.p, .int .i64 z.e]⟩] w fun e w' => e = .returned (.string (hereB x.l z.d)) ∧ Below w.heap.size w w' := by
  have hbA := (Below.refl w.heap.size w).alloc (Nat.le_refl _) (.cells ⟨[.slice x.A0 x.l.length x.k0, .slice x.A1 x.zs.length x.k1, .int .i64 x.c]⟩ 36)
  have e1 : (w.alloc (.cells ⟨[.slice x.A0 x.l.length x.k0, .slice x.A1 x.zs.length x.k1, .int .i64 x.c]⟩ 36)).heap.size = w.heap.size + 1 := by simp
  have hbB := (Below.refl (w.alloc (.cells ⟨[.slice x.A0 x.l.length x.k0, .slice x.A1 x.zs.length x.k1, .int .i64 x.c]⟩ 36)).heap.size (w.alloc (.cells ⟨[.slice x.A0 x.l.length x.k0, .slice x.A1 x.zs.length x.k1, .int .i64 x.c]⟩ 36))).alloc (Nat.le_refl _) (.cells ⟨[.string z.f, .string z.t, .int .i64 z.s, .int .i64 z.m, .int .i64 z.a, .int .i64 z.u, .slice z.A z.h.length z.k, .int .i64 z.g, .int .i64 z.z, .string z.p, .int .i64 z.e]⟩ 65)
  have HN := Lib.hid ((Bx.new (T := 36) w [.slice x.A0 x.l.length x.k0, .slice x.A1 x.zs.length x.k1, .int .i64 x.c]).below hbB)
  have HO := Lib.hid (show Bx 65 ((w.alloc (.cells ⟨[.slice x.A0 x.l.length x.k0, .slice x.A1 x.zs.length x.k1, .int .i64 x.c]⟩ 36)).alloc (.cells ⟨[.string z.f, .string z.t, .int .i64 z.s, .int .i64 z.m, .int .i64 z.a, .int .i64 z.u, .slice z.A z.h.length z.k, .int .i64 z.g, .int .i64 z.z, .string z.p, .int .i64 z.e]⟩ 65)) (w.heap.size + 1) [.string z.f, .string z.t, .int .i64 z.s, .int .i64 z.m, .int .i64 z.a, .int .i64 z.u, .slice z.A z.h.length z.k, .int .i64 z.g, .int .i64 z.z, .string z.p, .int .i64 z.e] by rw [← e1]; exact Bx.new _ _)
  have hbC := hbA.trans (hbB.mono hbA.size)
  have HW := Lib.hid (show InK 2 tpC ((w.alloc (.cells ⟨[.slice x.A0 x.l.length x.k0, .slice x.A1 x.zs.length x.k1, .int .i64 x.c]⟩ 36)).alloc (.cells ⟨[.string z.f, .string z.t, .int .i64 z.s, .int .i64 z.m, .int .i64 z.a, .int .i64 z.u, .slice z.A z.h.length z.k, .int .i64 z.g, .int .i64 z.z, .string z.p, .int .i64 z.e]⟩ 65)) z.A z.h from hw.below hbC)
  have HI := Lib.hid (hi.below hbC)
  have HB := Lib.hid hbC; have HSZ := Lib.hid hbC.size
  clear hw hi hbA hbB hbC e1
  generalize hB : w.heap.size = B at *
  have HBE := Lib.hid hB
  by_cases h2 : z.z = 2
  · have HV := Lib.hid (show hereB x.l z.d = (lgAt x.l (z.h.getD z.g.toNat ⟨0, 0⟩).g).t from if_pos h2)
    generalize hereB x.l z.d = V at *
    have hr := hk.ride h2
    have hg0 := hk.g.1
    have hT := hk.trips
    obtain ⟨q, hq⟩ : ∃ q : Nat, z.g = (q : Int) := ⟨z.g.toNat, by have h9 : z.d.g = z.g := rfl; omega⟩
    have hqn : q < z.h.length := by have h9 : z.d.g = z.g := rfl; have h8 : (z.d.h.length : Int) = (z.h.length : Int) := rfl; omega
    obtain ⟨_, _, k, hk1, hk2, hlg, _⟩ := trB_of ((tripsB_iff.1 hT).2 q hqn)
    obtain ⟨ga, hAe, hga, t0_, _⟩ := HW.out.tp q hqn
    obtain ⟨gl, hLe, hgl, _, l1_, _⟩ := HI.out.l.lg k hk2
    have HVV := Lib.hid (HV.out.trans (show _ = x.l[k].t by
      rw [show z.g.toNat = q by omega, getD_at hqn]
      have h7 : lgAt x.l (z.h[q]).g = x.l[k] := hlg
      rw [h7]))
    have t0 : ((w.alloc (.cells ⟨[.slice x.A0 x.l.length x.k0, .slice x.A1 x.zs.length x.k1, .int .i64 x.c]⟩ 36)).alloc (.cells ⟨[.string z.f, .string z.t, .int .i64 z.s, .int .i64 z.m, .int .i64 z.a, .int .i64 z.u, .slice z.A z.h.length z.k, .int .i64 z.g, .int .i64 z.z, .string z.p, .int .i64 z.e]⟩ 65)).cell? ⟨ga, q * 2, none⟩ = some (.int .i64 (k : Int)) := by rw [t0_]; have h7 : (z.h[q]).g = (k : Int) := hk1; rw [h7]
    generalize x.l[k].t = T at *
    have e2 : (z.z == 2) = true := by simp [h2]
    have HQ := Lib.hid hq; have HAE := Lib.hid hAe; have HLEE := Lib.hid hLe
    clear h2 hr hg0 hT hk1 hlg t0_ hAe hLe hk HV hq
    go_enter Tryz.func76, Tryz.ntmps76
    go_upto_region 1 with (fail)
    clear hB
    generalize ((w.alloc (.cells ⟨[.slice x.A0 x.l.length x.k0, .slice x.A1 x.zs.length x.k1, .int .i64 x.c]⟩ 36)).alloc (.cells ⟨[.string z.f, .string z.t, .int .i64 z.s, .int .i64 z.m, .int .i64 z.a, .int .i64 z.u, .slice z.A z.h.length z.k, .int .i64 z.g, .int .i64 z.z, .string z.p, .int .i64 z.e]⟩ 65)) = V0 at *
    have o8_ := HO.out.cell 8 _ rfl
    go_upto_region 2 with (fail)
    clear o8_
    have hol := HO.out.lt; have hnl := HN.out.lt
    have n0_ := HN.out.cell 0 _ rfl; have o6_ := HO.out.cell 6 _ rfl; have o7_ := HO.out.cell 7 _ rfl
    rw [HLEE.out] at n0_
    rw [HAE.out] at o6_
    rw [HQ.out] at o7_
    have n0F := far_cell hnl n0_; have o6F := far_cell hol o6_; have o7F := far_cell hol o7_
    have t0F := far_cell hga t0; have l1F := far_cell hgl l1_
    clear n0_ o6_ o7_ t0 l1_ hol hnl
    have hq0 : (0 : Int) ≤ (q : Int) := by omega
    have hq1 : (q : Int) < (z.h.length : Int) := by omega
    have hk0 : (0 : Int) ≤ (k : Int) := by omega
    have hk3 : (k : Int) < (x.l.length : Int) := by omega
    refine wp_region_far (by kernel_rfl) (by kernel_rfl) ?_
    repeat (any_goals (first | go_big_quiet_step (fail) | quiet_step (fail)))
    refine wpQuiet_nil ?_; intro V1 hw
    have hb : Below V0.heap.size V0 V1 := by obtain ⟨u, rfl⟩ := hw; exact below_far V0 u
    replace HB := Lib.hid (HB.out.trans (hb.mono HSZ.out))
    clear hw hb
    go_wp2
    go_ret
    exact ⟨by rw [HVV.out]; rfl, by first | exact HB.out | (rw [HBE.out]; exact HB.out)⟩
  · have HV := Lib.hid (show hereB x.l z.d = z.p from if_neg h2)
    generalize hereB x.l z.d = V at *
    have e2 : (z.z == 2) = false := by simp [h2]
    clear h2 hk
    go_enter Tryz.func76, Tryz.ntmps76
    go_upto_region 1 with (fail)
    clear hB
    generalize ((w.alloc (.cells ⟨[.slice x.A0 x.l.length x.k0, .slice x.A1 x.zs.length x.k1, .int .i64 x.c]⟩ 36)).alloc (.cells ⟨[.string z.f, .string z.t, .int .i64 z.s, .int .i64 z.m, .int .i64 z.a, .int .i64 z.u, .slice z.A z.h.length z.k, .int .i64 z.g, .int .i64 z.z, .string z.p, .int .i64 z.e]⟩ 65)) = V0 at *
    have o8_ := HO.out.cell 8 _ rfl; have o9_ := HO.out.cell 9 _ rfl
    go_wp2
    go_ret
    exact ⟨by rw [HV.out]; rfl, by first | exact HB.out | (rw [HBE.out]; exact HB.out)⟩
set_option maxRecDepth 100000 in
set_option maxHeartbeats 4000000 in
theorem strand_spec (x : Wp) (i : Nat) (w : World) (hR : WorIn w x) (hz : WorSz x) (hi : i < x.os.length) (hk : OrdOk x (x.os[i]).d) :
    Calls Tryz.prog 50 #[worV x, .int .i64 (i : Int)] w fun e w' => e = .returned (.bool (strB x.l (x.os[i]).d)) ∧ Below w.heap.size w w' := by
  dsimp only [worV]
  have hm := hz.way _ (List.getElem_mem hi)
  have hbA := (Below.refl w.heap.size w).alloc (Nat.le_refl _) (.cells ⟨[.slice x.A0 x.l.length x.k0, .slice x.A1 x.zs.length x.k1, .int .i64 x.c, .slice x.A2 x.os.length x.k2, .slice x.A3 x.bs.length x.k3, .slice x.A4 x.cs.length x.k4, .int .i64 x.n, .slice x.A5 x.ss.length x.k5, .slice x.A6 x.sk.length x.k6, .int .i64 x.m]⟩ 42)
  have hX0 : WoAt (w.alloc (.cells ⟨[.slice x.A0 x.l.length x.k0, .slice x.A1 x.zs.length x.k1, .int .i64 x.c, .slice x.A2 x.os.length x.k2, .slice x.A3 x.bs.length x.k3, .slice x.A4 x.cs.length x.k4, .int .i64 x.n, .slice x.A5 x.ss.length x.k5, .slice x.A6 x.sk.length x.k6, .int .i64 x.m]⟩ 42)) w.heap.size x := ⟨Bx.new w _, hR.below hbA⟩
  have e0 : (w.alloc (.cells ⟨[.slice x.A0 x.l.length x.k0, .slice x.A1 x.zs.length x.k1, .int .i64 x.c, .slice x.A2 x.os.length x.k2, .slice x.A3 x.bs.length x.k3, .slice x.A4 x.cs.length x.k4, .int .i64 x.n, .slice x.A5 x.ss.length x.k5, .slice x.A6 x.sk.length x.k6, .int .i64 x.m]⟩ 42)).heap.size = w.heap.size + 1 := by simp
  obtain ⟨g, hAe, hoa⟩ := orAt_of hX0.i.os hX0.i.way i hi
  have hil : (i : Int) < (x.os.length : Int) := by omega
  have hi48 : i < 1048576 := Nat.lt_of_lt_of_le hi hz.os
  generalize x.os[i] = z at *
  clear hi
  have hbB := (Below.refl (w.alloc (.cells ⟨[.slice x.A0 x.l.length x.k0, .slice x.A1 x.zs.length x.k1, .int .i64 x.c, .slice x.A2 x.os.length x.k2, .slice x.A3 x.bs.length x.k3, .slice x.A4 x.cs.length x.k4, .int .i64 x.n, .slice x.A5 x.ss.length x.k5, .slice x.A6 x.sk.length x.k6, .int .i64 x.m]⟩ 42)).heap.size (w.alloc (.cells ⟨[.slice x.A0 x.l.length x.k0, .slice x.A1 x.zs.length x.k1, .int .i64 x.c, .slice x.A2 x.os.length x.k2, .slice x.A3 x.bs.length x.k3, .slice x.A4 x.cs.length x.k4, .int .i64 x.n, .slice x.A5 x.ss.length x.k5, .slice x.A6 x.sk.length x.k6, .int .i64 x.m]⟩ 42))).alloc (Nat.le_refl _) (.cells ⟨[.string z.f, .string z.t, .int .i64 z.s, .int .i64 z.m, .int .i64 z.a, .int .i64 z.u, .slice z.A z.h.length z.k, .int .i64 z.g, .int .i64 z.z, .string z.p, .int .i64 z.e]⟩ 65)
  have HX := Lib.hid (hX0.below hbB)
  have FO := Lib.hid (show Bx 65 ((w.alloc (.cells ⟨[.slice x.A0 x.l.length x.k0, .slice x.A1 x.zs.length x.k1, .int .i64 x.c, .slice x.A2 x.os.length x.k2, .slice x.A3 x.bs.length x.k3, .slice x.A4 x.cs.length x.k4, .int .i64 x.n, .slice x.A5 x.ss.length x.k5, .slice x.A6 x.sk.length x.k6, .int .i64 x.m]⟩ 42)).alloc (.cells ⟨[.string z.f, .string z.t, .int .i64 z.s, .int .i64 z.m, .int .i64 z.a, .int .i64 z.u, .slice z.A z.h.length z.k, .int .i64 z.g, .int .i64 z.z, .string z.p, .int .i64 z.e]⟩ 65)) (w.heap.size + 1) [.string z.f, .string z.t, .int .i64 z.s, .int .i64 z.m, .int .i64 z.a, .int .i64 z.u, .slice z.A z.h.length z.k, .int .i64 z.g, .int .i64 z.z, .string z.p, .int .i64 z.e] by rw [← e0]; exact Bx.new _ _)
  have HW := Lib.hid (show InK 2 tpC ((w.alloc (.cells ⟨[.slice x.A0 x.l.length x.k0, .slice x.A1 x.zs.length x.k1, .int .i64 x.c, .slice x.A2 x.os.length x.k2, .slice x.A3 x.bs.length x.k3, .slice x.A4 x.cs.length x.k4, .int .i64 x.n, .slice x.A5 x.ss.length x.k5, .slice x.A6 x.sk.length x.k6, .int .i64 x.m]⟩ 42)).alloc (.cells ⟨[.string z.f, .string z.t, .int .i64 z.s, .int .i64 z.m, .int .i64 z.a, .int .i64 z.u, .slice z.A z.h.length z.k, .int .i64 z.g, .int .i64 z.z, .string z.p, .int .i64 z.e]⟩ 65)) z.A z.h from hoa.way.below hbB)
  have hbC := hbA.trans (hbB.mono hbA.size)
  have HB := Lib.hid hbC; have HSZ := Lib.hid hbC.size
  have b3_ := hX0.bx.cell 3 _ rfl
  have p0_ := hoa.c0
  have p1_ := hoa.c1
  have p2_ := hoa.c2
  have p3_ := hoa.c3
  have p4_ := hoa.c4
  have p5_ := hoa.c5
  have p6_ := hoa.c6
  have p7_ := hoa.c7
  have p8_ := hoa.c8
  have p9_ := hoa.c9
  have p10_ := hoa.c10
  rw [hAe] at b3_ p0_ p1_ p2_ p3_ p4_ p5_ p6_ p7_ p8_ p9_ p10_
  clear hoa hX0 hbA hbB hbC hR e0
  have HM := Lib.hid hm
  have hgb : -9223372036854775808 ≤ z.g ∧ z.g ≤ 9223372036854775806 := by have := hk.g; have h2 : z.d.g = z.g := rfl; have h3 : (z.d.h.length : Int) = (z.h.length : Int) := rfl; omega
  have HCO := Lib.hid (fun W => coming_spec z W hgb)
  have HHE := Lib.hid (fun W (h' : InK 2 tpC W z.A z.h) (hi' : WorIn W x) => here_spec z x W h' hi' hk)
  have HEQ := Lib.hid (fun h3 => here_eq hk h3)
  have HV := Lib.hid (show strB x.l z.d = (!(z.z == 3) && ((comI z.d == (z.h.length : Int)) && !((ordPl x.l z.d (comI z.d).toNat).toList == z.t.toList))) from rfl)
  have HZE := Lib.hid (show z.d.z = z.z from rfl)
  rw [HZE.out] at HEQ
  generalize strB x.l z.d = V at *
  generalize ordPl x.l z.d (comI z.d).toNat = PL at *
  generalize hereB x.l z.d = HB_ at *
  generalize comI z.d = C at *
  clear hgb hk hm hz HZE
  generalize hB : w.heap.size = B at *
  have HBE := Lib.hid hB
  go_enter Tryz.func50, Tryz.ntmps50
  go_upto_region 2 with (fail)
  rw [← hAe]
  clear hAe
  clear hB b3_ p0_ p1_ p2_ p3_ p4_ p5_ p6_ p7_ p8_ p9_ p10_
  generalize (w.alloc (.cells ⟨[.slice x.A0 x.l.length x.k0, .slice x.A1 x.zs.length x.k1, .int .i64 x.c, .slice x.A2 x.os.length x.k2, .slice x.A3 x.bs.length x.k3, .slice x.A4 x.cs.length x.k4, .int .i64 x.n, .slice x.A5 x.ss.length x.k5, .slice x.A6 x.sk.length x.k6, .int .i64 x.m]⟩ 42)).alloc (.cells ⟨[.string z.f, .string z.t, .int .i64 z.s, .int .i64 z.m, .int .i64 z.a, .int .i64 z.u, .slice z.A z.h.length z.k, .int .i64 z.g, .int .i64 z.z, .string z.p, .int .i64 z.e]⟩ 65) = V0 at *
  have hxl := HX.out.bx.lt; have hol := FO.out.lt
  have b0F := far_cell hxl (HX.out.bx.cell 0 _ rfl); have b1F := far_cell hxl (HX.out.bx.cell 1 _ rfl); have b2F := far_cell hxl (HX.out.bx.cell 2 _ rfl)
  have o0F := far_cell hol (FO.out.cell 0 _ rfl)
  have o1F := far_cell hol (FO.out.cell 1 _ rfl)
  have o2F := far_cell hol (FO.out.cell 2 _ rfl)
  have o3F := far_cell hol (FO.out.cell 3 _ rfl)
  have o4F := far_cell hol (FO.out.cell 4 _ rfl)
  have o5F := far_cell hol (FO.out.cell 5 _ rfl)
  have o6F := far_cell hol (FO.out.cell 6 _ rfl)
  have o7F := far_cell hol (FO.out.cell 7 _ rfl)
  have o8F := far_cell hol (FO.out.cell 8 _ rfl)
  have o9F := far_cell hol (FO.out.cell 9 _ rfl)
  have o10F := far_cell hol (FO.out.cell 10 _ rfl)
  clear hxl hol
  have HC1 := Lib.hid (fun x' => HCO.out (far V0 x'))
  have HC2 := Lib.hid (fun x' => HHE.out (far V0 x') (HW.out.below (below_far V0 x')) (HX.out.below (below_far V0 x')).i)
  by_cases h3 : z.z = 3
  · have HVF := Lib.hid (HV.out.trans (show _ = false by rw [h3]; rfl))
    have e1 : (z.z != 3) = false := by simp [h3]
    have HH3 := Lib.hid h3; clear h3
    refine wp_region_far (by kernel_rfl) (by kernel_rfl) ?_
    repeat (any_goals (first | go_big_quiet_step (fail) | quiet_step (fail)))
    refine wpQuiet_nil ?_; intro V1 hw
    have hb : Below V0.heap.size V0 V1 := by obtain ⟨u, rfl⟩ := hw; exact below_far V0 u
    replace HB := Lib.hid (HB.out.trans (hb.mono HSZ.out))
    clear hw hb
    go_wp2
    go_ret
    exact ⟨ret_bool HVF.out.symm, by first | exact HB.out | (rw [HBE.out]; exact HB.out)⟩
  have e1 : (z.z != 3) = true := by simp [h3]
  have e1b : (z.z == 3) = false := by simp [h3]
  replace HV := Lib.hid (HV.out.trans (show _ = ((C == (z.h.length : Int)) && !(HB_.toList == z.t.toList)) by rw [e1b, HEQ.out h3]; rfl))
  clear h3 e1b HEQ
  cases h4 : (C == (z.h.length : Int)) with
  | false =>
    have HVF := Lib.hid (HV.out.trans (show _ = false by rw [h4]; rfl))
    refine wp_region_far (by kernel_rfl) (by kernel_rfl) ?_
    repeat (any_goals (first | go_big_quiet_step ((go_at_call 75; with_reducible exact call_far (HC1.out _))) | quiet_step ((go_at_call 75; with_reducible exact call_far (HC1.out _)))))
    refine wpQuiet_nil ?_; intro V1 hw
    have hb : Below V0.heap.size V0 V1 := by obtain ⟨u, rfl⟩ := hw; exact below_far V0 u
    replace HB := Lib.hid (HB.out.trans (hb.mono HSZ.out))
    clear hw hb
    go_wp2
    go_ret
    exact ⟨ret_bool HVF.out.symm, by first | exact HB.out | (rw [HBE.out]; exact HB.out)⟩
  | true =>
    replace HV := Lib.hid (HV.out.trans (show _ = !(HB_.toList == z.t.toList) by rw [h4]; rfl))
    cases h5 : (HB_.toList == z.t.toList) with
    | false =>
      have HVF := Lib.hid (HV.out.trans (show _ = true by rw [h5]; rfl))
      have e5 : (HB_.toList != z.t.toList) = true := by unfold bne; rw [h5]; rfl
      refine wp_region_far (by kernel_rfl) (by kernel_rfl) ?_
      repeat (any_goals (first | go_big_quiet_step ((first | (go_at_call 75; with_reducible exact call_far (HC1.out _)) | (go_at_call 76; with_reducible exact call_far (HC2.out _)))) | quiet_step ((first | (go_at_call 75; with_reducible exact call_far (HC1.out _)) | (go_at_call 76; with_reducible exact call_far (HC2.out _))))))
      refine wpQuiet_nil ?_; intro V1 hw
      have hb : Below V0.heap.size V0 V1 := by obtain ⟨u, rfl⟩ := hw; exact below_far V0 u
      replace HB := Lib.hid (HB.out.trans (hb.mono HSZ.out))
      clear hw hb
      go_wp2
      go_ret
      exact ⟨ret_bool HVF.out.symm, by first | exact HB.out | (rw [HBE.out]; exact HB.out)⟩
    | true =>
      have HVF := Lib.hid (HV.out.trans (show _ = false by rw [h5]; rfl))
      have e5 : (HB_.toList != z.t.toList) = false := by unfold bne; rw [h5]; rfl
      refine wp_region_far (by kernel_rfl) (by kernel_rfl) ?_
      repeat (any_goals (first | go_big_quiet_step ((first | (go_at_call 75; with_reducible exact call_far (HC1.out _)) | (go_at_call 76; with_reducible exact call_far (HC2.out _)))) | quiet_step ((first | (go_at_call 75; with_reducible exact call_far (HC1.out _)) | (go_at_call 76; with_reducible exact call_far (HC2.out _))))))
      refine wpQuiet_nil ?_; intro V1 hw
      have hb : Below V0.heap.size V0 V1 := by obtain ⟨u, rfl⟩ := hw; exact below_far V0 u
      replace HB := Lib.hid (HB.out.trans (hb.mono HSZ.out))
      clear hw hb
      go_wp2
      go_ret
      exact ⟨ret_bool HVF.out.symm, by first | exact HB.out | (rw [HBE.out]; exact HB.out)⟩
set_option maxRecDepth 100000 in
set_option maxHeartbeats 3000000 in
theorem planE_spec (id : Int) (x : Wp) (w : World) (hR : WorIn w x) (hz : WorSz x) :
    Calls Tryz.prog 19 #[worV x, .int .i64 id] w fun e w' => e = .returned (.int .i64 (planEB x.dat id)) ∧ Below w.heap.size w w' := by
  dsimp only [worV]
  have HL := Lib.hid (show x.dat.os.length = x.os.length by show (x.os.map OrR.d).length = _; simp)
  have HV := Lib.hid (show planEB x.dat id = (if (isWorB x.dat && inB id 1 x.os.length) = true then (match x.dat.os[id.toNat - 1]? with
    | some z => planO x.l z
    | none => -1) else -1) by unfold planEB; rw [HL.out]; rfl)
  have HG := Lib.hid (fun k (hk : k < x.os.length) => show x.dat.os[k]? = some (x.os[k]).d by
    show (x.os.map OrR.d)[k]? = _
    rw [List.getElem?_map, List.getElem?_eq_getElem hk]; rfl)
  have HZ := Lib.hid hz; clear hz
  have hbA := (Below.refl w.heap.size w).alloc (Nat.le_refl _) (.cells ⟨[.slice x.A0 x.l.length x.k0, .slice x.A1 x.zs.length x.k1, .int .i64 x.c, .slice x.A2 x.os.length x.k2, .slice x.A3 x.bs.length x.k3, .slice x.A4 x.cs.length x.k4, .int .i64 x.n, .slice x.A5 x.ss.length x.k5, .slice x.A6 x.sk.length x.k6, .int .i64 x.m]⟩ 42)
  have HX := Lib.hid (show WoAt (w.alloc (.cells ⟨[.slice x.A0 x.l.length x.k0, .slice x.A1 x.zs.length x.k1, .int .i64 x.c, .slice x.A2 x.os.length x.k2, .slice x.A3 x.bs.length x.k3, .slice x.A4 x.cs.length x.k4, .int .i64 x.n, .slice x.A5 x.ss.length x.k5, .slice x.A6 x.sk.length x.k6, .int .i64 x.m]⟩ 42)) w.heap.size x from ⟨Bx.new w _, hR.below hbA⟩)
  have HB := Lib.hid hbA
  have HSZ := Lib.hid hbA.size
  clear hbA hR
  have HI := Lib.hid (fun W (h : WorIn W x) => isw_spec x W h HZ.out)
  dsimp only [worV] at HI
  generalize planEB x.dat id = V at *
  cases q : isWorB x.dat with
  | false =>
    have HVF := Lib.hid (HV.out.trans (show _ = -1 by rw [q]; rfl))
    rw [q] at HI
    clear q
    generalize hB : w.heap.size = B at *
    have HBE := Lib.hid hB
    go_enter Tryz.func19, Tryz.ntmps19
    go_upto_region 1 with (fail)
    clear hB
    generalize (w.alloc (.cells ⟨[.slice x.A0 x.l.length x.k0, .slice x.A1 x.zs.length x.k1, .int .i64 x.c, .slice x.A2 x.os.length x.k2, .slice x.A3 x.bs.length x.k3, .slice x.A4 x.cs.length x.k4, .int .i64 x.n, .slice x.A5 x.ss.length x.k5, .slice x.A6 x.sk.length x.k6, .int .i64 x.m]⟩ 42)) = V0 at *
    have b0_ := HX.out.bx.cell 0 _ rfl; have b1_ := HX.out.bx.cell 1 _ rfl; have b2_ := HX.out.bx.cell 2 _ rfl; have b3_ := HX.out.bx.cell 3 _ rfl; have b4_ := HX.out.bx.cell 4 _ rfl; have b5_ := HX.out.bx.cell 5 _ rfl; have b6_ := HX.out.bx.cell 6 _ rfl; have b7_ := HX.out.bx.cell 7 _ rfl; have b8_ := HX.out.bx.cell 8 _ rfl; have b9_ := HX.out.bx.cell 9 _ rfl
    go_wp2_with fail
    clear b0_ b1_ b2_ b3_ b4_ b5_ b6_ b7_ b8_ b9_
    refine (HI.out V0 HX.out.i).mono ?_; rintro e V1 ⟨rfl, hb⟩
    replace HX := Lib.hid (HX.out.below hb); replace HB := Lib.hid (HB.out.trans (hb.mono HSZ.out)); replace HSZ := Lib.hid (Nat.le_trans HSZ.out hb.size); clear hb
    go_wp2
    go_ret
    exact ⟨ret_int HVF.out.symm, by first | exact HB.out | (rw [HBE.out]; exact HB.out)⟩
  | true =>
    replace HV := Lib.hid (HV.out.trans (show _ = (if inB id 1 x.os.length = true then (match x.dat.os[id.toNat - 1]? with
      | some z => planO x.l z
      | none => -1) else -1) by rw [q, Bool.true_and]))
    rw [q] at HI
    have HOK := Lib.hid (fun k (hk : k < x.os.length) => ord_ok (isw_ord q hk))
    clear q
    generalize hB : w.heap.size = B at *
    have HBE := Lib.hid hB
    go_enter Tryz.func19, Tryz.ntmps19
    go_upto_region 1 with (fail)
    clear hB
    generalize (w.alloc (.cells ⟨[.slice x.A0 x.l.length x.k0, .slice x.A1 x.zs.length x.k1, .int .i64 x.c, .slice x.A2 x.os.length x.k2, .slice x.A3 x.bs.length x.k3, .slice x.A4 x.cs.length x.k4, .int .i64 x.n, .slice x.A5 x.ss.length x.k5, .slice x.A6 x.sk.length x.k6, .int .i64 x.m]⟩ 42)) = V0 at *
    have b0_ := HX.out.bx.cell 0 _ rfl; have b1_ := HX.out.bx.cell 1 _ rfl; have b2_ := HX.out.bx.cell 2 _ rfl; have b3_ := HX.out.bx.cell 3 _ rfl; have b4_ := HX.out.bx.cell 4 _ rfl; have b5_ := HX.out.bx.cell 5 _ rfl; have b6_ := HX.out.bx.cell 6 _ rfl; have b7_ := HX.out.bx.cell 7 _ rfl; have b8_ := HX.out.bx.cell 8 _ rfl; have b9_ := HX.out.bx.cell 9 _ rfl
    go_wp2_with fail
    clear b0_ b1_ b2_ b3_ b4_ b5_ b6_ b7_ b8_ b9_
    refine (HI.out V0 HX.out.i).mono ?_; rintro e V1 ⟨rfl, hb⟩
    replace HX := Lib.hid (HX.out.below hb); replace HB := Lib.hid (HB.out.trans (hb.mono HSZ.out)); replace HSZ := Lib.hid (Nat.le_trans HSZ.out hb.size); clear hb
    have b3_ := HX.out.bx.cell 3 _ rfl
    go_wp2_with fail
    clear b3_
    refine (in_any id 1 (x.os.length : Int) V1).mono ?_; rintro e u ⟨rfl, hu⟩; subst hu
    cases qi : inB id 1 (x.os.length : Int) with
    | false =>
      have HVF := Lib.hid (HV.out.trans (if_neg (by rw [qi]; exact Bool.false_ne_true)))
      go_wp2
      go_ret
      exact ⟨ret_int HVF.out.symm, by first | exact HB.out | (rw [HBE.out]; exact HB.out)⟩
    | true =>
    replace HV := Lib.hid (HV.out.trans (if_pos qi))
    have hii := inB_iff.1 qi
    clear qi
    obtain ⟨k, hk⟩ : ∃ k : Nat, id = (k : Int) + 1 := ⟨id.toNat - 1, by omega⟩
    subst hk
    have hkl : k < x.os.length := by omega
    have hkt : (((k : Int) + 1).toNat - 1) = k := by omega
    rw [hkt, HG.out k hkl] at HV
    clear hkt hii
    have hok := HOK.out k hkl
    have hob := HZ.out.way _ (List.getElem_mem hkl)
    have HST := Lib.hid (fun W (h : WorIn W x) => strand_spec x k W h HZ.out hkl hok)
    dsimp only [worV] at HST
    have HORD := Lib.hid (fun W (h : WorIn W x) => orAt_of h.os h.way k hkl)
    have HV2 := Lib.hid (show (match some (x.os[k]).d with
      | some z => planO x.l z
      | none => -1) = planO x.l (x.os[k]).d from rfl)
    rw [HV2.out] at HV
    clear HV2
    have hosb : x.os.length ≤ 1048576 := HZ.out.os
    have hkb : k ≤ 1048576 := by omega
    have hki : (k : Int) < (x.os.length : Int) := by omega
    generalize x.os[k] = z at *
    have HK := Lib.hid hok; have HM := Lib.hid hob
    have HVP := Lib.hid (show planO x.l z.d = (if strB x.l z.d = true then -1 else lastE x.l (-1) z.h) from rfl)
    have HSO := Lib.hid (show strB x.l z.d = false → 1 ≤ z.h.length from fun h => HK.out.some h)
    generalize planO x.l z.d = PV at *
    generalize strB x.l z.d = SB at *
    clear hok hob hkl
    have hw1 : (k : Int) + 1 - 1 = (k : Int) := by omega
    have hww : wrap64 (k : Int) = (k : Int) := by unfold wrap64; omega
    have b0_ := HX.out.bx.cell 0 _ rfl; have b1_ := HX.out.bx.cell 1 _ rfl; have b2_ := HX.out.bx.cell 2 _ rfl; have b3_ := HX.out.bx.cell 3 _ rfl; have b4_ := HX.out.bx.cell 4 _ rfl; have b5_ := HX.out.bx.cell 5 _ rfl; have b6_ := HX.out.bx.cell 6 _ rfl; have b7_ := HX.out.bx.cell 7 _ rfl; have b8_ := HX.out.bx.cell 8 _ rfl; have b9_ := HX.out.bx.cell 9 _ rfl
    go_wp2_with fail
    clear b0_ b1_ b2_ b3_ b4_ b5_ b6_ b7_ b8_ b9_
    refine (HST.out V1 HX.out.i).mono ?_; rintro e V2 ⟨rfl, hb⟩
    replace HX := Lib.hid (HX.out.below hb); replace HB := Lib.hid (HB.out.trans (hb.mono HSZ.out)); replace HSZ := Lib.hid (Nat.le_trans HSZ.out hb.size); clear hb
    cases SB with
    | true =>
      have HVF := Lib.hid (HV.out.trans (HVP.out.trans rfl))
      go_wp2
      go_ret
      exact ⟨ret_int HVF.out.symm, by first | exact HB.out | (rw [HBE.out]; exact HB.out)⟩
    | false =>
      have hl1 := HSO.out rfl
      obtain ⟨m, hml⟩ : ∃ m, z.h.length = m + 1 := ⟨z.h.length - 1, by omega⟩
      have hmq : m < z.h.length := by omega
      have HVF := Lib.hid (HV.out.trans (HVP.out.trans (show _ = trE x.l z.h[m] by
        show lastE x.l (-1) z.h = _
        rw [lastE_all x.l (-1) z.h (by omega)]
        congr 2; omega)))
      have htr := (tripsB_iff.1 HK.out.trips).2 m hmq
      have HTQ := Lib.hid (show trB x.l x.zs x.c z.h[m] = true from htr); clear htr
      obtain ⟨g, hAe, hoa⟩ := HORD.out V2 HX.out.i
      have b3_ := HX.out.bx.cell 3 _ rfl
      rw [hAe] at b3_
      clear hAe
      have p0_ := hoa.c0
      have p1_ := hoa.c1
      have p2_ := hoa.c2
      have p3_ := hoa.c3
      have p4_ := hoa.c4
      have p5_ := hoa.c5
      have p6_ := hoa.c6
      have p7_ := hoa.c7
      have p8_ := hoa.c8
      have p9_ := hoa.c9
      have p10_ := hoa.c10
      have hbB := (Below.refl V2.heap.size V2).alloc (Nat.le_refl _) (.cells ⟨[.string z.f, .string z.t, .int .i64 z.s, .int .i64 z.m, .int .i64 z.a, .int .i64 z.u, .slice z.A z.h.length z.k, .int .i64 z.g, .int .i64 z.z, .string z.p, .int .i64 z.e]⟩ 65)
      have FO := Lib.hid (Bx.new (T := 65) V2 [.string z.f, .string z.t, .int .i64 z.s, .int .i64 z.m, .int .i64 z.a, .int .i64 z.u, .slice z.A z.h.length z.k, .int .i64 z.g, .int .i64 z.z, .string z.p, .int .i64 z.e])
      have hway := hoa.way.below hbB
      obtain ⟨ga, hWe, hga, t0_, t1_⟩ := hway.tp m hmq
      have HWE := Lib.hid hWe; clear hWe hway hoa
      replace HX := Lib.hid (HX.out.below hbB); replace HB := Lib.hid (HB.out.trans (hbB.mono HSZ.out)); replace HSZ := Lib.hid (Nat.le_trans HSZ.out hbB.size); clear hbB
      have HML := Lib.hid hml
      have hmm : m + 1 ≤ 1048576 := by rw [← hml]; exact HM.out
      have hmb : m ≤ 1048575 := by omega
      clear hml
      generalize z.h[m] = y at *
      obtain ⟨yg, yd⟩ := y
      dsimp only at t0_ t1_
      go_upto_region 4 with (fail)
      clear b3_ p0_ p1_ p2_ p3_ p4_ p5_ p6_ p7_ p8_ p9_ p10_
      generalize V2.heap.size = G at *
      change Hid (Bx 65 (V2.alloc (.cells ⟨[.string z.f, .string z.t, .int .i64 z.s, .int .i64 z.m, .int .i64 z.a, .int .i64 z.u, .slice z.A z.h.length z.k, .int .i64 z.g, .int .i64 z.z, .string z.p, .int .i64 z.e]⟩ 65)) G [.string z.f, .string z.t, .int .i64 z.s, .int .i64 z.m, .int .i64 z.a, .int .i64 z.u, .slice z.A z.h.length z.k, .int .i64 z.g, .int .i64 z.z, .string z.p, .int .i64 z.e]) at FO
      generalize V2.alloc (.cells ⟨[.string z.f, .string z.t, .int .i64 z.s, .int .i64 z.m, .int .i64 z.a, .int .i64 z.u, .slice z.A z.h.length z.k, .int .i64 z.g, .int .i64 z.z, .string z.p, .int .i64 z.e]⟩ 65) = V3 at *
      have o6_ := FO.out.cell 6 _ rfl
      rw [HWE.out, HML.out] at o6_
      have hxl := HX.out.bx.lt; have hol := FO.out.lt
      have b0F := far_cell hxl (HX.out.bx.cell 0 _ rfl); have b1F := far_cell hxl (HX.out.bx.cell 1 _ rfl); have b2F := far_cell hxl (HX.out.bx.cell 2 _ rfl)
      have o6F := far_cell hol o6_
      have t0F := far_cell hga t0_; have t1F := far_cell hga t1_
      clear o6_ t0_ t1_ hxl hol hmq hl1
      have hm1 : ((m + 1 : Nat) : Int) - 1 = (m : Int) := by omega
      have hm2 : wrap64 (m : Int) = (m : Int) := by unfold wrap64; omega
      have hm3 : (m : Int) < ((m + 1 : Nat) : Int) := by omega
      have hm4 : (0 : Int) ≤ (m : Int) := by omega
      have HC := Lib.hid (fun x' => end_tp_spec ⟨yg, yd⟩ HTQ.out x.A0 x.k0 x.A1 x.k1 (far V3 x') (HX.out.below (below_far V3 x')).i.l (HX.out.below (below_far V3 x')).i.zs HZ.out.l)
      refine wp_region_far (by kernel_rfl) (by kernel_rfl) ?_
      repeat (any_goals (first | go_big_quiet_step ((go_at_call 51; with_reducible exact call_far (HC.out _))) | quiet_step ((go_at_call 51; with_reducible exact call_far (HC.out _)))))
      refine wpQuiet_nil ?_; intro V4 hw
      have hb : Below V3.heap.size V3 V4 := by obtain ⟨u, rfl⟩ := hw; exact below_far V3 u
      replace HB := Lib.hid (HB.out.trans (hb.mono HSZ.out))
      clear hw hb
      go_wp2
      go_ret
      exact ⟨ret_int HVF.out.symm, by first | exact HB.out | (rw [HBE.out]; exact HB.out)⟩
theorem planE_implW (x : Wp) (id : Int) (w : World) (hR : WorIn w x) (hz : WorSz x) (_ : -9223372036854775808 ≤ id ∧ id ≤ 9223372036854775807) :
    Calls Tryz.prog 20 #[worV x, .int .i64 id] w fun e w' => e = .returned (.int .i64 (planEB x.dat id)) ∧ Below w.heap.size w w' := planE_impl id x w hR hz
theorem planE_specW (x : Wp) (id : Int) (w : World) (hR : WorIn w x) (hz : WorSz x) (_ : -9223372036854775808 ≤ id ∧ id ≤ 9223372036854775807) :
    Calls Tryz.prog 19 #[worV x, .int .i64 id] w fun e w' => e = .returned (.int .i64 (planEB x.dat id)) ∧ Below w.heap.size w w' := planE_spec id x w hR hz
end Go.Proofs.YtadcmngooobeiabGreat

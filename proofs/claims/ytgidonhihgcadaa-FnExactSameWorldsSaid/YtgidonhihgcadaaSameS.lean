/- The reference's SameWorlds. Written by mk/same3.py. -/
import Derived.Test.YtgidonhihgcadaaSameB
import Derived.Test.YtgidonhihgcadaaSameOS
import Derived.Deep.Cut
namespace Go.Proofs.Ytgidonhihgcadaa
open Go.RowKit
set_option maxRecDepth 100000 in
set_option maxHeartbeats 16000000 in
theorem same_spec (x y : Wp) (w : World) (hR : WorIn w x) (hS : WorIn w y) (hz : WorSz x) (_ : WorSz y) :
    Calls Try.prog 10 #[worV x, worV y] w fun e w' => e = .returned (.bool (sameB x.dat y.dat)) ∧ Below w.heap.size w w' := by
  dsimp only [worV]
  have HV := Lib.hid (sameB_of x y)
  have HZ := Lib.hid hz; clear hz
  have H0 := Lib.hid (Two2.new w x y hR hS); clear hR hS
  generalize sameB x.dat y.dat = V at *
  generalize hB : w.heap.size = B at *
  have HBE := Lib.hid hB
  go_enter Try.func10, Try.ntmps10
  go_upto_region 1 with (fail)
  simp only [List.append_eq, List.cons_append, List.nil_append]
  clear hB
  generalize (w.alloc (.cells ⟨[.slice x.A0 x.l.length x.k0, .slice x.A1 x.zs.length x.k1, .int .i64 x.c, .slice x.A2 x.os.length x.k2, .slice x.A3 x.bs.length x.k3, .slice x.A4 x.cs.length x.k4, .int .i64 x.n, .slice x.A5 x.ss.length x.k5, .slice x.A6 x.sk.length x.k6, .int .i64 x.m]⟩ 42)).alloc (.cells ⟨[.slice y.A0 y.l.length y.k0, .slice y.A1 y.zs.length y.k1, .int .i64 y.c, .slice y.A2 y.os.length y.k2, .slice y.A3 y.bs.length y.k3, .slice y.A4 y.cs.length y.k4, .int .i64 y.n, .slice y.A5 y.ss.length y.k5, .slice y.A6 y.sk.length y.k6, .int .i64 y.m]⟩ 42) = W at *
  obtain ⟨c0_, c1_, c2_, c3_, c4_, c5_, c6_, c7_, c8_, c9_⟩ := H0.out.p.c10
  obtain ⟨d0_, d1_, d2_, d3_, d4_, d5_, d6_, d7_, d8_, d9_⟩ := H0.out.q.c10
  by_cases h0 : x.l.length = y.l.length
  rotate_left
  · have n0 : ((x.l.length : Int) != (y.l.length : Int)) = true := by simp; omega
    have hF := show eqN x.l x.zs x.c y.l y.zs y.c = false by unfold eqN; rw [eqL_len h0]; rfl
    have HVF := Lib.hid (HV.out.trans (show _ = false by rw [hF]; simp only [Bool.false_and]))
    go_wp2
    go_ret
    exact ⟨ret_bool HVF.out.symm, by first | exact H0.out.b | (rw [HBE.out]; exact H0.out.b)⟩
  have n0 : ((x.l.length : Int) != (y.l.length : Int)) = false := by simp [h0]
  replace h0 := Lib.hid h0
  go_wp2_with fail
  clear c0_ c1_ c2_ c3_ c4_ c5_ c6_ c7_ c8_ c9_ d0_ d1_ d2_ d3_ d4_ d5_ d6_ d7_ d8_ d9_
  refine (same_i x.A1 y.A1 x.k1 y.k1 x.zs y.zs W H0.out.i.zs H0.out.j.zs HZ.out.zs).mono ?_; rintro e w1 ⟨rfl, hb⟩
  replace H0 := Lib.hid (H0.out.below hb); clear hb
  obtain ⟨c0_, c1_, c2_, c3_, c4_, c5_, c6_, c7_, c8_, c9_⟩ := H0.out.p.c10
  obtain ⟨d0_, d1_, d2_, d3_, d4_, d5_, d6_, d7_, d8_, d9_⟩ := H0.out.q.c10
  cases h1 : eqL eqI x.zs y.zs with
  | false =>
    have hF := show eqN x.l x.zs x.c y.l y.zs y.c = false by unfold eqN; rw [h1]; simp
    have HVF := Lib.hid (HV.out.trans (show _ = false by rw [hF]; simp only [Bool.false_and]))
    go_wp2
    go_ret
    exact ⟨ret_bool HVF.out.symm, by first | exact H0.out.b | (rw [HBE.out]; exact H0.out.b)⟩
  | true =>
    cases h2 : (x.c == y.c) with
    | false =>
      have n2 : (x.c != y.c) = true := by rw [bne, h2]; rfl
      have hF := show eqN x.l x.zs x.c y.l y.zs y.c = false by unfold eqN; rw [h2]; simp
      have HVF := Lib.hid (HV.out.trans (show _ = false by rw [hF]; simp only [Bool.false_and]))
      go_wp2
      go_ret
      exact ⟨ret_bool HVF.out.symm, by first | exact H0.out.b | (rw [HBE.out]; exact H0.out.b)⟩
    | true =>
      have n2 : (x.c != y.c) = false := by rw [bne, h2]; rfl
      by_cases h3 : x.os.length = y.os.length
      rotate_left
      · have n3 : ((x.os.length : Int) != (y.os.length : Int)) = true := by simp; omega
        have hF := show eqL (fun x y : OrR => eqO x.d y.d) x.os y.os = false from eqL_len h3
        have HVF := Lib.hid (HV.out.trans (show _ = false by rw [hF]; simp only [Bool.and_false, Bool.false_and]))
        go_wp2
        go_ret
        exact ⟨ret_bool HVF.out.symm, by first | exact H0.out.b | (rw [HBE.out]; exact H0.out.b)⟩
      have n3 : ((x.os.length : Int) != (y.os.length : Int)) = false := by simp [h3]
      replace h3 := Lib.hid h3
      by_cases h4 : x.bs.length = y.bs.length
      rotate_left
      · have n4 : ((x.bs.length : Int) != (y.bs.length : Int)) = true := by simp; omega
        have hF := show eqL eqBk x.bs y.bs = false from eqL_len h4
        have HVF := Lib.hid (HV.out.trans (show _ = false by rw [hF]; simp only [Bool.and_false, Bool.false_and]))
        go_wp2
        go_ret
        exact ⟨ret_bool HVF.out.symm, by first | exact H0.out.b | (rw [HBE.out]; exact H0.out.b)⟩
      have n4 : ((x.bs.length : Int) != (y.bs.length : Int)) = false := by simp [h4]
      replace h4 := Lib.hid h4
      go_wp2_with fail
      clear c0_ c1_ c2_ c3_ c4_ c5_ c6_ c7_ c8_ c9_ d0_ d1_ d2_ d3_ d4_ d5_ d6_ d7_ d8_ d9_
      refine (same_tp x.A4 y.A4 x.k4 y.k4 x.cs y.cs w1 H0.out.i.cs H0.out.j.cs HZ.out.cs).mono ?_; rintro e w2 ⟨rfl, hb⟩
      replace H0 := Lib.hid (H0.out.below hb); clear hb
      obtain ⟨c0_, c1_, c2_, c3_, c4_, c5_, c6_, c7_, c8_, c9_⟩ := H0.out.p.c10
      obtain ⟨d0_, d1_, d2_, d3_, d4_, d5_, d6_, d7_, d8_, d9_⟩ := H0.out.q.c10
      cases h5 : eqL eqTp x.cs y.cs with
      | false =>
        have hF := show eqL eqTp x.cs y.cs = false from h5
        have HVF := Lib.hid (HV.out.trans (show _ = false by rw [hF]; simp only [Bool.and_false, Bool.false_and]))
        go_wp2
        go_ret
        exact ⟨ret_bool HVF.out.symm, by first | exact H0.out.b | (rw [HBE.out]; exact H0.out.b)⟩
      | true =>
        cases h6 : (x.n == y.n) with
        | false =>
          have n6 : (x.n != y.n) = true := by rw [bne, h6]; rfl
          have hF := show (x.n == y.n) = false from h6
          have HVF := Lib.hid (HV.out.trans (show _ = false by rw [hF]; simp only [Bool.and_false, Bool.false_and]))
          go_wp2
          go_ret
          exact ⟨ret_bool HVF.out.symm, by first | exact H0.out.b | (rw [HBE.out]; exact H0.out.b)⟩
        | true =>
          have n6 : (x.n != y.n) = false := by rw [bne, h6]; rfl
          by_cases h7 : x.ss.length = y.ss.length
          rotate_left
          · have n7 : ((x.ss.length : Int) != (y.ss.length : Int)) = true := by simp; omega
            have hF := show eqL eqSc x.ss y.ss = false from eqL_len h7
            have HVF := Lib.hid (HV.out.trans (show _ = false by rw [hF]; simp only [Bool.and_false, Bool.false_and]))
            go_wp2
            go_ret
            exact ⟨ret_bool HVF.out.symm, by first | exact H0.out.b | (rw [HBE.out]; exact H0.out.b)⟩
          have n7 : ((x.ss.length : Int) != (y.ss.length : Int)) = false := by simp [h7]
          replace h7 := Lib.hid h7
          go_wp2_with fail
          clear c0_ c1_ c2_ c3_ c4_ c5_ c6_ c7_ c8_ c9_ d0_ d1_ d2_ d3_ d4_ d5_ d6_ d7_ d8_ d9_
          refine (same_i x.A6 y.A6 x.k6 y.k6 x.sk y.sk w2 H0.out.i.sk H0.out.j.sk HZ.out.sk).mono ?_; rintro e w3 ⟨rfl, hb⟩
          replace H0 := Lib.hid (H0.out.below hb); clear hb
          obtain ⟨c0_, c1_, c2_, c3_, c4_, c5_, c6_, c7_, c8_, c9_⟩ := H0.out.p.c10
          obtain ⟨d0_, d1_, d2_, d3_, d4_, d5_, d6_, d7_, d8_, d9_⟩ := H0.out.q.c10
          cases h8 : eqL eqI x.sk y.sk with
          | false =>
            have hF := show eqL eqI x.sk y.sk = false from h8
            have HVF := Lib.hid (HV.out.trans (show _ = false by rw [hF]; simp only [Bool.and_false, Bool.false_and]))
            go_wp2
            go_ret
            exact ⟨ret_bool HVF.out.symm, by first | exact H0.out.b | (rw [HBE.out]; exact H0.out.b)⟩
          | true =>
            cases h9 : (x.m == y.m) with
            | false =>
              have n9 : (x.m != y.m) = true := by rw [bne, h9]; rfl
              have hF := show (x.m == y.m) = false from h9
              have HVF := Lib.hid (HV.out.trans (show _ = false by rw [hF]; simp only [Bool.and_false]))
              go_wp2
              go_ret
              exact ⟨ret_bool HVF.out.symm, by first | exact H0.out.b | (rw [HBE.out]; exact H0.out.b)⟩
            | true =>
              have n9 : (x.m != y.m) = false := by rw [bne, h9]; rfl
              have HVR := Lib.hid (HV.out.trans (show _ = (eqL eqLg x.l y.l && (eqL (fun x y : OrR => eqO x.d y.d) x.os y.os && (eqL eqBk x.bs y.bs && eqL eqSc x.ss y.ss))) by
                unfold eqN; rw [h1, h2, h5, h6, h8, h9]; simp only [Bool.and_true, Bool.true_and]))
              clear HV
              go_wp2
              clear c0_ c1_ c2_ c3_ c4_ c5_ c6_ c7_ c8_ c9_ d0_ d1_ d2_ d3_ d4_ d5_ d6_ d7_ d8_ d9_
              go_loopw [5] (fun i wr => ∃ k : Nat, i = .int .i64 k ∧ k ≤ x.l.length ∧ Hid (∀ j (ha : j < x.l.length) (hb : j < y.l.length), j < k → eqLg x.l[j] y.l[j] = true) ∧ Hid (Below w3.heap.size w3 wr)) (fun i _ => x.l.length - (intOf i).toNat)
              case atStart => exact ⟨0, rfl, Nat.zero_le _, Lib.hid (fun j _ _ h => absurd h (by omega)), Lib.hid (Below.refl _ _)⟩
              case round =>
                obtain ⟨k, rfl, hk, hall, hbw⟩ := hrel
                have H1 := Lib.hid (H0.out.below hbw.out)
                have hlen0 : x.l.length ≤ 1048576 := HZ.out.l
                by_cases hlt : (k : Int) < (x.l.length : Int)
                · have hka : k < x.l.length := by omega
                  have hkb : k < y.l.length := by have := h0.out; omega
                  obtain ⟨ga, hAe, hga, p0_, p1_, p2_, p3_, p4_, p5_⟩ := (H1.out.i.l).lg k hka
                  obtain ⟨gb, hBe, hgb, q0_, q1_, q2_, q3_, q4_, q5_⟩ := (H1.out.j.l).lg k hkb
                  have c_ := H1.out.p.cell 0 _ rfl
                  have d_ := H1.out.q.cell 0 _ rfl
                  rw [hAe] at c_
                  rw [hBe] at d_
                  have HH := Lib.hid (fun h => eqL_no (q := eqLg) hka hkb h)
                  have HN := Lib.hid (fun (h : eqLg x.l[k] y.l[k] = true) j (ha : j < x.l.length) (hb : j < y.l.length) (hjk : j < k + 1) => show eqLg x.l[j] y.l[j] = true by
                    by_cases e : j = k
                    · subst e; exact h
                    · exact hall.out j ha hb (by omega))
                  clear hall
                  have hEQ := lg_neqW x.l[k] y.l[k]
                  generalize x.l[k] = X at *
                  generalize y.l[k] = Y at *
                  have HXL := Lib.hid hka; have HYL := Lib.hid hkb
                  cases hq : eqLg X Y with
                  | true =>
                    rw [hq] at hEQ
                    have HV := Lib.hid (HN.out hq)
                    clear HH HN hq
                    go_wp2_with fail
                    go_quiet (fail)
                    go_wp2
                    go_roundw
                    case rel => exact ⟨k + 1, by go_num, by omega, HV, Lib.hid (by first | exact hbw.out | exact below_drewN hbw.out _)⟩
                    case measure => simp [intOf]; omega
                  | false =>
                    rw [hq] at hEQ
                    have HV := Lib.hid (HH.out hq)
                    clear HH HN hq
                    go_wp2_with fail
                    go_quiet (fail)
                    have HVF := Lib.hid (HVR.out.trans (show _ = false by rw [HV.out]; rfl))
                    go_wp2
                    go_ret
                    exact ⟨ret_bool HVF.out.symm, by first | exact H1.out.b | exact below_drewN H1.out.b _⟩
                · obtain rfl : k = x.l.length := by omega
                  have HV0 := Lib.hid (eqL_yes (q := eqLg) h0.out (fun j ha hb => hall.out j ha hb ha))
                  clear hall
                  replace H0 := H1; clear H1
                  have c_ := H0.out.p.cell 0 _ rfl
                  go_wp2
                  clear c_
                  obtain ⟨W0', hW⟩ : ∃ W', W' = wr := ⟨_, rfl⟩
                  rw [← hW] at H0 ⊢; clear hW hbw
                  go_loopw [6] (fun i wr => ∃ k : Nat, i = .int .i64 k ∧ k ≤ x.os.length ∧ Hid (∀ j (ha : j < x.os.length) (hb : j < y.os.length), j < k → (fun x y : OrR => eqO x.d y.d) x.os[j] y.os[j] = true) ∧ Hid (Below W0'.heap.size W0' wr)) (fun i _ => x.os.length - (intOf i).toNat)
                  case atStart => exact ⟨0, rfl, Nat.zero_le _, Lib.hid (fun j _ _ h => absurd h (by omega)), Lib.hid (Below.refl _ _)⟩
                  case round =>
                    obtain ⟨k, rfl, hk, hall, hbw⟩ := hrel
                    have H1 := Lib.hid (H0.out.below hbw.out)
                    have hlen1 : x.os.length ≤ 1048576 := HZ.out.os
                    by_cases hlt : (k : Int) < (x.os.length : Int)
                    · have hka : k < x.os.length := by omega
                      have hkb : k < y.os.length := by have := h3.out; omega
                      obtain ⟨ga, hAe, hga, p0_, p1_, p2_, p3_, p4_, p5_, p6_, p7_, p8_, p9_, p10_⟩ := (H1.out.i.os).or k hka
                      obtain ⟨gb, hBe, hgb, q0_, q1_, q2_, q3_, q4_, q5_, q6_, q7_, q8_, q9_, q10_⟩ := (H1.out.j.os).or k hkb
                      have c_ := H1.out.p.cell 3 _ rfl
                      have d_ := H1.out.q.cell 3 _ rfl
                      rw [hAe] at c_
                      rw [hBe] at d_
                      have HH := Lib.hid (fun h => eqL_no (q := (fun x y : OrR => eqO x.d y.d)) hka hkb h)
                      have HN := Lib.hid (fun (h : (fun x y : OrR => eqO x.d y.d) x.os[k] y.os[k] = true) j (ha : j < x.os.length) (hb : j < y.os.length) (hjk : j < k + 1) => show (fun x y : OrR => eqO x.d y.d) x.os[j] y.os[j] = true by
                        by_cases e : j = k
                        · subst e; exact h
                        · exact hall.out j ha hb (by omega))
                      clear hall
                      have HX := Lib.hid (fun W (h : Below wr.heap.size wr W) => sameO_spec x.os[k] y.os[k] W ((H1.out.i.way _ (List.getElem_mem hka)).below h) ((H1.out.j.way _ (List.getElem_mem hkb)).below h) (HZ.out.way _ (List.getElem_mem hka)))
                      dsimp only at HH HN
                      generalize x.os[k] = X at *
                      generalize y.os[k] = Y at *
                      cases hq : eqO X.d Y.d with
                      | true =>
                        rw [hq] at HX
                        have HV := Lib.hid (HN.out hq)
                        clear HH HN hq
                        go_wp2_with fail
                        have hxl := H1.out.p.lt; have hyl := H1.out.q.lt
                        have cF := far_cell hxl c_; have dF := far_cell hyl d_
                        have p0F := far_cell hga p0_; have q0F := far_cell hgb q0_
                        have p1F := far_cell hga p1_; have q1F := far_cell hgb q1_
                        have p2F := far_cell hga p2_; have q2F := far_cell hgb q2_
                        have p3F := far_cell hga p3_; have q3F := far_cell hgb q3_
                        have p4F := far_cell hga p4_; have q4F := far_cell hgb q4_
                        have p5F := far_cell hga p5_; have q5F := far_cell hgb q5_
                        have p6F := far_cell hga p6_; have q6F := far_cell hgb q6_
                        have p7F := far_cell hga p7_; have q7F := far_cell hgb q7_
                        have p8F := far_cell hga p8_; have q8F := far_cell hgb q8_
                        have p9F := far_cell hga p9_; have q9F := far_cell hgb q9_
                        have p10F := far_cell hga p10_; have q10F := far_cell hgb q10_
                        clear c_ d_ p0_ p1_ p2_ p3_ p4_ p5_ p6_ p7_ p8_ p9_ p10_ q0_ q1_ q2_ q3_ q4_ q5_ q6_ q7_ q8_ q9_ q10_
                        have HFAR := Lib.hid (fun x' => HX.out (far wr x') (below_far wr x'))
                        refine wp_region_far (by kernel_rfl) (by kernel_rfl) ?_
                        repeat (any_goals (first | go_big_quiet_step ((go_at_call 32; with_reducible exact call_far (HFAR.out _))) | quiet_step ((go_at_call 32; with_reducible exact call_far (HFAR.out _)))))
                        refine wpQuiet_nil ?_; intro wz hw
                        have hbz : Below wr.heap.size wr wz := by obtain ⟨u, rfl⟩ := hw; exact below_far wr u
                        replace H1 := Lib.hid (H1.out.below hbz)
                        replace hbw := Lib.hid (hbw.out.trans (hbz.mono hbw.out.size))
                        clear hw hbz cF dF p0F q0F p1F q1F p2F q2F p3F q3F p4F q4F p5F q5F p6F q6F p7F q7F p8F q8F p9F q9F p10F q10F HFAR HX
                        go_wp2
                        go_roundw
                        case rel => exact ⟨k + 1, by go_num, by omega, HV, Lib.hid (by first | exact hbw.out | exact below_drewN hbw.out _)⟩
                        case measure => simp [intOf]; omega
                      | false =>
                        rw [hq] at HX
                        have HV := Lib.hid (HH.out hq)
                        clear HH HN hq
                        go_wp2_with fail
                        have hxl := H1.out.p.lt; have hyl := H1.out.q.lt
                        have cF := far_cell hxl c_; have dF := far_cell hyl d_
                        have p0F := far_cell hga p0_; have q0F := far_cell hgb q0_
                        have p1F := far_cell hga p1_; have q1F := far_cell hgb q1_
                        have p2F := far_cell hga p2_; have q2F := far_cell hgb q2_
                        have p3F := far_cell hga p3_; have q3F := far_cell hgb q3_
                        have p4F := far_cell hga p4_; have q4F := far_cell hgb q4_
                        have p5F := far_cell hga p5_; have q5F := far_cell hgb q5_
                        have p6F := far_cell hga p6_; have q6F := far_cell hgb q6_
                        have p7F := far_cell hga p7_; have q7F := far_cell hgb q7_
                        have p8F := far_cell hga p8_; have q8F := far_cell hgb q8_
                        have p9F := far_cell hga p9_; have q9F := far_cell hgb q9_
                        have p10F := far_cell hga p10_; have q10F := far_cell hgb q10_
                        clear c_ d_ p0_ p1_ p2_ p3_ p4_ p5_ p6_ p7_ p8_ p9_ p10_ q0_ q1_ q2_ q3_ q4_ q5_ q6_ q7_ q8_ q9_ q10_
                        have HFAR := Lib.hid (fun x' => HX.out (far wr x') (below_far wr x'))
                        refine wp_region_far (by kernel_rfl) (by kernel_rfl) ?_
                        repeat (any_goals (first | go_big_quiet_step ((go_at_call 32; with_reducible exact call_far (HFAR.out _))) | quiet_step ((go_at_call 32; with_reducible exact call_far (HFAR.out _)))))
                        refine wpQuiet_nil ?_; intro wz hw
                        have hbz : Below wr.heap.size wr wz := by obtain ⟨u, rfl⟩ := hw; exact below_far wr u
                        replace H1 := Lib.hid (H1.out.below hbz)
                        replace hbw := Lib.hid (hbw.out.trans (hbz.mono hbw.out.size))
                        clear hw hbz cF dF p0F q0F p1F q1F p2F q2F p3F q3F p4F q4F p5F q5F p6F q6F p7F q7F p8F q8F p9F q9F p10F q10F HFAR HX
                        have HVF := Lib.hid (HVR.out.trans (show _ = false by rw [HV.out]; simp only [Bool.and_false, Bool.false_and]))
                        go_wp2
                        go_ret
                        exact ⟨ret_bool HVF.out.symm, by first | exact H1.out.b | exact below_drewN H1.out.b _⟩
                    · obtain rfl : k = x.os.length := by omega
                      have HV1 := Lib.hid (eqL_yes (q := (fun x y : OrR => eqO x.d y.d)) h3.out (fun j ha hb => hall.out j ha hb ha))
                      clear hall
                      replace H0 := H1; clear H1
                      have c_ := H0.out.p.cell 3 _ rfl
                      go_wp2
                      clear c_
                      obtain ⟨W1', hW⟩ : ∃ W', W' = wr := ⟨_, rfl⟩
                      rw [← hW] at H0 ⊢; clear hW hbw
                      go_loopw [7] (fun i wr => ∃ k : Nat, i = .int .i64 k ∧ k ≤ x.bs.length ∧ Hid (∀ j (ha : j < x.bs.length) (hb : j < y.bs.length), j < k → eqBk x.bs[j] y.bs[j] = true) ∧ Hid (Below W1'.heap.size W1' wr)) (fun i _ => x.bs.length - (intOf i).toNat)
                      case atStart => exact ⟨0, rfl, Nat.zero_le _, Lib.hid (fun j _ _ h => absurd h (by omega)), Lib.hid (Below.refl _ _)⟩
                      case round =>
                        obtain ⟨k, rfl, hk, hall, hbw⟩ := hrel
                        have H1 := Lib.hid (H0.out.below hbw.out)
                        have hlen2 : x.bs.length ≤ 1048576 := HZ.out.bs
                        by_cases hlt : (k : Int) < (x.bs.length : Int)
                        · have hka : k < x.bs.length := by omega
                          have hkb : k < y.bs.length := by have := h4.out; omega
                          obtain ⟨ga, hAe, hga, p0_, p1_, p2_, p3_⟩ := (H1.out.i.bs).bk k hka
                          obtain ⟨gb, hBe, hgb, q0_, q1_, q2_, q3_⟩ := (H1.out.j.bs).bk k hkb
                          have c_ := H1.out.p.cell 4 _ rfl
                          have d_ := H1.out.q.cell 4 _ rfl
                          rw [hAe] at c_
                          rw [hBe] at d_
                          have HH := Lib.hid (fun h => eqL_no (q := eqBk) hka hkb h)
                          have HN := Lib.hid (fun (h : eqBk x.bs[k] y.bs[k] = true) j (ha : j < x.bs.length) (hb : j < y.bs.length) (hjk : j < k + 1) => show eqBk x.bs[j] y.bs[j] = true by
                            by_cases e : j = k
                            · subst e; exact h
                            · exact hall.out j ha hb (by omega))
                          clear hall
                          have hEQ := bk_neqW x.bs[k] y.bs[k]
                          generalize x.bs[k] = X at *
                          generalize y.bs[k] = Y at *
                          have HXL := Lib.hid hka; have HYL := Lib.hid hkb
                          cases hq : eqBk X Y with
                          | true =>
                            rw [hq] at hEQ
                            have HV := Lib.hid (HN.out hq)
                            clear HH HN hq
                            go_wp2_with fail
                            go_quiet (fail)
                            go_wp2
                            go_roundw
                            case rel => exact ⟨k + 1, by go_num, by omega, HV, Lib.hid (by first | exact hbw.out | exact below_drewN hbw.out _)⟩
                            case measure => simp [intOf]; omega
                          | false =>
                            rw [hq] at hEQ
                            have HV := Lib.hid (HH.out hq)
                            clear HH HN hq
                            go_wp2_with fail
                            go_quiet (fail)
                            have HVF := Lib.hid (HVR.out.trans (show _ = false by rw [HV.out]; simp only [Bool.and_false, Bool.false_and]))
                            go_wp2
                            go_ret
                            exact ⟨ret_bool HVF.out.symm, by first | exact H1.out.b | exact below_drewN H1.out.b _⟩
                        · obtain rfl : k = x.bs.length := by omega
                          have HV2 := Lib.hid (eqL_yes (q := eqBk) h4.out (fun j ha hb => hall.out j ha hb ha))
                          clear hall
                          replace H0 := H1; clear H1
                          have c_ := H0.out.p.cell 4 _ rfl
                          go_wp2
                          clear c_
                          obtain ⟨W2', hW⟩ : ∃ W', W' = wr := ⟨_, rfl⟩
                          rw [← hW] at H0 ⊢; clear hW hbw
                          go_loopw [8] (fun i wr => ∃ k : Nat, i = .int .i64 k ∧ k ≤ x.ss.length ∧ Hid (∀ j (ha : j < x.ss.length) (hb : j < y.ss.length), j < k → eqSc x.ss[j] y.ss[j] = true) ∧ Hid (Below W2'.heap.size W2' wr)) (fun i _ => x.ss.length - (intOf i).toNat)
                          case atStart => exact ⟨0, rfl, Nat.zero_le _, Lib.hid (fun j _ _ h => absurd h (by omega)), Lib.hid (Below.refl _ _)⟩
                          case round =>
                            obtain ⟨k, rfl, hk, hall, hbw⟩ := hrel
                            have H1 := Lib.hid (H0.out.below hbw.out)
                            have hlen3 : x.ss.length ≤ 1048576 := HZ.out.ss
                            by_cases hlt : (k : Int) < (x.ss.length : Int)
                            · have hka : k < x.ss.length := by omega
                              have hkb : k < y.ss.length := by have := h7.out; omega
                              obtain ⟨ga, hAe, hga, p0_, p1_, p2_, p3_, p4_, p5_⟩ := (H1.out.i.ss).sc k hka
                              obtain ⟨gb, hBe, hgb, q0_, q1_, q2_, q3_, q4_, q5_⟩ := (H1.out.j.ss).sc k hkb
                              have c_ := H1.out.p.cell 7 _ rfl
                              have d_ := H1.out.q.cell 7 _ rfl
                              rw [hAe] at c_
                              rw [hBe] at d_
                              have HH := Lib.hid (fun h => eqL_no (q := eqSc) hka hkb h)
                              have HN := Lib.hid (fun (h : eqSc x.ss[k] y.ss[k] = true) j (ha : j < x.ss.length) (hb : j < y.ss.length) (hjk : j < k + 1) => show eqSc x.ss[j] y.ss[j] = true by
                                by_cases e : j = k
                                · subst e; exact h
                                · exact hall.out j ha hb (by omega))
                              clear hall
                              have hEQ := sc_neqW x.ss[k] y.ss[k]
                              generalize x.ss[k] = X at *
                              generalize y.ss[k] = Y at *
                              have HXL := Lib.hid hka; have HYL := Lib.hid hkb
                              cases hq : eqSc X Y with
                              | true =>
                                rw [hq] at hEQ
                                have HV := Lib.hid (HN.out hq)
                                clear HH HN hq
                                go_wp2_with fail
                                go_quiet (fail)
                                go_wp2
                                go_roundw
                                case rel => exact ⟨k + 1, by go_num, by omega, HV, Lib.hid (by first | exact hbw.out | exact below_drewN hbw.out _)⟩
                                case measure => simp [intOf]; omega
                              | false =>
                                rw [hq] at hEQ
                                have HV := Lib.hid (HH.out hq)
                                clear HH HN hq
                                go_wp2_with fail
                                go_quiet (fail)
                                have HVF := Lib.hid (HVR.out.trans (show _ = false by rw [HV.out]; simp only [Bool.and_false]))
                                go_wp2
                                go_ret
                                exact ⟨ret_bool HVF.out.symm, by first | exact H1.out.b | exact below_drewN H1.out.b _⟩
                            · obtain rfl : k = x.ss.length := by omega
                              have HV3 := Lib.hid (eqL_yes (q := eqSc) h7.out (fun j ha hb => hall.out j ha hb ha))
                              clear hall
                              replace H0 := H1; clear H1
                              have c_ := H0.out.p.cell 7 _ rfl
                              have HVF := Lib.hid (HVR.out.trans (show _ = true by rw [HV0.out, HV1.out, HV2.out, HV3.out]; rfl))
                              go_wp2
                              go_ret
                              exact ⟨ret_bool HVF.out.symm, by first | exact H0.out.b | (rw [HBE.out]; exact H0.out.b)⟩
end Go.Proofs.Ytgidonhihgcadaa

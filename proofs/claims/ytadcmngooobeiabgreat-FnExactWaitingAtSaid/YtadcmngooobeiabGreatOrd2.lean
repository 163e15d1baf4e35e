/- What is asked of an order: hasTerms. Written by mk/isw1.py. -/
import Derived.Test.YtadcmngooobeiabGreatOrd1
import Derived.Test.YtadcmngooobeiabGreatBe
import Derived.Deep.Cut
namespace Go.Proofs.YtadcmngooobeiabGreat
open Go.RowKit
def termsB (l : List Lg) (now : Int) (z : OrRD) : Bool := (!(z.f.toList == z.t.toList)) && (Lib.containsS (placesB l) z.f && (Lib.containsS (placesB l) z.t && (inB z.s 1 3 && (inB z.m 1 30000 && (decide (0 ≤ z.a) && (decide (z.a ≤ now) && (decide (0 ≤ z.u) && (decide (z.u ≤ 200000)))))))))
set_option maxRecDepth 100000 in
set_option maxHeartbeats 4000000 in
theorem has_terms (z : OrR) (b o : Nat) (x : Wp) (B : Nat) (w : World) (h : OrAt w b o z) (hx : WoAt w B x) (hz : WorSz x) :
    Calls Tryz.prog 105 #[.pointer (some ⟨b, o, none⟩), .pointer (some ⟨B, 0, none⟩)] w fun e w' => e = .returned (.bool (termsB x.l x.n z.d)) ∧ Below w.heap.size w w' := by
  have HV := Lib.hid (show termsB x.l x.n z.d = ((!(z.f.toList == z.t.toList)) && (Lib.containsS (placesB x.l) z.f && (Lib.containsS (placesB x.l) z.t && (inB z.s 1 3 && (inB z.m 1 30000 && (decide (0 ≤ z.a) && (decide (z.a ≤ x.n) && (decide (0 ≤ z.u) && (decide (z.u ≤ 200000)))))))))) from rfl)
  have HO := Lib.hid h; have HX := Lib.hid hx; clear h hx
  have HB := Lib.hid (Below.refl w.heap.size w)
  have hn := hz.l; clear hz
  have hpl : (placesB x.l).length ≤ 4000000 := by have := placesB_len x.l; omega
  generalize termsB x.l x.n z.d = V at *
  have b0_ := HX.out.bx.cell 0 _ rfl
  have b1_ := HX.out.bx.cell 1 _ rfl
  have b2_ := HX.out.bx.cell 2 _ rfl
  go_enter Tryz.func105, Tryz.ntmps105
  simp only [List.append_eq, List.cons_append, List.nil_append]
  go_wp2_with fail
  clear b0_ b1_ b2_
  refine (places_impl x.A0 x.k0 x.l x.A1 x.k1 x.zs.length x.c w HX.out.i.l hn).mono ?_; rintro e w0 ⟨⟨v, rfl, ho⟩, hb⟩
  replace HO := Lib.hid (HO.out.below hb); replace HX := Lib.hid (HX.out.below hb); replace HB := Lib.hid (HB.out.trans (hb.mono HB.out.size)); clear hb
  have HS := Lib.hid ho; clear ho
  generalize placesB x.l = pl at *
  have b6_ := HX.out.bx.cell 6 _ rfl
  have c0_ := HO.out.c0
  have c1_ := HO.out.c1
  have c2_ := HO.out.c2
  have c3_ := HO.out.c3
  have c4_ := HO.out.c4
  have c5_ := HO.out.c5
  have hol := HO.out.lt; have hxl := HX.out.bx.lt
  have b6F := far_cell hxl b6_
  have c0F := far_cell hol c0_
  have c1F := far_cell hol c1_
  have c2F := far_cell hol c2_
  have c3F := far_cell hol c3_
  have c4F := far_cell hol c4_
  have c5F := far_cell hol c5_
  have HC1 := Lib.hid (fun x' => (contains_own (own_below HS.out (below_far w0 x')) hpl z.f).mono (fun _ _ h => And.intro h.1 h.2.symm))
  have HC2 := Lib.hid (fun x' => (contains_own (own_below HS.out (below_far w0 x')) hpl z.t).mono (fun _ _ h => And.intro h.1 h.2.symm))
  have HC3 := Lib.hid (fun x' => is_serv z.s (far w0 x'))
  have HC4 := Lib.hid (fun x' => is_weight z.m (far w0 x'))
  go_upto_region 2 with (fail)
  clear b6_ c0_ c1_ c2_ c3_ c4_ c5_ hol hxl
  cases h0 : (!(z.f.toList == z.t.toList)) with
  | false =>
    have t0 : (z.f.toList != z.t.toList) = false := h0
    have HVF := Lib.hid (HV.out.trans (show _ = false by rw [h0]; simp only [Bool.false_and]))
    refine wp_region_far (by kernel_rfl) (by kernel_rfl) ?_
    repeat (any_goals (first | go_big_quiet_step ((first | (go_at_call 121; with_reducible exact call_far_same (HC1.out _)) | (go_at_call 121; with_reducible exact call_far_same (HC2.out _)) | (go_at_call 122; with_reducible exact call_far (HC3.out _)) | (go_at_call 123; with_reducible exact call_far (HC4.out _)))) | quiet_step ((first | (go_at_call 121; with_reducible exact call_far_same (HC1.out _)) | (go_at_call 121; with_reducible exact call_far_same (HC2.out _)) | (go_at_call 122; with_reducible exact call_far (HC3.out _)) | (go_at_call 123; with_reducible exact call_far (HC4.out _))))))
    refine wpQuiet_nil ?_; intro wz hw
    have hb : Below w0.heap.size w0 wz := by obtain ⟨u, rfl⟩ := hw; exact below_far w0 u
    go_wp2
    go_ret
    exact ⟨ret_bool HVF.out.symm, HB.out.trans (hb.mono HB.out.size)⟩
  | true =>
    have t0 : (z.f.toList != z.t.toList) = true := h0
    cases h1 : Lib.containsS (pl) z.f with
    | false =>
      have HC1 := HC1; rw [h1] at HC1
      have HVF := Lib.hid (HV.out.trans (show _ = false by rw [h1]; simp only [Bool.and_false, Bool.false_and]))
      refine wp_region_far (by kernel_rfl) (by kernel_rfl) ?_
      repeat (any_goals (first | go_big_quiet_step ((first | (go_at_call 121; with_reducible exact call_far_same (HC1.out _)) | (go_at_call 121; with_reducible exact call_far_same (HC2.out _)) | (go_at_call 122; with_reducible exact call_far (HC3.out _)) | (go_at_call 123; with_reducible exact call_far (HC4.out _)))) | quiet_step ((first | (go_at_call 121; with_reducible exact call_far_same (HC1.out _)) | (go_at_call 121; with_reducible exact call_far_same (HC2.out _)) | (go_at_call 122; with_reducible exact call_far (HC3.out _)) | (go_at_call 123; with_reducible exact call_far (HC4.out _))))))
      refine wpQuiet_nil ?_; intro wz hw
      have hb : Below w0.heap.size w0 wz := by obtain ⟨u, rfl⟩ := hw; exact below_far w0 u
      go_wp2
      go_ret
      exact ⟨ret_bool HVF.out.symm, HB.out.trans (hb.mono HB.out.size)⟩
    | true =>
      rw [h1] at HC1
      cases h2 : Lib.containsS (pl) z.t with
      | false =>
        have HC2 := HC2; rw [h2] at HC2
        have HVF := Lib.hid (HV.out.trans (show _ = false by rw [h2]; simp only [Bool.and_false, Bool.false_and]))
        refine wp_region_far (by kernel_rfl) (by kernel_rfl) ?_
        repeat (any_goals (first | go_big_quiet_step ((first | (go_at_call 121; with_reducible exact call_far_same (HC1.out _)) | (go_at_call 121; with_reducible exact call_far_same (HC2.out _)) | (go_at_call 122; with_reducible exact call_far (HC3.out _)) | (go_at_call 123; with_reducible exact call_far (HC4.out _)))) | quiet_step ((first | (go_at_call 121; with_reducible exact call_far_same (HC1.out _)) | (go_at_call 121; with_reducible exact call_far_same (HC2.out _)) | (go_at_call 122; with_reducible exact call_far (HC3.out _)) | (go_at_call 123; with_reducible exact call_far (HC4.out _))))))
        refine wpQuiet_nil ?_; intro wz hw
        have hb : Below w0.heap.size w0 wz := by obtain ⟨u, rfl⟩ := hw; exact below_far w0 u
        go_wp2
        go_ret
        exact ⟨ret_bool HVF.out.symm, HB.out.trans (hb.mono HB.out.size)⟩
      | true =>
        rw [h2] at HC2
        cases h3 : inB z.s 1 3 with
        | false =>
          have HC3 := HC3; rw [h3] at HC3
          have HVF := Lib.hid (HV.out.trans (show _ = false by rw [h3]; simp only [Bool.and_false, Bool.false_and]))
          refine wp_region_far (by kernel_rfl) (by kernel_rfl) ?_
          repeat (any_goals (first | go_big_quiet_step ((first | (go_at_call 121; with_reducible exact call_far_same (HC1.out _)) | (go_at_call 121; with_reducible exact call_far_same (HC2.out _)) | (go_at_call 122; with_reducible exact call_far (HC3.out _)) | (go_at_call 123; with_reducible exact call_far (HC4.out _)))) | quiet_step ((first | (go_at_call 121; with_reducible exact call_far_same (HC1.out _)) | (go_at_call 121; with_reducible exact call_far_same (HC2.out _)) | (go_at_call 122; with_reducible exact call_far (HC3.out _)) | (go_at_call 123; with_reducible exact call_far (HC4.out _))))))
          refine wpQuiet_nil ?_; intro wz hw
          have hb : Below w0.heap.size w0 wz := by obtain ⟨u, rfl⟩ := hw; exact below_far w0 u
          go_wp2
          go_ret
          exact ⟨ret_bool HVF.out.symm, HB.out.trans (hb.mono HB.out.size)⟩
        | true =>
          rw [h3] at HC3
          cases h4 : inB z.m 1 30000 with
          | false =>
            have HC4 := HC4; rw [h4] at HC4
            have HVF := Lib.hid (HV.out.trans (show _ = false by rw [h4]; simp only [Bool.and_false, Bool.false_and]))
            refine wp_region_far (by kernel_rfl) (by kernel_rfl) ?_
            repeat (any_goals (first | go_big_quiet_step ((first | (go_at_call 121; with_reducible exact call_far_same (HC1.out _)) | (go_at_call 121; with_reducible exact call_far_same (HC2.out _)) | (go_at_call 122; with_reducible exact call_far (HC3.out _)) | (go_at_call 123; with_reducible exact call_far (HC4.out _)))) | quiet_step ((first | (go_at_call 121; with_reducible exact call_far_same (HC1.out _)) | (go_at_call 121; with_reducible exact call_far_same (HC2.out _)) | (go_at_call 122; with_reducible exact call_far (HC3.out _)) | (go_at_call 123; with_reducible exact call_far (HC4.out _))))))
            refine wpQuiet_nil ?_; intro wz hw
            have hb : Below w0.heap.size w0 wz := by obtain ⟨u, rfl⟩ := hw; exact below_far w0 u
            go_wp2
            go_ret
            exact ⟨ret_bool HVF.out.symm, HB.out.trans (hb.mono HB.out.size)⟩
          | true =>
            rw [h4] at HC4
            cases h5 : decide (0 ≤ z.a) with
            | false =>
              have HVF := Lib.hid (HV.out.trans (show _ = false by rw [h5]; simp only [Bool.and_false, Bool.false_and]))
              refine wp_region_far (by kernel_rfl) (by kernel_rfl) ?_
              repeat (any_goals (first | go_big_quiet_step ((first | (go_at_call 121; with_reducible exact call_far_same (HC1.out _)) | (go_at_call 121; with_reducible exact call_far_same (HC2.out _)) | (go_at_call 122; with_reducible exact call_far (HC3.out _)) | (go_at_call 123; with_reducible exact call_far (HC4.out _)))) | quiet_step ((first | (go_at_call 121; with_reducible exact call_far_same (HC1.out _)) | (go_at_call 121; with_reducible exact call_far_same (HC2.out _)) | (go_at_call 122; with_reducible exact call_far (HC3.out _)) | (go_at_call 123; with_reducible exact call_far (HC4.out _))))))
              refine wpQuiet_nil ?_; intro wz hw
              have hb : Below w0.heap.size w0 wz := by obtain ⟨u, rfl⟩ := hw; exact below_far w0 u
              go_wp2
              go_ret
              exact ⟨ret_bool HVF.out.symm, HB.out.trans (hb.mono HB.out.size)⟩
            | true =>
              cases h6 : decide (z.a ≤ x.n) with
              | false =>
                have HVF := Lib.hid (HV.out.trans (show _ = false by rw [h6]; simp only [Bool.and_false, Bool.false_and]))
                refine wp_region_far (by kernel_rfl) (by kernel_rfl) ?_
                repeat (any_goals (first | go_big_quiet_step ((first | (go_at_call 121; with_reducible exact call_far_same (HC1.out _)) | (go_at_call 121; with_reducible exact call_far_same (HC2.out _)) | (go_at_call 122; with_reducible exact call_far (HC3.out _)) | (go_at_call 123; with_reducible exact call_far (HC4.out _)))) | quiet_step ((first | (go_at_call 121; with_reducible exact call_far_same (HC1.out _)) | (go_at_call 121; with_reducible exact call_far_same (HC2.out _)) | (go_at_call 122; with_reducible exact call_far (HC3.out _)) | (go_at_call 123; with_reducible exact call_far (HC4.out _))))))
                refine wpQuiet_nil ?_; intro wz hw
                have hb : Below w0.heap.size w0 wz := by obtain ⟨u, rfl⟩ := hw; exact below_far w0 u
                go_wp2
                go_ret
                exact ⟨ret_bool HVF.out.symm, HB.out.trans (hb.mono HB.out.size)⟩
              | true =>
                cases h7 : decide (0 ≤ z.u) with
                | false =>
                  have HVF := Lib.hid (HV.out.trans (show _ = false by rw [h7]; simp only [Bool.and_false, Bool.false_and]))
                  refine wp_region_far (by kernel_rfl) (by kernel_rfl) ?_
                  repeat (any_goals (first | go_big_quiet_step ((first | (go_at_call 121; with_reducible exact call_far_same (HC1.out _)) | (go_at_call 121; with_reducible exact call_far_same (HC2.out _)) | (go_at_call 122; with_reducible exact call_far (HC3.out _)) | (go_at_call 123; with_reducible exact call_far (HC4.out _)))) | quiet_step ((first | (go_at_call 121; with_reducible exact call_far_same (HC1.out _)) | (go_at_call 121; with_reducible exact call_far_same (HC2.out _)) | (go_at_call 122; with_reducible exact call_far (HC3.out _)) | (go_at_call 123; with_reducible exact call_far (HC4.out _))))))
                  refine wpQuiet_nil ?_; intro wz hw
                  have hb : Below w0.heap.size w0 wz := by obtain ⟨u, rfl⟩ := hw; exact below_far w0 u
                  go_wp2
                  go_ret
                  exact ⟨ret_bool HVF.out.symm, HB.out.trans (hb.mono HB.out.size)⟩
                | true =>
                  cases h8 : decide (z.u ≤ 200000) with
                  | false =>
                    have HVF := Lib.hid (HV.out.trans (show _ = false by rw [h8]; simp only [Bool.and_false]))
                    refine wp_region_far (by kernel_rfl) (by kernel_rfl) ?_
                    repeat (any_goals (first | go_big_quiet_step ((first | (go_at_call 121; with_reducible exact call_far_same (HC1.out _)) | (go_at_call 121; with_reducible exact call_far_same (HC2.out _)) | (go_at_call 122; with_reducible exact call_far (HC3.out _)) | (go_at_call 123; with_reducible exact call_far (HC4.out _)))) | quiet_step ((first | (go_at_call 121; with_reducible exact call_far_same (HC1.out _)) | (go_at_call 121; with_reducible exact call_far_same (HC2.out _)) | (go_at_call 122; with_reducible exact call_far (HC3.out _)) | (go_at_call 123; with_reducible exact call_far (HC4.out _))))))
                    refine wpQuiet_nil ?_; intro wz hw
                    have hb : Below w0.heap.size w0 wz := by obtain ⟨u, rfl⟩ := hw; exact below_far w0 u
                    go_wp2
                    go_ret
                    exact ⟨ret_bool HVF.out.symm, HB.out.trans (hb.mono HB.out.size)⟩
                  | true =>
                    have HVF := Lib.hid (HV.out.trans (show _ = true by rw [h0, h1, h2, h3, h4, h5, h6, h7, h8]; rfl))
                    refine wp_region_far (by kernel_rfl) (by kernel_rfl) ?_
                    repeat (any_goals (first | go_big_quiet_step ((first | (go_at_call 121; with_reducible exact call_far_same (HC1.out _)) | (go_at_call 121; with_reducible exact call_far_same (HC2.out _)) | (go_at_call 122; with_reducible exact call_far (HC3.out _)) | (go_at_call 123; with_reducible exact call_far (HC4.out _)))) | quiet_step ((first | (go_at_call 121; with_reducible exact call_far_same (HC1.out _)) | (go_at_call 121; with_reducible exact call_far_same (HC2.out _)) | (go_at_call 122; with_reducible exact call_far (HC3.out _)) | (go_at_call 123; with_reducible exact call_far (HC4.out _))))))
                    refine wpQuiet_nil ?_; intro wz hw
                    have hb : Below w0.heap.size w0 wz := by obtain ⟨u, rfl⟩ := hw; exact below_far w0 u
                    go_wp2
                    go_ret
                    exact ⟨ret_bool HVF.out.symm, HB.out.trans (hb.mono HB.out.size)⟩
end Go.Proofs.YtadcmngooobeiabGreat

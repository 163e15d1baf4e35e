/- The contract of impl.follows. Written by mk/fol.py. -/
import Derived.Test.YtamlbiagjipedaaGreatScF
import Derived.Test.YtamlbiagjipedaaGreatSpB
import Derived.Test.YtamlbiagjipedaaGreatSpA
import Derived.Test.YtamlbiagjipedaaGreatEarI
import Derived.Test.YtamlbiagjipedaaGreatBg
import Derived.Deep.Cut
namespace Go.Proofs.YtamlbiagjipedaaGreat
open Go.RowKit
theorem place_size {l : List Lg} {zs : List Int} {x : Int} {r : Sc} (hs : ∀ z ∈ l, z.f.size ≤ maxLen ∧ z.t.size ≤ maxLen) (hp : r.p.size ≤ maxLen) : (placeSc l zs x r).size ≤ maxLen ∧ (behP l zs x r).size ≤ maxLen ∧ (befP l zs x r).size ≤ maxLen := by
  have h0 : ((⟨#[]⟩ : ByteArray).size) ≤ maxLen := by unfold maxLen; decide
  cases h : scB l zs x r with
  | false => rw [place_no h, (beh_no h).1, (bef_no h).1]; exact ⟨h0, h0, h0⟩
  | true =>
    have hk := sc_kind h
    by_cases h3 : r.k = 3 ∨ r.k = 2
    · obtain ⟨_, _, k, hg, hkl, hl, _⟩ := trB_of (sc_trip h (by omega))
      dsimp only at hg hl
      have hz := hs _ (List.getElem_mem hkl)
      rw [(bef_trip h h3).1]
      rcases h3 with h3 | h2
      · rw [place_load h h3, (beh_load h h3).1, hl]; exact ⟨hz.1, hz.2, hz.1⟩
      · rw [(beh_else h (by omega)).1, place_drop h h2, hl]; exact ⟨hz.2, hz.2, hz.1⟩
    · rw [(bef_else h h3).1, (beh_else h (by omega)).1, place_here h (by omega) (by omega)]; exact ⟨hp, hp, hp⟩
theorem beh_ge {l : List Lg} {zs : List Int} {x : Int} {r : Sc} : 0 ≤ behA l zs x r ∧ behA l zs x r ≤ 100000 := by
  cases h : scB l zs x r with
  | false => rw [(beh_no h).2]; omega
  | true => exact (beh_place h).2.2
set_option maxRecDepth 100000 in
set_option maxHeartbeats 8000000 in
theorem fol_impl (h a k : Int) (p : ByteArray) (g d : Int) (h' a' k' : Int) (p' : ByteArray) (g' d' : Int) (A : Option Addr) (ca : Nat) (l : List Lg) (D : Option Addr) (cd : Nat) (zs : List Int) (x : Int) (w : World) (hA : InK 6 lgC w A l) (hD : IntsIn w D zs) (hs : ∀ z ∈ l, z.f.size ≤ maxLen ∧ z.t.size ≤ maxLen) (hn : l.length ≤ 1048576) (hm : zs.length ≤ 1048576) (hp : p.size ≤ maxLen) :
    Calls Tryz.prog 70 #[.agg #[.slice A l.length ca, .slice D zs.length cd, .int .i64 x], .agg #[.int .i64 h, .int .i64 a, .int .i64 k, .string p, .int .i64 g, .int .i64 d], .agg #[.int .i64 h', .int .i64 a', .int .i64 k', .string p', .int .i64 g', .int .i64 d']] w fun e w' => e = .returned (.bool (folB l zs x ⟨h, a, k, p, g, d⟩ ⟨h', a', k', p', g', d'⟩)) ∧ Below w.heap.size w w' := by
  have H3 := Lib.hid (three w (.cells #[.slice A l.length ca, .slice D zs.length cd, .int .i64 x] 27) (.cells #[.int .i64 h, .int .i64 a, .int .i64 k, .string p, .int .i64 g, .int .i64 d] 34) (.cells #[.int .i64 h', .int .i64 a', .int .i64 k', .string p', .int .i64 g', .int .i64 d'] 34))
  have HA := Lib.hid (hA.below H3.out.2.2.2.1); have HD := Lib.hid (hD.below H3.out.2.2.2.1); clear hA hD
  have HBH := Lib.hid (fun W (h1 : InK 6 lgC W A l) (h2 : IntsIn W D zs) => behind_impl h a k p g d A ca l D cd zs x W h1 h2 hs hn hm)
  have HBF := Lib.hid (fun W (h1 : InK 6 lgC W A l) (h2 : IntsIn W D zs) => before_impl h' a' k' p' g' d' A ca l D cd zs x W h1 h2 hs hn hm)
  have HEA := Lib.hid (fun W (h1 : InK 6 lgC W A l) (h2 : IntsIn W D zs) => early_impl (behP l zs x ⟨h, a, k, p, g, d⟩) (befP l zs x ⟨h', a', k', p', g', d'⟩) (behA l zs x ⟨h, a, k, p, g, d⟩) (place_size hs hp).2.1 (by have := (beh_ge (l := l) (zs := zs) (x := x) (r := ⟨h, a, k, p, g, d⟩)).1; omega) A ca l D cd zs x W h1 h2 hs hn hm)
  have HEB := Lib.hid (ear_bd l zs x (behP l zs x ⟨h, a, k, p, g, d⟩) (befP l zs x ⟨h', a', k', p', g', d'⟩) (behA l zs x ⟨h, a, k, p, g, d⟩))
  have HV4 := Lib.hid (fun q => fol_done (l := l) (zs := zs) (x := x) (a := ⟨h, a, k, p, g, d⟩) (b := ⟨h', a', k', p', g', d'⟩) q)
  have HVS := Lib.hid (fun q => fol_same (l := l) (zs := zs) (x := x) (a := ⟨h, a, k, p, g, d⟩) (b := ⟨h', a', k', p', g', d'⟩) q)
  have HVE := Lib.hid (fun q q2 => fol_else (l := l) (zs := zs) (x := x) (a := ⟨h, a, k, p, g, d⟩) (b := ⟨h', a', k', p', g', d'⟩) q q2)
  dsimp only at HV4 HVS HVE
  clear hs
  generalize folB l zs x ⟨h, a, k, p, g, d⟩ ⟨h', a', k', p', g', d'⟩ = V at *
  generalize earB l zs x (behP l zs x ⟨h, a, k, p, g, d⟩) (befP l zs x ⟨h', a', k', p', g', d'⟩) (behA l zs x ⟨h, a, k, p, g, d⟩) = E at *
  generalize behP l zs x ⟨h, a, k, p, g, d⟩ = BP at *
  generalize behA l zs x ⟨h, a, k, p, g, d⟩ = BA at *
  generalize befP l zs x ⟨h', a', k', p', g', d'⟩ = FP at *
  generalize befA l zs x ⟨h', a', k', p', g', d'⟩ = FT at *
  by_cases k4 : k = 4
  · have HV := Lib.hid (HV4.out k4)
    have HB0 := Lib.hid H3.out.2.2.2.1
    have t4 : (k == 4) = true := by simp [k4]
    clear HV4 HVS HVE HBH HBF HEA HEB k4 HA HD H3
    go_enter Tryz.func70, Tryz.ntmps70
    go_wp2
    go_ret
    exact ⟨ret_bool HV.out.symm, HB0.out⟩
  have t4 : (k == 4) = false := by simp [k4]
  have hEQ := trip_eql g d g' d'
  by_cases q0 : k = 3 ∧ k' = 2 ∧ g = g' ∧ d = d'
  · have HV := Lib.hid (HVS.out q0)
    have HB0 := Lib.hid H3.out.2.2.2.1
    have t3 : (k == 3) = true := by simp [q0.1]
    have t2 : (k' == 2) = true := by simp [q0.2.1]
    rw [show (g == g' && d == d') = true by simp [q0.2.2.1, q0.2.2.2]] at hEQ
    clear HV4 HVS HVE HBH HBF HEA HEB k4 q0 HA HD H3
    go_enter Tryz.func70, Tryz.ntmps70
    go_wp2
    go_ret
    exact ⟨ret_bool HV.out.symm, HB0.out⟩
  have HV := Lib.hid (HVE.out k4 q0); clear HV4 HVS HVE k4
  have HF := Lib.hid (show (k == 3) = false ∨ ((k == 3) = true ∧ (k' == 2) = false) ∨ ((k == 3) = true ∧ (k' == 2) = true ∧ (g == g' && d == d') = false) by
    by_cases e3 : k = 3
    · by_cases e2 : k' = 2
      · refine .inr (.inr ⟨by simp [e3], by simp [e2], ?_⟩)
        cases e : (g == g' && d == d') with
        | false => rfl
        | true => simp only [Bool.and_eq_true, beq_iff_eq] at e; exact absurd ⟨e3, e2, e.1, e.2⟩ q0
      · exact .inr (.inl ⟨by simp [e3], by simp [e2]⟩)
    · exact .inl (by simp [e3]))
  clear q0
  go_enter Tryz.func70, Tryz.ntmps70
  go_upto_region 3 with (fail)
  generalize hB : w.heap.size = B at *
  have HBE := Lib.hid hB; clear hB
  generalize ((w.alloc (.cells #[.slice A l.length ca, .slice D zs.length cd, .int .i64 x] 27)).alloc (.cells #[.int .i64 h, .int .i64 a, .int .i64 k, .string p, .int .i64 g, .int .i64 d] 34)).alloc (.cells #[.int .i64 h', .int .i64 a', .int .i64 k', .string p', .int .i64 g', .int .i64 d'] 34) = W at *
  obtain ⟨h1, h2, h3, h4, h5⟩ := H3.out
  have FN := Lib.hid (show Box3 27 W B (.slice A l.length ca) (.slice D zs.length cd) (.int .i64 x) from h1)
  have FA := Lib.hid h2; have FB := Lib.hid h3
  have HB0 := Lib.hid h4
  have hW0 : B < W.heap.size := by omega
  have hW1 : B + 1 < W.heap.size := by omega
  have hW2 : B + 2 < W.heap.size := by omega
  clear h1 h2 h3 h4
  obtain ⟨b0, b1, b2⟩ := FN.out.cells
  obtain ⟨s0, s1, s2, s3, s4, s5⟩ := row6 FA.out
  obtain ⟨q0, q1, q2, q3, q4, q5⟩ := row6 FB.out
  go_cut [27] from 10 (fun v wx => v = .bool false ∧ W = wx)
  case first =>
    rcases HF.out with t3 | ⟨t3, t2⟩ | ⟨t3, t2, tq⟩
    · clear hEQ
      go_wp2
      go_meet
      exact ⟨rfl, rfl⟩
    · clear hEQ
      go_wp2
      go_meet
      exact ⟨rfl, rfl⟩
    · rw [tq] at hEQ
      clear tq
      go_wp2
      go_meet
      exact ⟨rfl, rfl⟩
  case rest =>
    obtain ⟨rfl, rfl⟩ := hcut
    clear hEQ t4 HF
    go_wp2_with fail
    have HBH1 := Lib.hid (fun W' (hh : Below W.heap.size W W') => HBH.out W' (HA.out.below hh) (HD.out.below hh))
    have HBF1 := Lib.hid (fun W' (hh : Below W.heap.size W W') => HBF.out W' (HA.out.below hh) (HD.out.below hh))
    clear HBH HBF
    go_cut [7, 8] from 9 (fun v7 v8 wx => ∃ X Y, v7 = .pointer (some ⟨X, 0, none⟩) ∧ v8 = .pointer (some ⟨Y, 0, none⟩) ∧ wx.cell? ⟨X, 0, none⟩ = some (.string BP) ∧ wx.cell? ⟨X, 1, none⟩ = some (.int .i64 BA) ∧ wx.cell? ⟨Y, 0, none⟩ = some (.string FP) ∧ wx.cell? ⟨Y, 1, none⟩ = some (.int .i64 FT) ∧ Below W.heap.size W wx)
    case first =>
      refine wp_region_held_drew (S := fun w' => Below W.heap.size W w') (by kernel_rfl) (Below.refl _ _).drew (fun hHeld => ?_)
      try dsimp only
      try simp only [Act.put]
      try simp only [List.setIfInBounds_toArray]
      try simp only [List.set_cons_zero, List.set_cons_succ]
      refine wpAnyH_take (i := 0) (oi := _) (v := ?vq0) rfl (by kernel_rfl) (by kernel_rfl) (by kernel_rfl) (fun _ _ _ h => h) (Or.inl ⟨by rfl, ?hyq0⟩) (by assumption) ?restq0
      case hyq0 => (intro w hSw; (have y0 := (Below.cell (show Below W.heap.size W w from hSw) (p := ⟨B, 0, none⟩) hW0).trans b0); (have y1 := (Below.cell (show Below W.heap.size W w from hSw) (p := ⟨B, 1, none⟩) hW0).trans b1); (have y2 := (Below.cell (show Below W.heap.size W w from hSw) (p := ⟨B, 2, none⟩) hW0).trans b2); clear hSw; go_simp <;> try with_reducible rfl)
      try dsimp only
      try simp only [List.getElem_toArray, List.getElem_cons_zero]
      try simp only [Act.put]
      try simp only [List.setIfInBounds_toArray]
      try simp only [List.set_cons_zero, List.set_cons_succ]
      refine wpAnyH_take (i := 1) (oi := _) (v := ?vq1) rfl (by kernel_rfl) (by kernel_rfl) (by kernel_rfl) (fun _ _ _ h => h) (Or.inl ⟨by rfl, ?hyq1⟩) (by assumption) ?restq1
      case hyq1 => (intro w hSw; (have y0 := (Below.cell (show Below W.heap.size W w from hSw) (p := ⟨B + 1, 0, none⟩) hW1).trans s0); (have y1 := (Below.cell (show Below W.heap.size W w from hSw) (p := ⟨B + 1, 1, none⟩) hW1).trans s1); (have y2 := (Below.cell (show Below W.heap.size W w from hSw) (p := ⟨B + 1, 2, none⟩) hW1).trans s2); (have y3 := (Below.cell (show Below W.heap.size W w from hSw) (p := ⟨B + 1, 3, none⟩) hW1).trans s3); (have y4 := (Below.cell (show Below W.heap.size W w from hSw) (p := ⟨B + 1, 4, none⟩) hW1).trans s4); (have y5 := (Below.cell (show Below W.heap.size W w from hSw) (p := ⟨B + 1, 5, none⟩) hW1).trans s5); clear hSw; go_simp <;> try with_reducible rfl)
      try dsimp only
      try simp only [List.getElem_toArray, List.getElem_cons_succ, List.getElem_cons_zero]
      try simp only [Act.put]
      try simp only [List.setIfInBounds_toArray]
      try simp only [List.set_cons_zero, List.set_cons_succ]
      refine wpAnyH_take (i := 3) (oi := _) (v := ?vq3) rfl (by kernel_rfl) (by kernel_rfl) (by kernel_rfl) (fun _ _ _ h => h) (Or.inl ⟨by rfl, ?hyq3⟩) (by assumption) ?restq3
      case hyq3 => (intro w hSw; (have y0 := (Below.cell (show Below W.heap.size W w from hSw) (p := ⟨B, 0, none⟩) hW0).trans b0); (have y1 := (Below.cell (show Below W.heap.size W w from hSw) (p := ⟨B, 1, none⟩) hW0).trans b1); (have y2 := (Below.cell (show Below W.heap.size W w from hSw) (p := ⟨B, 2, none⟩) hW0).trans b2); clear hSw; go_simp <;> try with_reducible rfl)
      try dsimp only
      try simp only [List.getElem_toArray, List.getElem_cons_succ, List.getElem_cons_zero]
      try simp only [Act.put]
      try simp only [List.setIfInBounds_toArray]
      try simp only [List.set_cons_zero, List.set_cons_succ]
      refine wpAnyH_take (i := 4) (oi := _) (v := ?vq4) rfl (by kernel_rfl) (by kernel_rfl) (by kernel_rfl) (fun _ _ _ h => h) (Or.inl ⟨by rfl, ?hyq4⟩) (by assumption) ?restq4
      case hyq4 => (intro w hSw; (have y0 := (Below.cell (show Below W.heap.size W w from hSw) (p := ⟨B + 2, 0, none⟩) hW2).trans q0); (have y1 := (Below.cell (show Below W.heap.size W w from hSw) (p := ⟨B + 2, 1, none⟩) hW2).trans q1); (have y2 := (Below.cell (show Below W.heap.size W w from hSw) (p := ⟨B + 2, 2, none⟩) hW2).trans q2); (have y3 := (Below.cell (show Below W.heap.size W w from hSw) (p := ⟨B + 2, 3, none⟩) hW2).trans q3); (have y4 := (Below.cell (show Below W.heap.size W w from hSw) (p := ⟨B + 2, 4, none⟩) hW2).trans q4); (have y5 := (Below.cell (show Below W.heap.size W w from hSw) (p := ⟨B + 2, 5, none⟩) hW2).trans q5); clear hSw; go_simp <;> try with_reducible rfl)
      try dsimp only
      try simp only [List.getElem_toArray, List.getElem_cons_succ, List.getElem_cons_zero]
      try simp only [Act.put]
      try simp only [List.setIfInBounds_toArray]
      try simp only [List.set_cons_zero, List.set_cons_succ]
      clear b0 b1 b2 s0 s1 s2 s3 s4 s5 q0 q1 q2 q3 q4 q5
      generalize W.drew = V at *
      refine wpAnyH_ready (rs := [2, 6, 7]) (by kernel_rfl) (by simp) ?_
      refine AllReadyH.cons (o := _) rfl (fun K hK => ?_) ?_
      · skip
        go_simp
        go_at_call 115
        refine (HBH1.out V hHeld).mono ?_; rintro e V1 ⟨rfl, hu⟩
        have hbu : Below W.heap.size W V1 := hHeld.trans (hu.mono hHeld.size)
        clear hu hHeld
        refine hK.out _ _ ?_ (fun hH1 => ?_)
        · exact hbu
        clear hK K
        clear hbu
        try dsimp only
        try simp only [List.getElem_toArray, List.getElem_cons_succ, List.getElem_cons_zero]
        try simp only [Act.put]
        try simp only [List.setIfInBounds_toArray]
        try simp only [List.set_cons_zero, List.set_cons_succ]
        refine wpAnyH_ready (rs := [5, 6, 7]) (by kernel_rfl) (by simp) ?_
        refine AllReadyH.cons (o := _) rfl (fun K hK => ?_) ?_
        · skip
          go_simp
          go_at_call 116
          refine (HBF1.out V1 hH1).mono ?_; rintro e V2 ⟨rfl, hu⟩
          have hbu : Below W.heap.size W V2 := hH1.trans (hu.mono hH1.size)
          clear hu hH1
          refine hK.out _ _ ?_ (fun hH2 => ?_)
          · exact hbu
          clear hK K
          clear hbu
          try dsimp only
          try simp only [List.getElem_toArray, List.getElem_cons_succ, List.getElem_cons_zero]
          try simp only [Act.put]
          try simp only [List.setIfInBounds_toArray]
          try simp only [List.set_cons_zero, List.set_cons_succ]
          refine wpAnyH_ready (rs := [6, 7]) (by kernel_rfl) (by simp) ?_
          refine AllReadyH.cons (o := _) rfl (fun K hK => ?_) ?_
          · skip
            go_simp
            have hba := hH2.alloc hH2.size (.cells #[.string ⟨#[]⟩, .int .i64 0] 115)
            have FX := Lib.hid (Box2.new (T := 115) (v0 := .string ⟨#[]⟩) (v1 := .int .i64 0) V2)
            have hlX := hH2.size
            clear hH2
            refine hK.out _ _ ?_ (fun hH3 => ?_)
            · exact hba
            clear hK K
            clear hba
            generalize V2.heap.size = X at *
            generalize V2.alloc (.cells #[.string ⟨#[]⟩, .int .i64 0] 115) = V3 at *
            clear V2
            try dsimp only
            try simp only [List.getElem_toArray, List.getElem_cons_succ, List.getElem_cons_zero]
            try simp only [Act.put]
            try simp only [List.setIfInBounds_toArray]
            try simp only [List.set_cons_zero, List.set_cons_succ]
            refine wpAnyH_ready (rs := [7]) (by kernel_rfl) (by simp) ?_
            refine AllReadyH.cons (o := _) rfl (fun K hK => ?_) ?_
            · skip
              go_simp
              have hba := hH3.alloc hH3.size (.cells #[.string ⟨#[]⟩, .int .i64 0] 115)
              have FY := Lib.hid (Box2.new (T := 115) (v0 := .string ⟨#[]⟩) (v1 := .int .i64 0) V3)
              have hlY := hH3.size
              have hne : ¬ X = V3.heap.size := by have := FX.out.lt; omega
              replace FX := Lib.hid (FX.out.below ((Below.refl _ _).alloc (Nat.le_refl _) (.cells #[.string ⟨#[]⟩, .int .i64 0] 115)))
              clear hH3
              refine hK.out _ _ ?_ (fun hH4 => ?_)
              · exact hba
              clear hK K
              clear hba
              generalize V3.heap.size = Y at *
              generalize V3.alloc (.cells #[.string ⟨#[]⟩, .int .i64 0] 115) = V4 at *
              clear V3
              try dsimp only
              try simp only [List.getElem_toArray, List.getElem_cons_succ, List.getElem_cons_zero]
              try simp only [Act.put]
              try simp only [List.setIfInBounds_toArray]
              try simp only [List.set_cons_zero, List.set_cons_succ]
              refine wpAnyH_ready (rs := [8]) (by kernel_rfl) (by simp) ?_
              refine AllReadyH.cons (o := _) rfl (fun K hK => ?_) ?_
              · skip
                obtain ⟨x0, x1⟩ := FX.out.cells
                obtain ⟨y0, y1⟩ := FX.out.free
                go_simp
                clear x0 x1 y0 y1
                have hba := (hH4.setCell (p := ⟨X, 0, none⟩) hlX (.string BP)).setCell (p := ⟨X, 1, none⟩) hlX (.int .i64 BA)
                replace FX := Lib.hid (box_put (v0 := .string BP) (v1 := .int .i64 BA) FX.out)
                replace FY := Lib.hid ((FY.out.other (C := X) (o := 0) (x := .string BP) (fun e => hne (by omega))).other (C := X) (o := 1) (x := .int .i64 BA) (fun e => hne (by omega)))
                clear hH4
                refine hK.out _ _ ?_ (fun hH5 => ?_)
                · exact hba
                clear hK K
                clear hba
                generalize (V4.setCell ⟨X, 0, none⟩ (.string BP)).setCell ⟨X, 1, none⟩ (.int .i64 BA) = V5 at *
                clear V4
                try dsimp only
                try simp only [List.getElem_toArray, List.getElem_cons_succ, List.getElem_cons_zero]
                try simp only [Act.put]
                try simp only [List.setIfInBounds_toArray]
                try simp only [List.set_cons_zero, List.set_cons_succ]
                refine wpAnyH_ready (rs := [9]) (by kernel_rfl) (by simp) ?_
                refine AllReadyH.cons (o := _) rfl (fun K hK => ?_) ?_
                · skip
                  obtain ⟨x0, x1⟩ := FY.out.cells
                  obtain ⟨y0, y1⟩ := FY.out.free
                  go_simp
                  clear x0 x1 y0 y1
                  have hba := (hH5.setCell (p := ⟨Y, 0, none⟩) hlY (.string FP)).setCell (p := ⟨Y, 1, none⟩) hlY (.int .i64 FT)
                  replace FY := Lib.hid (box_put (v0 := .string FP) (v1 := .int .i64 FT) FY.out)
                  replace FX := Lib.hid ((FX.out.other (C := Y) (o := 0) (x := .string FP) (fun e => hne (by omega))).other (C := Y) (o := 1) (x := .int .i64 FT) (fun e => hne (by omega)))
                  clear hH5
                  refine hK.out _ _ ?_ (fun hH6 => ?_)
                  · exact hba
                  clear hK K
                  clear hba
                  generalize (V5.setCell ⟨Y, 0, none⟩ (.string FP)).setCell ⟨Y, 1, none⟩ (.int .i64 FT) = V6 at *
                  clear V5
                  try dsimp only
                  try simp only [List.getElem_toArray, List.getElem_cons_succ, List.getElem_cons_zero]
                  try simp only [Act.put]
                  try simp only [List.setIfInBounds_toArray]
                  try simp only [List.set_cons_zero, List.set_cons_succ]
                  refine wpAnyH_done (by kernel_rfl) ?_ _
                  try dsimp only [Act.put, Oper.dst]
                  try dsimp only
                  try simp only [Act.put]
                  try simp only [List.setIfInBounds_toArray]
                  try simp only [List.set_cons_zero, List.set_cons_succ]
                  go_wp2_with fail
                  go_meet
                  exact ⟨X, Y, rfl, rfl, FX.out.cells.1, FX.out.cells.2, FY.out.cells.1, FY.out.cells.2, hH6⟩
                exact AllReadyH.nil
              exact AllReadyH.nil
            exact AllReadyH.nil
          refine AllReadyH.cons (o := _) rfl (fun K hK => ?_) ?_
          · skip
            go_simp
            have hba := hH2.alloc hH2.size (.cells #[.string ⟨#[]⟩, .int .i64 0] 115)
            have FY := Lib.hid (Box2.new (T := 115) (v0 := .string ⟨#[]⟩) (v1 := .int .i64 0) V2)
            have hlY := hH2.size
            clear hH2
            refine hK.out _ _ ?_ (fun hH3 => ?_)
            · exact hba
            clear hK K
            clear hba
            generalize V2.heap.size = Y at *
            generalize V2.alloc (.cells #[.string ⟨#[]⟩, .int .i64 0] 115) = V3 at *
            clear V2
            try dsimp only
            try simp only [List.getElem_toArray, List.getElem_cons_succ, List.getElem_cons_zero]
            try simp only [Act.put]
            try simp only [List.setIfInBounds_toArray]
            try simp only [List.set_cons_zero, List.set_cons_succ]
            refine wpAnyH_ready (rs := [6]) (by kernel_rfl) (by simp) ?_
            refine AllReadyH.cons (o := _) rfl (fun K hK => ?_) ?_
            · skip
              go_simp
              have hba := hH3.alloc hH3.size (.cells #[.string ⟨#[]⟩, .int .i64 0] 115)
              have FX := Lib.hid (Box2.new (T := 115) (v0 := .string ⟨#[]⟩) (v1 := .int .i64 0) V3)
              have hlX := hH3.size
              have hne : ¬ Y = V3.heap.size := by have := FY.out.lt; omega
              replace FY := Lib.hid (FY.out.below ((Below.refl _ _).alloc (Nat.le_refl _) (.cells #[.string ⟨#[]⟩, .int .i64 0] 115)))
              clear hH3
              refine hK.out _ _ ?_ (fun hH4 => ?_)
              · exact hba
              clear hK K
              clear hba
              generalize V3.heap.size = X at *
              generalize V3.alloc (.cells #[.string ⟨#[]⟩, .int .i64 0] 115) = V4 at *
              clear V3
              try dsimp only
              try simp only [List.getElem_toArray, List.getElem_cons_succ, List.getElem_cons_zero]
              try simp only [Act.put]
              try simp only [List.setIfInBounds_toArray]
              try simp only [List.set_cons_zero, List.set_cons_succ]
              refine wpAnyH_ready (rs := [8]) (by kernel_rfl) (by simp) ?_
              refine AllReadyH.cons (o := _) rfl (fun K hK => ?_) ?_
              · skip
                obtain ⟨x0, x1⟩ := FX.out.cells
                obtain ⟨y0, y1⟩ := FX.out.free
                go_simp
                clear x0 x1 y0 y1
                have hba := (hH4.setCell (p := ⟨X, 0, none⟩) hlX (.string BP)).setCell (p := ⟨X, 1, none⟩) hlX (.int .i64 BA)
                replace FX := Lib.hid (box_put (v0 := .string BP) (v1 := .int .i64 BA) FX.out)
                replace FY := Lib.hid ((FY.out.other (C := X) (o := 0) (x := .string BP) (fun e => hne (by omega))).other (C := X) (o := 1) (x := .int .i64 BA) (fun e => hne (by omega)))
                clear hH4
                refine hK.out _ _ ?_ (fun hH5 => ?_)
                · exact hba
                clear hK K
                clear hba
                generalize (V4.setCell ⟨X, 0, none⟩ (.string BP)).setCell ⟨X, 1, none⟩ (.int .i64 BA) = V5 at *
                clear V4
                try dsimp only
                try simp only [List.getElem_toArray, List.getElem_cons_succ, List.getElem_cons_zero]
                try simp only [Act.put]
                try simp only [List.setIfInBounds_toArray]
                try simp only [List.set_cons_zero, List.set_cons_succ]
                refine wpAnyH_ready (rs := [9]) (by kernel_rfl) (by simp) ?_
                refine AllReadyH.cons (o := _) rfl (fun K hK => ?_) ?_
                · skip
                  obtain ⟨x0, x1⟩ := FY.out.cells
                  obtain ⟨y0, y1⟩ := FY.out.free
                  go_simp
                  clear x0 x1 y0 y1
                  have hba := (hH5.setCell (p := ⟨Y, 0, none⟩) hlY (.string FP)).setCell (p := ⟨Y, 1, none⟩) hlY (.int .i64 FT)
                  replace FY := Lib.hid (box_put (v0 := .string FP) (v1 := .int .i64 FT) FY.out)
                  replace FX := Lib.hid ((FX.out.other (C := Y) (o := 0) (x := .string FP) (fun e => hne (by omega))).other (C := Y) (o := 1) (x := .int .i64 FT) (fun e => hne (by omega)))
                  clear hH5
                  refine hK.out _ _ ?_ (fun hH6 => ?_)
                  · exact hba
                  clear hK K
                  clear hba
                  generalize (V5.setCell ⟨Y, 0, none⟩ (.string FP)).setCell ⟨Y, 1, none⟩ (.int .i64 FT) = V6 at *
                  clear V5
                  try dsimp only
                  try simp only [List.getElem_toArray, List.getElem_cons_succ, List.getElem_cons_zero]
                  try simp only [Act.put]
                  try simp only [List.setIfInBounds_toArray]
                  try simp only [List.set_cons_zero, List.set_cons_succ]
                  refine wpAnyH_done (by kernel_rfl) ?_ _
                  try dsimp only [Act.put, Oper.dst]
                  try dsimp only
                  try simp only [Act.put]
                  try simp only [List.setIfInBounds_toArray]
                  try simp only [List.set_cons_zero, List.set_cons_succ]
                  go_wp2_with fail
                  go_meet
                  exact ⟨X, Y, rfl, rfl, FX.out.cells.1, FX.out.cells.2, FY.out.cells.1, FY.out.cells.2, hH6⟩
                exact AllReadyH.nil
              exact AllReadyH.nil
            exact AllReadyH.nil
          exact AllReadyH.nil
        refine AllReadyH.cons (o := _) rfl (fun K hK => ?_) ?_
        · skip
          go_simp
          have hba := hH1.alloc hH1.size (.cells #[.string ⟨#[]⟩, .int .i64 0] 115)
          have FX := Lib.hid (Box2.new (T := 115) (v0 := .string ⟨#[]⟩) (v1 := .int .i64 0) V1)
          have hlX := hH1.size
          clear hH1
          refine hK.out _ _ ?_ (fun hH2 => ?_)
          · exact hba
          clear hK K
          clear hba
          generalize V1.heap.size = X at *
          generalize V1.alloc (.cells #[.string ⟨#[]⟩, .int .i64 0] 115) = V2 at *
          clear V1
          try dsimp only
          try simp only [List.getElem_toArray, List.getElem_cons_succ, List.getElem_cons_zero]
          try simp only [Act.put]
          try simp only [List.setIfInBounds_toArray]
          try simp only [List.set_cons_zero, List.set_cons_succ]
          refine wpAnyH_ready (rs := [5, 7]) (by kernel_rfl) (by simp) ?_
          refine AllReadyH.cons (o := _) rfl (fun K hK => ?_) ?_
          · skip
            go_simp
            go_at_call 116
            refine (HBF1.out V2 hH2).mono ?_; rintro e V3 ⟨rfl, hu⟩
            have hbu : Below W.heap.size W V3 := hH2.trans (hu.mono hH2.size)
            replace FX := Lib.hid (FX.out.below hu)
            clear hu hH2
            refine hK.out _ _ ?_ (fun hH3 => ?_)
            · exact hbu
            clear hK K
            clear hbu
            try dsimp only
            try simp only [List.getElem_toArray, List.getElem_cons_succ, List.getElem_cons_zero]
            try simp only [Act.put]
            try simp only [List.setIfInBounds_toArray]
            try simp only [List.set_cons_zero, List.set_cons_succ]
            refine wpAnyH_ready (rs := [7]) (by kernel_rfl) (by simp) ?_
            refine AllReadyH.cons (o := _) rfl (fun K hK => ?_) ?_
            · skip
              go_simp
              have hba := hH3.alloc hH3.size (.cells #[.string ⟨#[]⟩, .int .i64 0] 115)
              have FY := Lib.hid (Box2.new (T := 115) (v0 := .string ⟨#[]⟩) (v1 := .int .i64 0) V3)
              have hlY := hH3.size
              have hne : ¬ X = V3.heap.size := by have := FX.out.lt; omega
              replace FX := Lib.hid (FX.out.below ((Below.refl _ _).alloc (Nat.le_refl _) (.cells #[.string ⟨#[]⟩, .int .i64 0] 115)))
              clear hH3
              refine hK.out _ _ ?_ (fun hH4 => ?_)
              · exact hba
              clear hK K
              clear hba
              generalize V3.heap.size = Y at *
              generalize V3.alloc (.cells #[.string ⟨#[]⟩, .int .i64 0] 115) = V4 at *
              clear V3
              try dsimp only
              try simp only [List.getElem_toArray, List.getElem_cons_succ, List.getElem_cons_zero]
              try simp only [Act.put]
              try simp only [List.setIfInBounds_toArray]
              try simp only [List.set_cons_zero, List.set_cons_succ]
              refine wpAnyH_ready (rs := [8]) (by kernel_rfl) (by simp) ?_
              refine AllReadyH.cons (o := _) rfl (fun K hK => ?_) ?_
              · skip
                obtain ⟨x0, x1⟩ := FX.out.cells
                obtain ⟨y0, y1⟩ := FX.out.free
                go_simp
                clear x0 x1 y0 y1
                have hba := (hH4.setCell (p := ⟨X, 0, none⟩) hlX (.string BP)).setCell (p := ⟨X, 1, none⟩) hlX (.int .i64 BA)
                replace FX := Lib.hid (box_put (v0 := .string BP) (v1 := .int .i64 BA) FX.out)
                replace FY := Lib.hid ((FY.out.other (C := X) (o := 0) (x := .string BP) (fun e => hne (by omega))).other (C := X) (o := 1) (x := .int .i64 BA) (fun e => hne (by omega)))
                clear hH4
                refine hK.out _ _ ?_ (fun hH5 => ?_)
                · exact hba
                clear hK K
                clear hba
                generalize (V4.setCell ⟨X, 0, none⟩ (.string BP)).setCell ⟨X, 1, none⟩ (.int .i64 BA) = V5 at *
                clear V4
                try dsimp only
                try simp only [List.getElem_toArray, List.getElem_cons_succ, List.getElem_cons_zero]
                try simp only [Act.put]
                try simp only [List.setIfInBounds_toArray]
                try simp only [List.set_cons_zero, List.set_cons_succ]
                refine wpAnyH_ready (rs := [9]) (by kernel_rfl) (by simp) ?_
                refine AllReadyH.cons (o := _) rfl (fun K hK => ?_) ?_
                · skip
                  obtain ⟨x0, x1⟩ := FY.out.cells
                  obtain ⟨y0, y1⟩ := FY.out.free
                  go_simp
                  clear x0 x1 y0 y1
                  have hba := (hH5.setCell (p := ⟨Y, 0, none⟩) hlY (.string FP)).setCell (p := ⟨Y, 1, none⟩) hlY (.int .i64 FT)
                  replace FY := Lib.hid (box_put (v0 := .string FP) (v1 := .int .i64 FT) FY.out)
                  replace FX := Lib.hid ((FX.out.other (C := Y) (o := 0) (x := .string FP) (fun e => hne (by omega))).other (C := Y) (o := 1) (x := .int .i64 FT) (fun e => hne (by omega)))
                  clear hH5
                  refine hK.out _ _ ?_ (fun hH6 => ?_)
                  · exact hba
                  clear hK K
                  clear hba
                  generalize (V5.setCell ⟨Y, 0, none⟩ (.string FP)).setCell ⟨Y, 1, none⟩ (.int .i64 FT) = V6 at *
                  clear V5
                  try dsimp only
                  try simp only [List.getElem_toArray, List.getElem_cons_succ, List.getElem_cons_zero]
                  try simp only [Act.put]
                  try simp only [List.setIfInBounds_toArray]
                  try simp only [List.set_cons_zero, List.set_cons_succ]
                  refine wpAnyH_done (by kernel_rfl) ?_ _
                  try dsimp only [Act.put, Oper.dst]
                  try dsimp only
                  try simp only [Act.put]
                  try simp only [List.setIfInBounds_toArray]
                  try simp only [List.set_cons_zero, List.set_cons_succ]
                  go_wp2_with fail
                  go_meet
                  exact ⟨X, Y, rfl, rfl, FX.out.cells.1, FX.out.cells.2, FY.out.cells.1, FY.out.cells.2, hH6⟩
                exact AllReadyH.nil
              exact AllReadyH.nil
            exact AllReadyH.nil
          refine AllReadyH.cons (o := _) rfl (fun K hK => ?_) ?_
          · skip
            go_simp
            have hba := hH2.alloc hH2.size (.cells #[.string ⟨#[]⟩, .int .i64 0] 115)
            have FY := Lib.hid (Box2.new (T := 115) (v0 := .string ⟨#[]⟩) (v1 := .int .i64 0) V2)
            have hlY := hH2.size
            have hne : ¬ X = V2.heap.size := by have := FX.out.lt; omega
            replace FX := Lib.hid (FX.out.below ((Below.refl _ _).alloc (Nat.le_refl _) (.cells #[.string ⟨#[]⟩, .int .i64 0] 115)))
            clear hH2
            refine hK.out _ _ ?_ (fun hH3 => ?_)
            · exact hba
            clear hK K
            clear hba
            generalize V2.heap.size = Y at *
            generalize V2.alloc (.cells #[.string ⟨#[]⟩, .int .i64 0] 115) = V3 at *
            clear V2
            try dsimp only
            try simp only [List.getElem_toArray, List.getElem_cons_succ, List.getElem_cons_zero]
            try simp only [Act.put]
            try simp only [List.setIfInBounds_toArray]
            try simp only [List.set_cons_zero, List.set_cons_succ]
            refine wpAnyH_ready (rs := [5]) (by kernel_rfl) (by simp) ?_
            refine AllReadyH.cons (o := _) rfl (fun K hK => ?_) ?_
            · skip
              go_simp
              go_at_call 116
              refine (HBF1.out V3 hH3).mono ?_; rintro e V4 ⟨rfl, hu⟩
              have hbu : Below W.heap.size W V4 := hH3.trans (hu.mono hH3.size)
              replace FX := Lib.hid (FX.out.below hu)
              replace FY := Lib.hid (FY.out.below hu)
              clear hu hH3
              refine hK.out _ _ ?_ (fun hH4 => ?_)
              · exact hbu
              clear hK K
              clear hbu
              try dsimp only
              try simp only [List.getElem_toArray, List.getElem_cons_succ, List.getElem_cons_zero]
              try simp only [Act.put]
              try simp only [List.setIfInBounds_toArray]
              try simp only [List.set_cons_zero, List.set_cons_succ]
              refine wpAnyH_ready (rs := [8]) (by kernel_rfl) (by simp) ?_
              refine AllReadyH.cons (o := _) rfl (fun K hK => ?_) ?_
              · skip
                obtain ⟨x0, x1⟩ := FX.out.cells
                obtain ⟨y0, y1⟩ := FX.out.free
                go_simp
                clear x0 x1 y0 y1
                have hba := (hH4.setCell (p := ⟨X, 0, none⟩) hlX (.string BP)).setCell (p := ⟨X, 1, none⟩) hlX (.int .i64 BA)
                replace FX := Lib.hid (box_put (v0 := .string BP) (v1 := .int .i64 BA) FX.out)
                replace FY := Lib.hid ((FY.out.other (C := X) (o := 0) (x := .string BP) (fun e => hne (by omega))).other (C := X) (o := 1) (x := .int .i64 BA) (fun e => hne (by omega)))
                clear hH4
                refine hK.out _ _ ?_ (fun hH5 => ?_)
                · exact hba
                clear hK K
                clear hba
                generalize (V4.setCell ⟨X, 0, none⟩ (.string BP)).setCell ⟨X, 1, none⟩ (.int .i64 BA) = V5 at *
                clear V4
                try dsimp only
                try simp only [List.getElem_toArray, List.getElem_cons_succ, List.getElem_cons_zero]
                try simp only [Act.put]
                try simp only [List.setIfInBounds_toArray]
                try simp only [List.set_cons_zero, List.set_cons_succ]
                refine wpAnyH_ready (rs := [9]) (by kernel_rfl) (by simp) ?_
                refine AllReadyH.cons (o := _) rfl (fun K hK => ?_) ?_
                · skip
                  obtain ⟨x0, x1⟩ := FY.out.cells
                  obtain ⟨y0, y1⟩ := FY.out.free
                  go_simp
                  clear x0 x1 y0 y1
                  have hba := (hH5.setCell (p := ⟨Y, 0, none⟩) hlY (.string FP)).setCell (p := ⟨Y, 1, none⟩) hlY (.int .i64 FT)
                  replace FY := Lib.hid (box_put (v0 := .string FP) (v1 := .int .i64 FT) FY.out)
                  replace FX := Lib.hid ((FX.out.other (C := Y) (o := 0) (x := .string FP) (fun e => hne (by omega))).other (C := Y) (o := 1) (x := .int .i64 FT) (fun e => hne (by omega)))
                  clear hH5
                  refine hK.out _ _ ?_ (fun hH6 => ?_)
                  · exact hba
                  clear hK K
                  clear hba
                  generalize (V5.setCell ⟨Y, 0, none⟩ (.string FP)).setCell ⟨Y, 1, none⟩ (.int .i64 FT) = V6 at *
                  clear V5
                  try dsimp only
                  try simp only [List.getElem_toArray, List.getElem_cons_succ, List.getElem_cons_zero]
                  try simp only [Act.put]
                  try simp only [List.setIfInBounds_toArray]
                  try simp only [List.set_cons_zero, List.set_cons_succ]
                  refine wpAnyH_done (by kernel_rfl) ?_ _
                  try dsimp only [Act.put, Oper.dst]
                  try dsimp only
                  try simp only [Act.put]
                  try simp only [List.setIfInBounds_toArray]
                  try simp only [List.set_cons_zero, List.set_cons_succ]
                  go_wp2_with fail
                  go_meet
                  exact ⟨X, Y, rfl, rfl, FX.out.cells.1, FX.out.cells.2, FY.out.cells.1, FY.out.cells.2, hH6⟩
                exact AllReadyH.nil
              exact AllReadyH.nil
            exact AllReadyH.nil
          exact AllReadyH.nil
        refine AllReadyH.cons (o := _) rfl (fun K hK => ?_) ?_
        · skip
          go_simp
          have hba := hH1.alloc hH1.size (.cells #[.string ⟨#[]⟩, .int .i64 0] 115)
          have FY := Lib.hid (Box2.new (T := 115) (v0 := .string ⟨#[]⟩) (v1 := .int .i64 0) V1)
          have hlY := hH1.size
          clear hH1
          refine hK.out _ _ ?_ (fun hH2 => ?_)
          · exact hba
          clear hK K
          clear hba
          generalize V1.heap.size = Y at *
          generalize V1.alloc (.cells #[.string ⟨#[]⟩, .int .i64 0] 115) = V2 at *
          clear V1
          try dsimp only
          try simp only [List.getElem_toArray, List.getElem_cons_succ, List.getElem_cons_zero]
          try simp only [Act.put]
          try simp only [List.setIfInBounds_toArray]
          try simp only [List.set_cons_zero, List.set_cons_succ]
          refine wpAnyH_ready (rs := [5, 6]) (by kernel_rfl) (by simp) ?_
          refine AllReadyH.cons (o := _) rfl (fun K hK => ?_) ?_
          · skip
            go_simp
            go_at_call 116
            refine (HBF1.out V2 hH2).mono ?_; rintro e V3 ⟨rfl, hu⟩
            have hbu : Below W.heap.size W V3 := hH2.trans (hu.mono hH2.size)
            replace FY := Lib.hid (FY.out.below hu)
            clear hu hH2
            refine hK.out _ _ ?_ (fun hH3 => ?_)
            · exact hbu
            clear hK K
            clear hbu
            try dsimp only
            try simp only [List.getElem_toArray, List.getElem_cons_succ, List.getElem_cons_zero]
            try simp only [Act.put]
            try simp only [List.setIfInBounds_toArray]
            try simp only [List.set_cons_zero, List.set_cons_succ]
            refine wpAnyH_ready (rs := [6]) (by kernel_rfl) (by simp) ?_
            refine AllReadyH.cons (o := _) rfl (fun K hK => ?_) ?_
            · skip
              go_simp
              have hba := hH3.alloc hH3.size (.cells #[.string ⟨#[]⟩, .int .i64 0] 115)
              have FX := Lib.hid (Box2.new (T := 115) (v0 := .string ⟨#[]⟩) (v1 := .int .i64 0) V3)
              have hlX := hH3.size
              have hne : ¬ Y = V3.heap.size := by have := FY.out.lt; omega
              replace FY := Lib.hid (FY.out.below ((Below.refl _ _).alloc (Nat.le_refl _) (.cells #[.string ⟨#[]⟩, .int .i64 0] 115)))
              clear hH3
              refine hK.out _ _ ?_ (fun hH4 => ?_)
              · exact hba
              clear hK K
              clear hba
              generalize V3.heap.size = X at *
              generalize V3.alloc (.cells #[.string ⟨#[]⟩, .int .i64 0] 115) = V4 at *
              clear V3
              try dsimp only
              try simp only [List.getElem_toArray, List.getElem_cons_succ, List.getElem_cons_zero]
              try simp only [Act.put]
              try simp only [List.setIfInBounds_toArray]
              try simp only [List.set_cons_zero, List.set_cons_succ]
              refine wpAnyH_ready (rs := [8]) (by kernel_rfl) (by simp) ?_
              refine AllReadyH.cons (o := _) rfl (fun K hK => ?_) ?_
              · skip
                obtain ⟨x0, x1⟩ := FX.out.cells
                obtain ⟨y0, y1⟩ := FX.out.free
                go_simp
                clear x0 x1 y0 y1
                have hba := (hH4.setCell (p := ⟨X, 0, none⟩) hlX (.string BP)).setCell (p := ⟨X, 1, none⟩) hlX (.int .i64 BA)
                replace FX := Lib.hid (box_put (v0 := .string BP) (v1 := .int .i64 BA) FX.out)
                replace FY := Lib.hid ((FY.out.other (C := X) (o := 0) (x := .string BP) (fun e => hne (by omega))).other (C := X) (o := 1) (x := .int .i64 BA) (fun e => hne (by omega)))
                clear hH4
                refine hK.out _ _ ?_ (fun hH5 => ?_)
                · exact hba
                clear hK K
                clear hba
                generalize (V4.setCell ⟨X, 0, none⟩ (.string BP)).setCell ⟨X, 1, none⟩ (.int .i64 BA) = V5 at *
                clear V4
                try dsimp only
                try simp only [List.getElem_toArray, List.getElem_cons_succ, List.getElem_cons_zero]
                try simp only [Act.put]
                try simp only [List.setIfInBounds_toArray]
                try simp only [List.set_cons_zero, List.set_cons_succ]
                refine wpAnyH_ready (rs := [9]) (by kernel_rfl) (by simp) ?_
                refine AllReadyH.cons (o := _) rfl (fun K hK => ?_) ?_
                · skip
                  obtain ⟨x0, x1⟩ := FY.out.cells
                  obtain ⟨y0, y1⟩ := FY.out.free
                  go_simp
                  clear x0 x1 y0 y1
                  have hba := (hH5.setCell (p := ⟨Y, 0, none⟩) hlY (.string FP)).setCell (p := ⟨Y, 1, none⟩) hlY (.int .i64 FT)
                  replace FY := Lib.hid (box_put (v0 := .string FP) (v1 := .int .i64 FT) FY.out)
                  replace FX := Lib.hid ((FX.out.other (C := Y) (o := 0) (x := .string FP) (fun e => hne (by omega))).other (C := Y) (o := 1) (x := .int .i64 FT) (fun e => hne (by omega)))
                  clear hH5
                  refine hK.out _ _ ?_ (fun hH6 => ?_)
                  · exact hba
                  clear hK K
                  clear hba
                  generalize (V5.setCell ⟨Y, 0, none⟩ (.string FP)).setCell ⟨Y, 1, none⟩ (.int .i64 FT) = V6 at *
                  clear V5
                  try dsimp only
                  try simp only [List.getElem_toArray, List.getElem_cons_succ, List.getElem_cons_zero]
                  try simp only [Act.put]
                  try simp only [List.setIfInBounds_toArray]
                  try simp only [List.set_cons_zero, List.set_cons_succ]
                  refine wpAnyH_done (by kernel_rfl) ?_ _
                  try dsimp only [Act.put, Oper.dst]
                  try dsimp only
                  try simp only [Act.put]
                  try simp only [List.setIfInBounds_toArray]
                  try simp only [List.set_cons_zero, List.set_cons_succ]
                  go_wp2_with fail
                  go_meet
                  exact ⟨X, Y, rfl, rfl, FX.out.cells.1, FX.out.cells.2, FY.out.cells.1, FY.out.cells.2, hH6⟩
                exact AllReadyH.nil
              exact AllReadyH.nil
            exact AllReadyH.nil
          refine AllReadyH.cons (o := _) rfl (fun K hK => ?_) ?_
          · skip
            go_simp
            have hba := hH2.alloc hH2.size (.cells #[.string ⟨#[]⟩, .int .i64 0] 115)
            have FX := Lib.hid (Box2.new (T := 115) (v0 := .string ⟨#[]⟩) (v1 := .int .i64 0) V2)
            have hlX := hH2.size
            have hne : ¬ Y = V2.heap.size := by have := FY.out.lt; omega
            replace FY := Lib.hid (FY.out.below ((Below.refl _ _).alloc (Nat.le_refl _) (.cells #[.string ⟨#[]⟩, .int .i64 0] 115)))
            clear hH2
            refine hK.out _ _ ?_ (fun hH3 => ?_)
            · exact hba
            clear hK K
            clear hba
            generalize V2.heap.size = X at *
            generalize V2.alloc (.cells #[.string ⟨#[]⟩, .int .i64 0] 115) = V3 at *
            clear V2
            try dsimp only
            try simp only [List.getElem_toArray, List.getElem_cons_succ, List.getElem_cons_zero]
            try simp only [Act.put]
            try simp only [List.setIfInBounds_toArray]
            try simp only [List.set_cons_zero, List.set_cons_succ]
            refine wpAnyH_ready (rs := [5]) (by kernel_rfl) (by simp) ?_
            refine AllReadyH.cons (o := _) rfl (fun K hK => ?_) ?_
            · skip
              go_simp
              go_at_call 116
              refine (HBF1.out V3 hH3).mono ?_; rintro e V4 ⟨rfl, hu⟩
              have hbu : Below W.heap.size W V4 := hH3.trans (hu.mono hH3.size)
              replace FX := Lib.hid (FX.out.below hu)
              replace FY := Lib.hid (FY.out.below hu)
              clear hu hH3
              refine hK.out _ _ ?_ (fun hH4 => ?_)
              · exact hbu
              clear hK K
              clear hbu
              try dsimp only
              try simp only [List.getElem_toArray, List.getElem_cons_succ, List.getElem_cons_zero]
              try simp only [Act.put]
              try simp only [List.setIfInBounds_toArray]
              try simp only [List.set_cons_zero, List.set_cons_succ]
              refine wpAnyH_ready (rs := [8]) (by kernel_rfl) (by simp) ?_
              refine AllReadyH.cons (o := _) rfl (fun K hK => ?_) ?_
              · skip
                obtain ⟨x0, x1⟩ := FX.out.cells
                obtain ⟨y0, y1⟩ := FX.out.free
                go_simp
                clear x0 x1 y0 y1
                have hba := (hH4.setCell (p := ⟨X, 0, none⟩) hlX (.string BP)).setCell (p := ⟨X, 1, none⟩) hlX (.int .i64 BA)
                replace FX := Lib.hid (box_put (v0 := .string BP) (v1 := .int .i64 BA) FX.out)
                replace FY := Lib.hid ((FY.out.other (C := X) (o := 0) (x := .string BP) (fun e => hne (by omega))).other (C := X) (o := 1) (x := .int .i64 BA) (fun e => hne (by omega)))
                clear hH4
                refine hK.out _ _ ?_ (fun hH5 => ?_)
                · exact hba
                clear hK K
                clear hba
                generalize (V4.setCell ⟨X, 0, none⟩ (.string BP)).setCell ⟨X, 1, none⟩ (.int .i64 BA) = V5 at *
                clear V4
                try dsimp only
                try simp only [List.getElem_toArray, List.getElem_cons_succ, List.getElem_cons_zero]
                try simp only [Act.put]
                try simp only [List.setIfInBounds_toArray]
                try simp only [List.set_cons_zero, List.set_cons_succ]
                refine wpAnyH_ready (rs := [9]) (by kernel_rfl) (by simp) ?_
                refine AllReadyH.cons (o := _) rfl (fun K hK => ?_) ?_
                · skip
                  obtain ⟨x0, x1⟩ := FY.out.cells
                  obtain ⟨y0, y1⟩ := FY.out.free
                  go_simp
                  clear x0 x1 y0 y1
                  have hba := (hH5.setCell (p := ⟨Y, 0, none⟩) hlY (.string FP)).setCell (p := ⟨Y, 1, none⟩) hlY (.int .i64 FT)
                  replace FY := Lib.hid (box_put (v0 := .string FP) (v1 := .int .i64 FT) FY.out)
                  replace FX := Lib.hid ((FX.out.other (C := Y) (o := 0) (x := .string FP) (fun e => hne (by omega))).other (C := Y) (o := 1) (x := .int .i64 FT) (fun e => hne (by omega)))
                  clear hH5
                  refine hK.out _ _ ?_ (fun hH6 => ?_)
                  · exact hba
                  clear hK K
                  clear hba
                  generalize (V5.setCell ⟨Y, 0, none⟩ (.string FP)).setCell ⟨Y, 1, none⟩ (.int .i64 FT) = V6 at *
                  clear V5
                  try dsimp only
                  try simp only [List.getElem_toArray, List.getElem_cons_succ, List.getElem_cons_zero]
                  try simp only [Act.put]
                  try simp only [List.setIfInBounds_toArray]
                  try simp only [List.set_cons_zero, List.set_cons_succ]
                  refine wpAnyH_done (by kernel_rfl) ?_ _
                  try dsimp only [Act.put, Oper.dst]
                  try dsimp only
                  try simp only [Act.put]
                  try simp only [List.setIfInBounds_toArray]
                  try simp only [List.set_cons_zero, List.set_cons_succ]
                  go_wp2_with fail
                  go_meet
                  exact ⟨X, Y, rfl, rfl, FX.out.cells.1, FX.out.cells.2, FY.out.cells.1, FY.out.cells.2, hH6⟩
                exact AllReadyH.nil
              exact AllReadyH.nil
            exact AllReadyH.nil
          exact AllReadyH.nil
        exact AllReadyH.nil
      refine AllReadyH.cons (o := _) rfl (fun K hK => ?_) ?_
      · skip
        go_simp
        have hba := hHeld.alloc hHeld.size (.cells #[.string ⟨#[]⟩, .int .i64 0] 115)
        have FX := Lib.hid (Box2.new (T := 115) (v0 := .string ⟨#[]⟩) (v1 := .int .i64 0) V)
        have hlX := hHeld.size
        clear hHeld
        refine hK.out _ _ ?_ (fun hH1 => ?_)
        · exact hba
        clear hK K
        clear hba
        generalize V.heap.size = X at *
        generalize V.alloc (.cells #[.string ⟨#[]⟩, .int .i64 0] 115) = V1 at *
        clear V
        try dsimp only
        try simp only [List.getElem_toArray, List.getElem_cons_succ, List.getElem_cons_zero]
        try simp only [Act.put]
        try simp only [List.setIfInBounds_toArray]
        try simp only [List.set_cons_zero, List.set_cons_succ]
        refine wpAnyH_ready (rs := [2, 7]) (by kernel_rfl) (by simp) ?_
        refine AllReadyH.cons (o := _) rfl (fun K hK => ?_) ?_
        · skip
          go_simp
          go_at_call 115
          refine (HBH1.out V1 hH1).mono ?_; rintro e V2 ⟨rfl, hu⟩
          have hbu : Below W.heap.size W V2 := hH1.trans (hu.mono hH1.size)
          replace FX := Lib.hid (FX.out.below hu)
          clear hu hH1
          refine hK.out _ _ ?_ (fun hH2 => ?_)
          · exact hbu
          clear hK K
          clear hbu
          try dsimp only
          try simp only [List.getElem_toArray, List.getElem_cons_succ, List.getElem_cons_zero]
          try simp only [Act.put]
          try simp only [List.setIfInBounds_toArray]
          try simp only [List.set_cons_zero, List.set_cons_succ]
          refine wpAnyH_ready (rs := [5, 7]) (by kernel_rfl) (by simp) ?_
          refine AllReadyH.cons (o := _) rfl (fun K hK => ?_) ?_
          · skip
            go_simp
            go_at_call 116
            refine (HBF1.out V2 hH2).mono ?_; rintro e V3 ⟨rfl, hu⟩
            have hbu : Below W.heap.size W V3 := hH2.trans (hu.mono hH2.size)
            replace FX := Lib.hid (FX.out.below hu)
            clear hu hH2
            refine hK.out _ _ ?_ (fun hH3 => ?_)
            · exact hbu
            clear hK K
            clear hbu
            try dsimp only
            try simp only [List.getElem_toArray, List.getElem_cons_succ, List.getElem_cons_zero]
            try simp only [Act.put]
            try simp only [List.setIfInBounds_toArray]
            try simp only [List.set_cons_zero, List.set_cons_succ]
            refine wpAnyH_ready (rs := [7]) (by kernel_rfl) (by simp) ?_
            refine AllReadyH.cons (o := _) rfl (fun K hK => ?_) ?_
            · skip
              go_simp
              have hba := hH3.alloc hH3.size (.cells #[.string ⟨#[]⟩, .int .i64 0] 115)
              have FY := Lib.hid (Box2.new (T := 115) (v0 := .string ⟨#[]⟩) (v1 := .int .i64 0) V3)
              have hlY := hH3.size
              have hne : ¬ X = V3.heap.size := by have := FX.out.lt; omega
              replace FX := Lib.hid (FX.out.below ((Below.refl _ _).alloc (Nat.le_refl _) (.cells #[.string ⟨#[]⟩, .int .i64 0] 115)))
              clear hH3
              refine hK.out _ _ ?_ (fun hH4 => ?_)
              · exact hba
              clear hK K
              clear hba
              generalize V3.heap.size = Y at *
              generalize V3.alloc (.cells #[.string ⟨#[]⟩, .int .i64 0] 115) = V4 at *
              clear V3
              try dsimp only
              try simp only [List.getElem_toArray, List.getElem_cons_succ, List.getElem_cons_zero]
              try simp only [Act.put]
              try simp only [List.setIfInBounds_toArray]
              try simp only [List.set_cons_zero, List.set_cons_succ]
              refine wpAnyH_ready (rs := [8]) (by kernel_rfl) (by simp) ?_
              refine AllReadyH.cons (o := _) rfl (fun K hK => ?_) ?_
              · skip
                obtain ⟨x0, x1⟩ := FX.out.cells
                obtain ⟨y0, y1⟩ := FX.out.free
                go_simp
                clear x0 x1 y0 y1
                have hba := (hH4.setCell (p := ⟨X, 0, none⟩) hlX (.string BP)).setCell (p := ⟨X, 1, none⟩) hlX (.int .i64 BA)
                replace FX := Lib.hid (box_put (v0 := .string BP) (v1 := .int .i64 BA) FX.out)
                replace FY := Lib.hid ((FY.out.other (C := X) (o := 0) (x := .string BP) (fun e => hne (by omega))).other (C := X) (o := 1) (x := .int .i64 BA) (fun e => hne (by omega)))
                clear hH4
                refine hK.out _ _ ?_ (fun hH5 => ?_)
                · exact hba
                clear hK K
                clear hba
                generalize (V4.setCell ⟨X, 0, none⟩ (.string BP)).setCell ⟨X, 1, none⟩ (.int .i64 BA) = V5 at *
                clear V4
                try dsimp only
                try simp only [List.getElem_toArray, List.getElem_cons_succ, List.getElem_cons_zero]
                try simp only [Act.put]
                try simp only [List.setIfInBounds_toArray]
                try simp only [List.set_cons_zero, List.set_cons_succ]
                refine wpAnyH_ready (rs := [9]) (by kernel_rfl) (by simp) ?_
                refine AllReadyH.cons (o := _) rfl (fun K hK => ?_) ?_
                · skip
                  obtain ⟨x0, x1⟩ := FY.out.cells
                  obtain ⟨y0, y1⟩ := FY.out.free
                  go_simp
                  clear x0 x1 y0 y1
                  have hba := (hH5.setCell (p := ⟨Y, 0, none⟩) hlY (.string FP)).setCell (p := ⟨Y, 1, none⟩) hlY (.int .i64 FT)
                  replace FY := Lib.hid (box_put (v0 := .string FP) (v1 := .int .i64 FT) FY.out)
                  replace FX := Lib.hid ((FX.out.other (C := Y) (o := 0) (x := .string FP) (fun e => hne (by omega))).other (C := Y) (o := 1) (x := .int .i64 FT) (fun e => hne (by omega)))
                  clear hH5
                  refine hK.out _ _ ?_ (fun hH6 => ?_)
                  · exact hba
                  clear hK K
                  clear hba
                  generalize (V5.setCell ⟨Y, 0, none⟩ (.string FP)).setCell ⟨Y, 1, none⟩ (.int .i64 FT) = V6 at *
                  clear V5
                  try dsimp only
                  try simp only [List.getElem_toArray, List.getElem_cons_succ, List.getElem_cons_zero]
                  try simp only [Act.put]
                  try simp only [List.setIfInBounds_toArray]
                  try simp only [List.set_cons_zero, List.set_cons_succ]
                  refine wpAnyH_done (by kernel_rfl) ?_ _
                  try dsimp only [Act.put, Oper.dst]
                  try dsimp only
                  try simp only [Act.put]
                  try simp only [List.setIfInBounds_toArray]
                  try simp only [List.set_cons_zero, List.set_cons_succ]
                  go_wp2_with fail
                  go_meet
                  exact ⟨X, Y, rfl, rfl, FX.out.cells.1, FX.out.cells.2, FY.out.cells.1, FY.out.cells.2, hH6⟩
                exact AllReadyH.nil
              exact AllReadyH.nil
            exact AllReadyH.nil
          refine AllReadyH.cons (o := _) rfl (fun K hK => ?_) ?_
          · skip
            go_simp
            have hba := hH2.alloc hH2.size (.cells #[.string ⟨#[]⟩, .int .i64 0] 115)
            have FY := Lib.hid (Box2.new (T := 115) (v0 := .string ⟨#[]⟩) (v1 := .int .i64 0) V2)
            have hlY := hH2.size
            have hne : ¬ X = V2.heap.size := by have := FX.out.lt; omega
            replace FX := Lib.hid (FX.out.below ((Below.refl _ _).alloc (Nat.le_refl _) (.cells #[.string ⟨#[]⟩, .int .i64 0] 115)))
            clear hH2
            refine hK.out _ _ ?_ (fun hH3 => ?_)
            · exact hba
            clear hK K
            clear hba
            generalize V2.heap.size = Y at *
            generalize V2.alloc (.cells #[.string ⟨#[]⟩, .int .i64 0] 115) = V3 at *
            clear V2
            try dsimp only
            try simp only [List.getElem_toArray, List.getElem_cons_succ, List.getElem_cons_zero]
            try simp only [Act.put]
            try simp only [List.setIfInBounds_toArray]
            try simp only [List.set_cons_zero, List.set_cons_succ]
            refine wpAnyH_ready (rs := [5]) (by kernel_rfl) (by simp) ?_
            refine AllReadyH.cons (o := _) rfl (fun K hK => ?_) ?_
            · skip
              go_simp
              go_at_call 116
              refine (HBF1.out V3 hH3).mono ?_; rintro e V4 ⟨rfl, hu⟩
              have hbu : Below W.heap.size W V4 := hH3.trans (hu.mono hH3.size)
              replace FX := Lib.hid (FX.out.below hu)
              replace FY := Lib.hid (FY.out.below hu)
              clear hu hH3
              refine hK.out _ _ ?_ (fun hH4 => ?_)
              · exact hbu
              clear hK K
              clear hbu
              try dsimp only
              try simp only [List.getElem_toArray, List.getElem_cons_succ, List.getElem_cons_zero]
              try simp only [Act.put]
              try simp only [List.setIfInBounds_toArray]
              try simp only [List.set_cons_zero, List.set_cons_succ]
              refine wpAnyH_ready (rs := [8]) (by kernel_rfl) (by simp) ?_
              refine AllReadyH.cons (o := _) rfl (fun K hK => ?_) ?_
              · skip
                obtain ⟨x0, x1⟩ := FX.out.cells
                obtain ⟨y0, y1⟩ := FX.out.free
                go_simp
                clear x0 x1 y0 y1
                have hba := (hH4.setCell (p := ⟨X, 0, none⟩) hlX (.string BP)).setCell (p := ⟨X, 1, none⟩) hlX (.int .i64 BA)
                replace FX := Lib.hid (box_put (v0 := .string BP) (v1 := .int .i64 BA) FX.out)
                replace FY := Lib.hid ((FY.out.other (C := X) (o := 0) (x := .string BP) (fun e => hne (by omega))).other (C := X) (o := 1) (x := .int .i64 BA) (fun e => hne (by omega)))
                clear hH4
                refine hK.out _ _ ?_ (fun hH5 => ?_)
                · exact hba
                clear hK K
                clear hba
                generalize (V4.setCell ⟨X, 0, none⟩ (.string BP)).setCell ⟨X, 1, none⟩ (.int .i64 BA) = V5 at *
                clear V4
                try dsimp only
                try simp only [List.getElem_toArray, List.getElem_cons_succ, List.getElem_cons_zero]
                try simp only [Act.put]
                try simp only [List.setIfInBounds_toArray]
                try simp only [List.set_cons_zero, List.set_cons_succ]
                refine wpAnyH_ready (rs := [9]) (by kernel_rfl) (by simp) ?_
                refine AllReadyH.cons (o := _) rfl (fun K hK => ?_) ?_
                · skip
                  obtain ⟨x0, x1⟩ := FY.out.cells
                  obtain ⟨y0, y1⟩ := FY.out.free
                  go_simp
                  clear x0 x1 y0 y1
                  have hba := (hH5.setCell (p := ⟨Y, 0, none⟩) hlY (.string FP)).setCell (p := ⟨Y, 1, none⟩) hlY (.int .i64 FT)
                  replace FY := Lib.hid (box_put (v0 := .string FP) (v1 := .int .i64 FT) FY.out)
                  replace FX := Lib.hid ((FX.out.other (C := Y) (o := 0) (x := .string FP) (fun e => hne (by omega))).other (C := Y) (o := 1) (x := .int .i64 FT) (fun e => hne (by omega)))
                  clear hH5
                  refine hK.out _ _ ?_ (fun hH6 => ?_)
                  · exact hba
                  clear hK K
                  clear hba
                  generalize (V5.setCell ⟨Y, 0, none⟩ (.string FP)).setCell ⟨Y, 1, none⟩ (.int .i64 FT) = V6 at *
                  clear V5
                  try dsimp only
                  try simp only [List.getElem_toArray, List.getElem_cons_succ, List.getElem_cons_zero]
                  try simp only [Act.put]
                  try simp only [List.setIfInBounds_toArray]
                  try simp only [List.set_cons_zero, List.set_cons_succ]
                  refine wpAnyH_done (by kernel_rfl) ?_ _
                  try dsimp only [Act.put, Oper.dst]
                  try dsimp only
                  try simp only [Act.put]
                  try simp only [List.setIfInBounds_toArray]
                  try simp only [List.set_cons_zero, List.set_cons_succ]
                  go_wp2_with fail
                  go_meet
                  exact ⟨X, Y, rfl, rfl, FX.out.cells.1, FX.out.cells.2, FY.out.cells.1, FY.out.cells.2, hH6⟩
                exact AllReadyH.nil
              exact AllReadyH.nil
            exact AllReadyH.nil
          exact AllReadyH.nil
        refine AllReadyH.cons (o := _) rfl (fun K hK => ?_) ?_
        · skip
          go_simp
          have hba := hH1.alloc hH1.size (.cells #[.string ⟨#[]⟩, .int .i64 0] 115)
          have FY := Lib.hid (Box2.new (T := 115) (v0 := .string ⟨#[]⟩) (v1 := .int .i64 0) V1)
          have hlY := hH1.size
          have hne : ¬ X = V1.heap.size := by have := FX.out.lt; omega
          replace FX := Lib.hid (FX.out.below ((Below.refl _ _).alloc (Nat.le_refl _) (.cells #[.string ⟨#[]⟩, .int .i64 0] 115)))
          clear hH1
          refine hK.out _ _ ?_ (fun hH2 => ?_)
          · exact hba
          clear hK K
          clear hba
          generalize V1.heap.size = Y at *
          generalize V1.alloc (.cells #[.string ⟨#[]⟩, .int .i64 0] 115) = V2 at *
          clear V1
          try dsimp only
          try simp only [List.getElem_toArray, List.getElem_cons_succ, List.getElem_cons_zero]
          try simp only [Act.put]
          try simp only [List.setIfInBounds_toArray]
          try simp only [List.set_cons_zero, List.set_cons_succ]
          refine wpAnyH_ready (rs := [2]) (by kernel_rfl) (by simp) ?_
          refine AllReadyH.cons (o := _) rfl (fun K hK => ?_) ?_
          · skip
            go_simp
            go_at_call 115
            refine (HBH1.out V2 hH2).mono ?_; rintro e V3 ⟨rfl, hu⟩
            have hbu : Below W.heap.size W V3 := hH2.trans (hu.mono hH2.size)
            replace FX := Lib.hid (FX.out.below hu)
            replace FY := Lib.hid (FY.out.below hu)
            clear hu hH2
            refine hK.out _ _ ?_ (fun hH3 => ?_)
            · exact hbu
            clear hK K
            clear hbu
            try dsimp only
            try simp only [List.getElem_toArray, List.getElem_cons_succ, List.getElem_cons_zero]
            try simp only [Act.put]
            try simp only [List.setIfInBounds_toArray]
            try simp only [List.set_cons_zero, List.set_cons_succ]
            refine wpAnyH_ready (rs := [5]) (by kernel_rfl) (by simp) ?_
            refine AllReadyH.cons (o := _) rfl (fun K hK => ?_) ?_
            · skip
              go_simp
              go_at_call 116
              refine (HBF1.out V3 hH3).mono ?_; rintro e V4 ⟨rfl, hu⟩
              have hbu : Below W.heap.size W V4 := hH3.trans (hu.mono hH3.size)
              replace FX := Lib.hid (FX.out.below hu)
              replace FY := Lib.hid (FY.out.below hu)
              clear hu hH3
              refine hK.out _ _ ?_ (fun hH4 => ?_)
              · exact hbu
              clear hK K
              clear hbu
              try dsimp only
              try simp only [List.getElem_toArray, List.getElem_cons_succ, List.getElem_cons_zero]
              try simp only [Act.put]
              try simp only [List.setIfInBounds_toArray]
              try simp only [List.set_cons_zero, List.set_cons_succ]
              refine wpAnyH_ready (rs := [8]) (by kernel_rfl) (by simp) ?_
              refine AllReadyH.cons (o := _) rfl (fun K hK => ?_) ?_
              · skip
                obtain ⟨x0, x1⟩ := FX.out.cells
                obtain ⟨y0, y1⟩ := FX.out.free
                go_simp
                clear x0 x1 y0 y1
                have hba := (hH4.setCell (p := ⟨X, 0, none⟩) hlX (.string BP)).setCell (p := ⟨X, 1, none⟩) hlX (.int .i64 BA)
                replace FX := Lib.hid (box_put (v0 := .string BP) (v1 := .int .i64 BA) FX.out)
                replace FY := Lib.hid ((FY.out.other (C := X) (o := 0) (x := .string BP) (fun e => hne (by omega))).other (C := X) (o := 1) (x := .int .i64 BA) (fun e => hne (by omega)))
                clear hH4
                refine hK.out _ _ ?_ (fun hH5 => ?_)
                · exact hba
                clear hK K
                clear hba
                generalize (V4.setCell ⟨X, 0, none⟩ (.string BP)).setCell ⟨X, 1, none⟩ (.int .i64 BA) = V5 at *
                clear V4
                try dsimp only
                try simp only [List.getElem_toArray, List.getElem_cons_succ, List.getElem_cons_zero]
                try simp only [Act.put]
                try simp only [List.setIfInBounds_toArray]
                try simp only [List.set_cons_zero, List.set_cons_succ]
                refine wpAnyH_ready (rs := [9]) (by kernel_rfl) (by simp) ?_
                refine AllReadyH.cons (o := _) rfl (fun K hK => ?_) ?_
                · skip
                  obtain ⟨x0, x1⟩ := FY.out.cells
                  obtain ⟨y0, y1⟩ := FY.out.free
                  go_simp
                  clear x0 x1 y0 y1
                  have hba := (hH5.setCell (p := ⟨Y, 0, none⟩) hlY (.string FP)).setCell (p := ⟨Y, 1, none⟩) hlY (.int .i64 FT)
                  replace FY := Lib.hid (box_put (v0 := .string FP) (v1 := .int .i64 FT) FY.out)
                  replace FX := Lib.hid ((FX.out.other (C := Y) (o := 0) (x := .string FP) (fun e => hne (by omega))).other (C := Y) (o := 1) (x := .int .i64 FT) (fun e => hne (by omega)))
                  clear hH5
                  refine hK.out _ _ ?_ (fun hH6 => ?_)
                  · exact hba
                  clear hK K
                  clear hba
                  generalize (V5.setCell ⟨Y, 0, none⟩ (.string FP)).setCell ⟨Y, 1, none⟩ (.int .i64 FT) = V6 at *
                  clear V5
                  try dsimp only
                  try simp only [List.getElem_toArray, List.getElem_cons_succ, List.getElem_cons_zero]
                  try simp only [Act.put]
                  try simp only [List.setIfInBounds_toArray]
                  try simp only [List.set_cons_zero, List.set_cons_succ]
                  refine wpAnyH_done (by kernel_rfl) ?_ _
                  try dsimp only [Act.put, Oper.dst]
                  try dsimp only
                  try simp only [Act.put]
                  try simp only [List.setIfInBounds_toArray]
                  try simp only [List.set_cons_zero, List.set_cons_succ]
                  go_wp2_with fail
                  go_meet
                  exact ⟨X, Y, rfl, rfl, FX.out.cells.1, FX.out.cells.2, FY.out.cells.1, FY.out.cells.2, hH6⟩
                exact AllReadyH.nil
              exact AllReadyH.nil
            exact AllReadyH.nil
          exact AllReadyH.nil
        exact AllReadyH.nil
      refine AllReadyH.cons (o := _) rfl (fun K hK => ?_) ?_
      · skip
        go_simp
        have hba := hHeld.alloc hHeld.size (.cells #[.string ⟨#[]⟩, .int .i64 0] 115)
        have FY := Lib.hid (Box2.new (T := 115) (v0 := .string ⟨#[]⟩) (v1 := .int .i64 0) V)
        have hlY := hHeld.size
        clear hHeld
        refine hK.out _ _ ?_ (fun hH1 => ?_)
        · exact hba
        clear hK K
        clear hba
        generalize V.heap.size = Y at *
        generalize V.alloc (.cells #[.string ⟨#[]⟩, .int .i64 0] 115) = V1 at *
        clear V
        try dsimp only
        try simp only [List.getElem_toArray, List.getElem_cons_succ, List.getElem_cons_zero]
        try simp only [Act.put]
        try simp only [List.setIfInBounds_toArray]
        try simp only [List.set_cons_zero, List.set_cons_succ]
        refine wpAnyH_ready (rs := [2, 6]) (by kernel_rfl) (by simp) ?_
        refine AllReadyH.cons (o := _) rfl (fun K hK => ?_) ?_
        · skip
          go_simp
          go_at_call 115
          refine (HBH1.out V1 hH1).mono ?_; rintro e V2 ⟨rfl, hu⟩
          have hbu : Below W.heap.size W V2 := hH1.trans (hu.mono hH1.size)
          replace FY := Lib.hid (FY.out.below hu)
          clear hu hH1
          refine hK.out _ _ ?_ (fun hH2 => ?_)
          · exact hbu
          clear hK K
          clear hbu
          try dsimp only
          try simp only [List.getElem_toArray, List.getElem_cons_succ, List.getElem_cons_zero]
          try simp only [Act.put]
          try simp only [List.setIfInBounds_toArray]
          try simp only [List.set_cons_zero, List.set_cons_succ]
          refine wpAnyH_ready (rs := [5, 6]) (by kernel_rfl) (by simp) ?_
          refine AllReadyH.cons (o := _) rfl (fun K hK => ?_) ?_
          · skip
            go_simp
            go_at_call 116
            refine (HBF1.out V2 hH2).mono ?_; rintro e V3 ⟨rfl, hu⟩
            have hbu : Below W.heap.size W V3 := hH2.trans (hu.mono hH2.size)
            replace FY := Lib.hid (FY.out.below hu)
            clear hu hH2
            refine hK.out _ _ ?_ (fun hH3 => ?_)
            · exact hbu
            clear hK K
            clear hbu
            try dsimp only
            try simp only [List.getElem_toArray, List.getElem_cons_succ, List.getElem_cons_zero]
            try simp only [Act.put]
            try simp only [List.setIfInBounds_toArray]
            try simp only [List.set_cons_zero, List.set_cons_succ]
            refine wpAnyH_ready (rs := [6]) (by kernel_rfl) (by simp) ?_
            refine AllReadyH.cons (o := _) rfl (fun K hK => ?_) ?_
            · skip
              go_simp
              have hba := hH3.alloc hH3.size (.cells #[.string ⟨#[]⟩, .int .i64 0] 115)
              have FX := Lib.hid (Box2.new (T := 115) (v0 := .string ⟨#[]⟩) (v1 := .int .i64 0) V3)
              have hlX := hH3.size
              have hne : ¬ Y = V3.heap.size := by have := FY.out.lt; omega
              replace FY := Lib.hid (FY.out.below ((Below.refl _ _).alloc (Nat.le_refl _) (.cells #[.string ⟨#[]⟩, .int .i64 0] 115)))
              clear hH3
              refine hK.out _ _ ?_ (fun hH4 => ?_)
              · exact hba
              clear hK K
              clear hba
              generalize V3.heap.size = X at *
              generalize V3.alloc (.cells #[.string ⟨#[]⟩, .int .i64 0] 115) = V4 at *
              clear V3
              try dsimp only
              try simp only [List.getElem_toArray, List.getElem_cons_succ, List.getElem_cons_zero]
              try simp only [Act.put]
              try simp only [List.setIfInBounds_toArray]
              try simp only [List.set_cons_zero, List.set_cons_succ]
              refine wpAnyH_ready (rs := [8]) (by kernel_rfl) (by simp) ?_
              refine AllReadyH.cons (o := _) rfl (fun K hK => ?_) ?_
              · skip
                obtain ⟨x0, x1⟩ := FX.out.cells
                obtain ⟨y0, y1⟩ := FX.out.free
                go_simp
                clear x0 x1 y0 y1
                have hba := (hH4.setCell (p := ⟨X, 0, none⟩) hlX (.string BP)).setCell (p := ⟨X, 1, none⟩) hlX (.int .i64 BA)
                replace FX := Lib.hid (box_put (v0 := .string BP) (v1 := .int .i64 BA) FX.out)
                replace FY := Lib.hid ((FY.out.other (C := X) (o := 0) (x := .string BP) (fun e => hne (by omega))).other (C := X) (o := 1) (x := .int .i64 BA) (fun e => hne (by omega)))
                clear hH4
                refine hK.out _ _ ?_ (fun hH5 => ?_)
                · exact hba
                clear hK K
                clear hba
                generalize (V4.setCell ⟨X, 0, none⟩ (.string BP)).setCell ⟨X, 1, none⟩ (.int .i64 BA) = V5 at *
                clear V4
                try dsimp only
                try simp only [List.getElem_toArray, List.getElem_cons_succ, List.getElem_cons_zero]
                try simp only [Act.put]
                try simp only [List.setIfInBounds_toArray]
                try simp only [List.set_cons_zero, List.set_cons_succ]
                refine wpAnyH_ready (rs := [9]) (by kernel_rfl) (by simp) ?_
                refine AllReadyH.cons (o := _) rfl (fun K hK => ?_) ?_
                · skip
                  obtain ⟨x0, x1⟩ := FY.out.cells
                  obtain ⟨y0, y1⟩ := FY.out.free
                  go_simp
                  clear x0 x1 y0 y1
                  have hba := (hH5.setCell (p := ⟨Y, 0, none⟩) hlY (.string FP)).setCell (p := ⟨Y, 1, none⟩) hlY (.int .i64 FT)
                  replace FY := Lib.hid (box_put (v0 := .string FP) (v1 := .int .i64 FT) FY.out)
                  replace FX := Lib.hid ((FX.out.other (C := Y) (o := 0) (x := .string FP) (fun e => hne (by omega))).other (C := Y) (o := 1) (x := .int .i64 FT) (fun e => hne (by omega)))
                  clear hH5
                  refine hK.out _ _ ?_ (fun hH6 => ?_)
                  · exact hba
                  clear hK K
                  clear hba
                  generalize (V5.setCell ⟨Y, 0, none⟩ (.string FP)).setCell ⟨Y, 1, none⟩ (.int .i64 FT) = V6 at *
                  clear V5
                  try dsimp only
                  try simp only [List.getElem_toArray, List.getElem_cons_succ, List.getElem_cons_zero]
                  try simp only [Act.put]
                  try simp only [List.setIfInBounds_toArray]
                  try simp only [List.set_cons_zero, List.set_cons_succ]
                  refine wpAnyH_done (by kernel_rfl) ?_ _
                  try dsimp only [Act.put, Oper.dst]
                  try dsimp only
                  try simp only [Act.put]
                  try simp only [List.setIfInBounds_toArray]
                  try simp only [List.set_cons_zero, List.set_cons_succ]
                  go_wp2_with fail
                  go_meet
                  exact ⟨X, Y, rfl, rfl, FX.out.cells.1, FX.out.cells.2, FY.out.cells.1, FY.out.cells.2, hH6⟩
                exact AllReadyH.nil
              exact AllReadyH.nil
            exact AllReadyH.nil
          refine AllReadyH.cons (o := _) rfl (fun K hK => ?_) ?_
          · skip
            go_simp
            have hba := hH2.alloc hH2.size (.cells #[.string ⟨#[]⟩, .int .i64 0] 115)
            have FX := Lib.hid (Box2.new (T := 115) (v0 := .string ⟨#[]⟩) (v1 := .int .i64 0) V2)
            have hlX := hH2.size
            have hne : ¬ Y = V2.heap.size := by have := FY.out.lt; omega
            replace FY := Lib.hid (FY.out.below ((Below.refl _ _).alloc (Nat.le_refl _) (.cells #[.string ⟨#[]⟩, .int .i64 0] 115)))
            clear hH2
            refine hK.out _ _ ?_ (fun hH3 => ?_)
            · exact hba
            clear hK K
            clear hba
            generalize V2.heap.size = X at *
            generalize V2.alloc (.cells #[.string ⟨#[]⟩, .int .i64 0] 115) = V3 at *
            clear V2
            try dsimp only
            try simp only [List.getElem_toArray, List.getElem_cons_succ, List.getElem_cons_zero]
            try simp only [Act.put]
            try simp only [List.setIfInBounds_toArray]
            try simp only [List.set_cons_zero, List.set_cons_succ]
            refine wpAnyH_ready (rs := [5]) (by kernel_rfl) (by simp) ?_
            refine AllReadyH.cons (o := _) rfl (fun K hK => ?_) ?_
            · skip
              go_simp
              go_at_call 116
              refine (HBF1.out V3 hH3).mono ?_; rintro e V4 ⟨rfl, hu⟩
              have hbu : Below W.heap.size W V4 := hH3.trans (hu.mono hH3.size)
              replace FX := Lib.hid (FX.out.below hu)
              replace FY := Lib.hid (FY.out.below hu)
              clear hu hH3
              refine hK.out _ _ ?_ (fun hH4 => ?_)
              · exact hbu
              clear hK K
              clear hbu
              try dsimp only
              try simp only [List.getElem_toArray, List.getElem_cons_succ, List.getElem_cons_zero]
              try simp only [Act.put]
              try simp only [List.setIfInBounds_toArray]
              try simp only [List.set_cons_zero, List.set_cons_succ]
              refine wpAnyH_ready (rs := [8]) (by kernel_rfl) (by simp) ?_
              refine AllReadyH.cons (o := _) rfl (fun K hK => ?_) ?_
              · skip
                obtain ⟨x0, x1⟩ := FX.out.cells
                obtain ⟨y0, y1⟩ := FX.out.free
                go_simp
                clear x0 x1 y0 y1
                have hba := (hH4.setCell (p := ⟨X, 0, none⟩) hlX (.string BP)).setCell (p := ⟨X, 1, none⟩) hlX (.int .i64 BA)
                replace FX := Lib.hid (box_put (v0 := .string BP) (v1 := .int .i64 BA) FX.out)
                replace FY := Lib.hid ((FY.out.other (C := X) (o := 0) (x := .string BP) (fun e => hne (by omega))).other (C := X) (o := 1) (x := .int .i64 BA) (fun e => hne (by omega)))
                clear hH4
                refine hK.out _ _ ?_ (fun hH5 => ?_)
                · exact hba
                clear hK K
                clear hba
                generalize (V4.setCell ⟨X, 0, none⟩ (.string BP)).setCell ⟨X, 1, none⟩ (.int .i64 BA) = V5 at *
                clear V4
                try dsimp only
                try simp only [List.getElem_toArray, List.getElem_cons_succ, List.getElem_cons_zero]
                try simp only [Act.put]
                try simp only [List.setIfInBounds_toArray]
                try simp only [List.set_cons_zero, List.set_cons_succ]
                refine wpAnyH_ready (rs := [9]) (by kernel_rfl) (by simp) ?_
                refine AllReadyH.cons (o := _) rfl (fun K hK => ?_) ?_
                · skip
                  obtain ⟨x0, x1⟩ := FY.out.cells
                  obtain ⟨y0, y1⟩ := FY.out.free
                  go_simp
                  clear x0 x1 y0 y1
                  have hba := (hH5.setCell (p := ⟨Y, 0, none⟩) hlY (.string FP)).setCell (p := ⟨Y, 1, none⟩) hlY (.int .i64 FT)
                  replace FY := Lib.hid (box_put (v0 := .string FP) (v1 := .int .i64 FT) FY.out)
                  replace FX := Lib.hid ((FX.out.other (C := Y) (o := 0) (x := .string FP) (fun e => hne (by omega))).other (C := Y) (o := 1) (x := .int .i64 FT) (fun e => hne (by omega)))
                  clear hH5
                  refine hK.out _ _ ?_ (fun hH6 => ?_)
                  · exact hba
                  clear hK K
                  clear hba
                  generalize (V5.setCell ⟨Y, 0, none⟩ (.string FP)).setCell ⟨Y, 1, none⟩ (.int .i64 FT) = V6 at *
                  clear V5
                  try dsimp only
                  try simp only [List.getElem_toArray, List.getElem_cons_succ, List.getElem_cons_zero]
                  try simp only [Act.put]
                  try simp only [List.setIfInBounds_toArray]
                  try simp only [List.set_cons_zero, List.set_cons_succ]
                  refine wpAnyH_done (by kernel_rfl) ?_ _
                  try dsimp only [Act.put, Oper.dst]
                  try dsimp only
                  try simp only [Act.put]
                  try simp only [List.setIfInBounds_toArray]
                  try simp only [List.set_cons_zero, List.set_cons_succ]
                  go_wp2_with fail
                  go_meet
                  exact ⟨X, Y, rfl, rfl, FX.out.cells.1, FX.out.cells.2, FY.out.cells.1, FY.out.cells.2, hH6⟩
                exact AllReadyH.nil
              exact AllReadyH.nil
            exact AllReadyH.nil
          exact AllReadyH.nil
        refine AllReadyH.cons (o := _) rfl (fun K hK => ?_) ?_
        · skip
          go_simp
          have hba := hH1.alloc hH1.size (.cells #[.string ⟨#[]⟩, .int .i64 0] 115)
          have FX := Lib.hid (Box2.new (T := 115) (v0 := .string ⟨#[]⟩) (v1 := .int .i64 0) V1)
          have hlX := hH1.size
          have hne : ¬ Y = V1.heap.size := by have := FY.out.lt; omega
          replace FY := Lib.hid (FY.out.below ((Below.refl _ _).alloc (Nat.le_refl _) (.cells #[.string ⟨#[]⟩, .int .i64 0] 115)))
          clear hH1
          refine hK.out _ _ ?_ (fun hH2 => ?_)
          · exact hba
          clear hK K
          clear hba
          generalize V1.heap.size = X at *
          generalize V1.alloc (.cells #[.string ⟨#[]⟩, .int .i64 0] 115) = V2 at *
          clear V1
          try dsimp only
          try simp only [List.getElem_toArray, List.getElem_cons_succ, List.getElem_cons_zero]
          try simp only [Act.put]
          try simp only [List.setIfInBounds_toArray]
          try simp only [List.set_cons_zero, List.set_cons_succ]
          refine wpAnyH_ready (rs := [2]) (by kernel_rfl) (by simp) ?_
          refine AllReadyH.cons (o := _) rfl (fun K hK => ?_) ?_
          · skip
            go_simp
            go_at_call 115
            refine (HBH1.out V2 hH2).mono ?_; rintro e V3 ⟨rfl, hu⟩
            have hbu : Below W.heap.size W V3 := hH2.trans (hu.mono hH2.size)
            replace FX := Lib.hid (FX.out.below hu)
            replace FY := Lib.hid (FY.out.below hu)
            clear hu hH2
            refine hK.out _ _ ?_ (fun hH3 => ?_)
            · exact hbu
            clear hK K
            clear hbu
            try dsimp only
            try simp only [List.getElem_toArray, List.getElem_cons_succ, List.getElem_cons_zero]
            try simp only [Act.put]
            try simp only [List.setIfInBounds_toArray]
            try simp only [List.set_cons_zero, List.set_cons_succ]
            refine wpAnyH_ready (rs := [5]) (by kernel_rfl) (by simp) ?_
            refine AllReadyH.cons (o := _) rfl (fun K hK => ?_) ?_
            · skip
              go_simp
              go_at_call 116
              refine (HBF1.out V3 hH3).mono ?_; rintro e V4 ⟨rfl, hu⟩
              have hbu : Below W.heap.size W V4 := hH3.trans (hu.mono hH3.size)
              replace FX := Lib.hid (FX.out.below hu)
              replace FY := Lib.hid (FY.out.below hu)
              clear hu hH3
              refine hK.out _ _ ?_ (fun hH4 => ?_)
              · exact hbu
              clear hK K
              clear hbu
              try dsimp only
              try simp only [List.getElem_toArray, List.getElem_cons_succ, List.getElem_cons_zero]
              try simp only [Act.put]
              try simp only [List.setIfInBounds_toArray]
              try simp only [List.set_cons_zero, List.set_cons_succ]
              refine wpAnyH_ready (rs := [8]) (by kernel_rfl) (by simp) ?_
              refine AllReadyH.cons (o := _) rfl (fun K hK => ?_) ?_
              · skip
                obtain ⟨x0, x1⟩ := FX.out.cells
                obtain ⟨y0, y1⟩ := FX.out.free
                go_simp
                clear x0 x1 y0 y1
                have hba := (hH4.setCell (p := ⟨X, 0, none⟩) hlX (.string BP)).setCell (p := ⟨X, 1, none⟩) hlX (.int .i64 BA)
                replace FX := Lib.hid (box_put (v0 := .string BP) (v1 := .int .i64 BA) FX.out)
                replace FY := Lib.hid ((FY.out.other (C := X) (o := 0) (x := .string BP) (fun e => hne (by omega))).other (C := X) (o := 1) (x := .int .i64 BA) (fun e => hne (by omega)))
                clear hH4
                refine hK.out _ _ ?_ (fun hH5 => ?_)
                · exact hba
                clear hK K
                clear hba
                generalize (V4.setCell ⟨X, 0, none⟩ (.string BP)).setCell ⟨X, 1, none⟩ (.int .i64 BA) = V5 at *
                clear V4
                try dsimp only
                try simp only [List.getElem_toArray, List.getElem_cons_succ, List.getElem_cons_zero]
                try simp only [Act.put]
                try simp only [List.setIfInBounds_toArray]
                try simp only [List.set_cons_zero, List.set_cons_succ]
                refine wpAnyH_ready (rs := [9]) (by kernel_rfl) (by simp) ?_
                refine AllReadyH.cons (o := _) rfl (fun K hK => ?_) ?_
                · skip
                  obtain ⟨x0, x1⟩ := FY.out.cells
                  obtain ⟨y0, y1⟩ := FY.out.free
                  go_simp
                  clear x0 x1 y0 y1
                  have hba := (hH5.setCell (p := ⟨Y, 0, none⟩) hlY (.string FP)).setCell (p := ⟨Y, 1, none⟩) hlY (.int .i64 FT)
                  replace FY := Lib.hid (box_put (v0 := .string FP) (v1 := .int .i64 FT) FY.out)
                  replace FX := Lib.hid ((FX.out.other (C := Y) (o := 0) (x := .string FP) (fun e => hne (by omega))).other (C := Y) (o := 1) (x := .int .i64 FT) (fun e => hne (by omega)))
                  clear hH5
                  refine hK.out _ _ ?_ (fun hH6 => ?_)
                  · exact hba
                  clear hK K
                  clear hba
                  generalize (V5.setCell ⟨Y, 0, none⟩ (.string FP)).setCell ⟨Y, 1, none⟩ (.int .i64 FT) = V6 at *
                  clear V5
                  try dsimp only
                  try simp only [List.getElem_toArray, List.getElem_cons_succ, List.getElem_cons_zero]
                  try simp only [Act.put]
                  try simp only [List.setIfInBounds_toArray]
                  try simp only [List.set_cons_zero, List.set_cons_succ]
                  refine wpAnyH_done (by kernel_rfl) ?_ _
                  try dsimp only [Act.put, Oper.dst]
                  try dsimp only
                  try simp only [Act.put]
                  try simp only [List.setIfInBounds_toArray]
                  try simp only [List.set_cons_zero, List.set_cons_succ]
                  go_wp2_with fail
                  go_meet
                  exact ⟨X, Y, rfl, rfl, FX.out.cells.1, FX.out.cells.2, FY.out.cells.1, FY.out.cells.2, hH6⟩
                exact AllReadyH.nil
              exact AllReadyH.nil
            exact AllReadyH.nil
          exact AllReadyH.nil
        exact AllReadyH.nil
      exact AllReadyH.nil
    case rest =>
      obtain ⟨X, Y, rfl, rfl, x0, x1, y0, y1, hbx⟩ := hcut
      obtain ⟨e0, e1, e2⟩ := (FN.out.below hbx).cells
      have HEX := Lib.hid (HEA.out wc (HA.out.below hbx) (HD.out.below hbx))
      have HBX := Lib.hid (HB0.out.trans (hbx.mono (Nat.le_of_lt hW0)))
      have hBw : B ≤ wc.heap.size := by have := hbx.size; omega
      clear b0 b1 b2 s0 s1 s2 s3 s4 s5 q0 q1 q2 q3 q4 q5 hbx HEA HBH1 HBF1
      have hlt : ∀ {b o : Nat} {v : Value}, wc.cell? ⟨b, o, none⟩ = some v → b < wc.heap.size := fun {b o _} h => World.block_lt_of_cell? wc ⟨b, o, none⟩ h
      have hY := hlt y0
      clear hlt
      go_wp2_with fail
      refine HEX.out.mono ?_; rintro e w2 ⟨rfl, hb2⟩
      have z1 := (hb2.cell (p := ⟨Y, 1, none⟩) hY).trans y1
      have HB2 := Lib.hid (HBX.out.trans (hb2.mono hBw))
      clear y0 y1 x0 x1 e0 e1 e2 hb2 HEX
      rcases HEB.out with rfl | ⟨hE0, hE1⟩
      · have HVF := Lib.hid (HV.out.trans (show _ = false by rfl))
        go_wp2
        go_ret
        exact ⟨ret_bool HVF.out.symm, by rw [HBE.out]; exact HB2.out⟩
      · have hne : (E != -1) = true := by simp; omega
        have HVF := Lib.hid (HV.out.trans (show _ = decide (E ≤ FT) by rw [decide_eq_true hE0, Bool.true_and]))
        go_wp2
        go_ret
        exact ⟨ret_bool HVF.out.symm, by rw [HBE.out]; exact HB2.out⟩
end Go.Proofs.YtamlbiagjipedaaGreat

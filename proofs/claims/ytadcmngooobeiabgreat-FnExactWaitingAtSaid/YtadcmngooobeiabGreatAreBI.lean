/- AreBookings: the program's text. -/
import Derived.Test.YtadcmngooobeiabGreatBksM
import Derived.Test.YtadcmngooobeiabGreatBc
namespace Go.Proofs.YtadcmngooobeiabGreat
open Go.RowKit
theorem bk_bd {l : List Lg} {zs : List Int} {x : Int} {b : Bk} (h : bkOk l zs x b = true) (hn : l.length ≤ 1048576) : Bd b.g ∧ Bd b.d := by
  obtain ⟨h1, _⟩ := bkOk_of h
  obtain ⟨_, hd, k, hk, hkl⟩ := ron_of h1
  constructor
  · rw [hk]; constructor <;> omega
  · constructor <;> omega
set_option maxRecDepth 100000 in
set_option maxHeartbeats 8000000 in
theorem are_bks_impl (A : Option Addr) (ca : Nat) (l : List Lg) (D : Option Addr) (cd : Nat) (zs : List Int) (x : Int) (E : Option Addr) (ce : Nat) (bs : List Bk) (w : World) (hA : InK 6 lgC w A l) (hD : IntsIn w D zs) (hs : ∀ z ∈ l, z.f.size ≤ maxLen ∧ z.t.size ≤ maxLen) (hn : l.length ≤ 1048576) (hm : zs.length ≤ 1048576) (hE : InK 4 bkC w E bs) (hbl : bs.length ≤ 1048576) :
    Calls Tryz.prog 78 #[.agg #[.slice A l.length ca, .slice D zs.length cd, .int .i64 x], .slice E bs.length ce] w fun e w' => e = .returned (.bool (bksB l zs x bs)) ∧ Below w.heap.size w w' := by
  have HBX := Lib.hid (Box3.new (T := 36) (v0 := .slice A l.length ca) (v1 := .slice D zs.length cd) (v2 := .int .i64 x) w)
  have HB0 := Lib.hid ((Below.refl w.heap.size w).alloc (Nat.le_refl _) (.cells #[.slice A l.length ca, .slice D zs.length cd, .int .i64 x] 36))
  have HA := Lib.hid hA; have HD := Lib.hid hD; have HE := Lib.hid hE; clear hA hD hE
  have HN := Lib.hid (fun W (h1 : InK 6 lgC W A l) (h2 : IntsIn W D zs) => is_net A ca l D cd zs x W h1 h2 hs hn hm)
  have HIB := Lib.hid (fun bh bg bd bm W (h1 : InK 6 lgC W A l) (h2 : IntsIn W D zs) => is_bk bh bg bd bm A ca l D cd zs x W h1 h2 hs hn hm)
  clear hs
  generalize hB : w.heap.size = B at *
  have HBE := Lib.hid hB
  go_enter Tryz.func78, Tryz.ntmps78
  go_wp2_with fail
  clear hB
  have hBl := HBX.out.lt
  generalize w.alloc (.cells #[.slice A l.length ca, .slice D zs.length cd, .int .i64 x] 36) = W at *
  refine (HN.out W (HA.out.below (by rw [HBE.out]; exact HB0.out)) (HD.out.below (by rw [HBE.out]; exact HB0.out))).mono ?_; rintro e w1 ⟨rfl, hb1⟩
  have HB1 := Lib.hid (HB0.out.trans (hb1.mono (Nat.le_of_lt hBl))); have HX1 := Lib.hid (HBX.out.below hb1)
  clear hb1 HB0 HBX hBl HN
  cases hnet : netB l zs x with
  | false =>
    have HV := Lib.hid (bks_net (bs := bs) hnet); clear hnet
    go_wp2
    go_ret
    exact ⟨by rw [HV.out]; rfl, HB1.out⟩
  | true =>
    have HNET := Lib.hid hnet; clear hnet
    by_cases hlong : 120 < bs.length
    · have HV := Lib.hid (bks_long (l := l) (zs := zs) (x := x) hlong)
      have hd1 : decide ((120 : Int) < (bs.length : Int)) = true := decide_eq_true (by omega)
      go_wp2
      go_ret
      exact ⟨by rw [HV.out]; rfl, HB1.out⟩
    have hd1 : decide ((120 : Int) < (bs.length : Int)) = false := decide_eq_false (by omega)
    have hd2 : decide (120 < bs.length) = false := decide_eq_false (by omega)
    go_wp2
    go_loopw [19] (fun i wr => ∃ k : Nat, k ≤ bs.length ∧ i = .int .i64 k ∧ bkAll l zs x bs k = true ∧ Below B w wr ∧ Box3 36 wr B (.slice A l.length ca) (.slice D zs.length cd) (.int .i64 x)) (fun i _ => bs.length - (intOf i).toNat)
    case atStart => exact ⟨0, Nat.zero_le _, rfl, rfl, HB1.out, HX1.out⟩
    case round =>
      clear HB1 HX1
      obtain ⟨k, hk, rfl, hall, hb, hx⟩ := hrel
      have HALL := Lib.hid hall; have HB := Lib.hid hb; have HX := Lib.hid hx; clear hall hb hx
      have hBw : B < wr.heap.size := HX.out.lt
      by_cases hlt : (k : Int) < (bs.length : Int)
      · have hkn : k < bs.length := by omega
        obtain ⟨a, rfl, ha, c0, c1, c2, c3⟩ := (HE.out.below (show Below w.heap.size w wr by rw [HBE.out]; exact HB.out)).bk k hkn
        have HNX := Lib.hid (bkAll_next l zs x bs k)
        have HNO := Lib.hid (fun h => bks_no (l := l) (zs := zs) (x := x) hkn h)
        obtain ⟨y, hy⟩ : ∃ y, y = bs[k] := ⟨_, rfl⟩
        rw [← hy] at c0 c1 c2 c3
        have HY := Lib.hid hy; clear hy
        obtain ⟨yh, yg, yd, ym⟩ := y
        dsimp only at c0 c1 c2 c3
        have HXB := Lib.hid (heap_alloc_new wr (.cells #[.int .i64 yh, .int .i64 yg, .int .i64 yd, .int .i64 ym] 106))
        have hwal := (Below.refl wr.heap.size wr).alloc (Nat.le_refl _) (.cells #[.int .i64 yh, .int .i64 yg, .int .i64 yd, .int .i64 ym] 106)
        have HBW := Lib.hid (HB.out.trans (hwal.mono (Nat.le_of_lt hBw))); have HXW := Lib.hid (HX.out.below hwal); have HWL := Lib.hid hwal; clear hwal
        have hTW : wr.heap.size < (wr.alloc (.cells #[.int .i64 yh, .int .i64 yg, .int .i64 yd, .int .i64 ym] 106)).heap.size := by simp
        have hcase : (∃ v, bkOk l zs x ⟨yh, yg, yd, ym⟩ = v ∧ (v = false → bkAt l zs x bs k = false)) ∧ ((k = 0 ∧ bkAt l zs x bs k = bkOk l zs x ⟨yh, yg, yd, ym⟩) ∨ ∃ j, k = j + 1 ∧ ∃ hj : j < bs.length, bkAt l zs x bs k = (bkOk l zs x ⟨yh, yg, yd, ym⟩ && befB bs[j] ⟨yh, yg, yd, ym⟩)) := by
          rw [HY.out]
          cases k with
          | zero => exact ⟨⟨_, rfl, fun h => by rw [bkAt_zero hkn]; exact h⟩, .inl ⟨rfl, bkAt_zero hkn⟩⟩
          | succ j => exact ⟨⟨_, rfl, fun h => by rw [bkAt_succ hkn, h]; rfl⟩, .inr ⟨j, rfl, by omega, bkAt_succ hkn⟩⟩
        obtain ⟨⟨V, hV, hVf⟩, hks⟩ := hcase
        have HIF0 := Lib.hid (fun W' h1 h2 => HIB.out yh yg yd ym W' h1 h2)
        rw [hV] at HIF0 hks
        clear hV
        have HVF := Lib.hid hVf; have HKS := Lib.hid hks; clear hVf hks
        cases V with
        | false =>
          have HF := Lib.hid (HNO.out (HVF.out rfl))
          go_wp2
          obtain ⟨W, hW⟩ : ∃ W, W = wr.alloc (.cells #[.int .i64 yh, .int .i64 yg, .int .i64 yd, .int .i64 ym] 106) := ⟨_, rfl⟩
          rw [← hW] at HXB HBW HXW HWL hTW ⊢
          clear hW
          obtain ⟨b0, b1, b2, b3, _, _, _, _⟩ := row4 HXB.out
          obtain ⟨n0, n1, n2⟩ := HXW.out.cells
          have hBW : B < W.heap.size := HXW.out.lt
          have HP0 := far_cell hTW b0; have HP1 := far_cell hTW b1; have HP2 := far_cell hTW b2; have HP3 := far_cell hTW b3
          have HM0 := far_cell hBW n0; have HM1 := far_cell hBW n1; have HM2 := far_cell hBW n2
          have HIF := Lib.hid (fun u => HIF0.out (far W u) (HA.out.below (show Below w.heap.size w (far W u) by rw [HBE.out]; exact HBW.out.trans ((below_far W u).mono (Nat.le_of_lt hBW)))) (HD.out.below (show Below w.heap.size w (far W u) by rw [HBE.out]; exact HBW.out.trans ((below_far W u).mono (Nat.le_of_lt hBW)))))
          have HCF := HIF
          clear c0 c1 c2 c3 b0 b1 b2 b3 n0 n1 n2
          refine wp_region_far (by kernel_rfl) (by kernel_rfl) ?_
          repeat (any_goals (first | go_big_quiet_step ((first | (go_at_call 100; with_reducible exact call_far (HIF.out _)) | (go_at_call 101; with_reducible exact call_far (HCF.out _)))) | quiet_step ((first | (go_at_call 100; with_reducible exact call_far (HIF.out _)) | (go_at_call 101; with_reducible exact call_far (HCF.out _))))))
          refine wpQuiet_nil ?_; intro w3 hw3
          have hbw3 : Below W.heap.size W w3 := by obtain ⟨u, rfl⟩ := hw3; exact below_far W u
          clear hw3
          have HB3 := Lib.hid (HBW.out.trans (hbw3.mono (Nat.le_of_lt hBW))); have HX3 := Lib.hid (HXW.out.below hbw3)
          clear hbw3
          go_wp2
          go_ret
          exact ⟨by rw [HF.out]; rfl, HB3.out⟩
        | true =>
          rcases HKS.out with ⟨hk0, hat⟩ | ⟨j, hkj, hj, hat⟩
          · have HAT := Lib.hid (show bkAll l zs x bs (0 + 1) = true by rw [← hk0, HNX.out, HALL.out, hat]; rfl); clear hat HKS HVF
            clear HNX HNO HALL HY
            subst hk0
            go_wp2
            obtain ⟨W, hW⟩ : ∃ W, W = wr.alloc (.cells #[.int .i64 yh, .int .i64 yg, .int .i64 yd, .int .i64 ym] 106) := ⟨_, rfl⟩
            rw [← hW] at HXB HBW HXW HWL hTW ⊢
            clear hW
            obtain ⟨b0, b1, b2, b3, _, _, _, _⟩ := row4 HXB.out
            obtain ⟨n0, n1, n2⟩ := HXW.out.cells
            have hBW : B < W.heap.size := HXW.out.lt
            have HP0 := far_cell hTW b0; have HP1 := far_cell hTW b1; have HP2 := far_cell hTW b2; have HP3 := far_cell hTW b3
            have HM0 := far_cell hBW n0; have HM1 := far_cell hBW n1; have HM2 := far_cell hBW n2
            have HIF := Lib.hid (fun u => HIF0.out (far W u) (HA.out.below (show Below w.heap.size w (far W u) by rw [HBE.out]; exact HBW.out.trans ((below_far W u).mono (Nat.le_of_lt hBW)))) (HD.out.below (show Below w.heap.size w (far W u) by rw [HBE.out]; exact HBW.out.trans ((below_far W u).mono (Nat.le_of_lt hBW)))))
            have HCF := HIF
            clear c0 c1 c2 c3 b0 b1 b2 b3 n0 n1 n2
            refine wp_region_far (by kernel_rfl) (by kernel_rfl) ?_
            repeat (any_goals (first | go_big_quiet_step ((first | (go_at_call 100; with_reducible exact call_far (HIF.out _)) | (go_at_call 101; with_reducible exact call_far (HCF.out _)))) | quiet_step ((first | (go_at_call 100; with_reducible exact call_far (HIF.out _)) | (go_at_call 101; with_reducible exact call_far (HCF.out _))))))
            refine wpQuiet_nil ?_; intro w3 hw3
            have hbw3 : Below W.heap.size W w3 := by obtain ⟨u, rfl⟩ := hw3; exact below_far W u
            clear hw3
            have HB3 := Lib.hid (HBW.out.trans (hbw3.mono (Nat.le_of_lt hBW))); have HX3 := Lib.hid (HXW.out.below hbw3)
            clear hbw3
            go_wp2
            go_roundw
            case rel => exact ⟨0 + 1, by omega, by go_num, HAT.out, HB3.out, HX3.out⟩
            case measure => simp [intOf]; omega
          · obtain ⟨a', ea, ha', p0, p1, p2, p3⟩ := (HE.out.below (show Below w.heap.size w wr by rw [HBE.out]; exact HB.out)).bk j hj
            have e' : a' = a := by injection ea with ea; injection ea with ea; exact ea.symm
            rw [e'] at p0 p1 p2 p3
            clear ea ha' e' HKS HVF
            generalize bs[j] = q at *
            obtain ⟨qh, qg, qd, qm⟩ := q
            dsimp only at p0 p1 p2 p3
            have HCB := Lib.hid (fun W' => cmp_bk qh qg qd qm yh yg yd ym W')
            have HGE := Lib.hid (cmpB_ge ⟨qh, qg, qd, qm⟩ ⟨yh, yg, yd, ym⟩)
            generalize cmpB ⟨qh, qg, qd, qm⟩ ⟨yh, yg, yd, ym⟩ = C at *
            have hkj1 : (k : Int) - 1 = (j : Int) := by omega
            have hjb : (j : Int) < (bs.length : Int) := by omega
            have hk0 : decide ((0 : Int) < (k : Int)) = true := decide_eq_true (by omega)
            have hk0' : decide (0 < k) = true := decide_eq_true (by omega)
            have hjn : decide ((j : Int) < 0) = false := decide_eq_false (by omega)
            clear hkj
            cases hbf : befB ⟨qh, qg, qd, qm⟩ ⟨yh, yg, yd, ym⟩ with
            | false =>
              have HF := Lib.hid (HNO.out (by rw [hat, hbf]; rfl))
              have hC : decide (0 ≤ C) = true := by rw [HGE.out, hbf]; rfl
              have hC0 : 0 ≤ C := of_decide_eq_true hC
              clear hat hbf HNX HNO HALL HY
              go_wp2
              obtain ⟨W, hW⟩ : ∃ W, W = wr.alloc (.cells #[.int .i64 yh, .int .i64 yg, .int .i64 yd, .int .i64 ym] 106) := ⟨_, rfl⟩
              rw [← hW] at HXB HBW HXW HWL hTW ⊢
              clear hW
              obtain ⟨b0, b1, b2, b3, _, _, _, _⟩ := row4 HXB.out
              obtain ⟨n0, n1, n2⟩ := HXW.out.cells
              have hBW : B < W.heap.size := HXW.out.lt
              have HP0 := far_cell hTW b0; have HP1 := far_cell hTW b1; have HP2 := far_cell hTW b2; have HP3 := far_cell hTW b3
              have HM0 := far_cell hBW n0; have HM1 := far_cell hBW n1; have HM2 := far_cell hBW n2
              have HIF := Lib.hid (fun u => HIF0.out (far W u) (HA.out.below (show Below w.heap.size w (far W u) by rw [HBE.out]; exact HBW.out.trans ((below_far W u).mono (Nat.le_of_lt hBW)))) (HD.out.below (show Below w.heap.size w (far W u) by rw [HBE.out]; exact HBW.out.trans ((below_far W u).mono (Nat.le_of_lt hBW)))))
              have hgW : a < W.heap.size := Nat.lt_of_lt_of_le ha HWL.out.size
              have m0 := (HWL.out.cell (p := ⟨a, j * 4, none⟩) ha).trans p0; have m1 := (HWL.out.cell (p := ⟨a, j * 4 + 1, none⟩) ha).trans p1; have m2 := (HWL.out.cell (p := ⟨a, j * 4 + 2, none⟩) ha).trans p2; have m3 := (HWL.out.cell (p := ⟨a, j * 4 + 3, none⟩) ha).trans p3
              have HQ0 := far_cell hgW m0; have HQ1 := far_cell hgW m1; have HQ2 := far_cell hgW m2; have HQ3 := far_cell hgW m3
              have HCF := Lib.hid (fun u => HCB.out (far W u))
              clear c0 c1 c2 c3 p0 p1 p2 p3 m0 m1 m2 m3 b0 b1 b2 b3 n0 n1 n2
              refine wp_region_far (by kernel_rfl) (by kernel_rfl) ?_
              repeat (any_goals (first | go_big_quiet_step ((first | (go_at_call 100; with_reducible exact call_far (HIF.out _)) | (go_at_call 101; with_reducible exact call_far (HCF.out _)))) | quiet_step ((first | (go_at_call 100; with_reducible exact call_far (HIF.out _)) | (go_at_call 101; with_reducible exact call_far (HCF.out _))))))
              refine wpQuiet_nil ?_; intro w3 hw3
              have hbw3 : Below W.heap.size W w3 := by obtain ⟨u, rfl⟩ := hw3; exact below_far W u
              clear hw3
              have HB3 := Lib.hid (HBW.out.trans (hbw3.mono (Nat.le_of_lt hBW))); have HX3 := Lib.hid (HXW.out.below hbw3)
              clear hbw3
              go_wp2
              go_ret
              exact ⟨by rw [HF.out]; rfl, HB3.out⟩
            | true =>
              have HAT := Lib.hid (show bkAll l zs x bs (k + 1) = true by rw [HNX.out, HALL.out, hat, hbf]; rfl)
              have hC : decide (0 ≤ C) = false := by rw [HGE.out, hbf]; rfl
              have hC0 : ¬ 0 ≤ C := of_decide_eq_false hC
              clear hat hbf HNX HNO HALL HY
              go_wp2
              obtain ⟨W, hW⟩ : ∃ W, W = wr.alloc (.cells #[.int .i64 yh, .int .i64 yg, .int .i64 yd, .int .i64 ym] 106) := ⟨_, rfl⟩
              rw [← hW] at HXB HBW HXW HWL hTW ⊢
              clear hW
              obtain ⟨b0, b1, b2, b3, _, _, _, _⟩ := row4 HXB.out
              obtain ⟨n0, n1, n2⟩ := HXW.out.cells
              have hBW : B < W.heap.size := HXW.out.lt
              have HP0 := far_cell hTW b0; have HP1 := far_cell hTW b1; have HP2 := far_cell hTW b2; have HP3 := far_cell hTW b3
              have HM0 := far_cell hBW n0; have HM1 := far_cell hBW n1; have HM2 := far_cell hBW n2
              have HIF := Lib.hid (fun u => HIF0.out (far W u) (HA.out.below (show Below w.heap.size w (far W u) by rw [HBE.out]; exact HBW.out.trans ((below_far W u).mono (Nat.le_of_lt hBW)))) (HD.out.below (show Below w.heap.size w (far W u) by rw [HBE.out]; exact HBW.out.trans ((below_far W u).mono (Nat.le_of_lt hBW)))))
              have hgW : a < W.heap.size := Nat.lt_of_lt_of_le ha HWL.out.size
              have m0 := (HWL.out.cell (p := ⟨a, j * 4, none⟩) ha).trans p0; have m1 := (HWL.out.cell (p := ⟨a, j * 4 + 1, none⟩) ha).trans p1; have m2 := (HWL.out.cell (p := ⟨a, j * 4 + 2, none⟩) ha).trans p2; have m3 := (HWL.out.cell (p := ⟨a, j * 4 + 3, none⟩) ha).trans p3
              have HQ0 := far_cell hgW m0; have HQ1 := far_cell hgW m1; have HQ2 := far_cell hgW m2; have HQ3 := far_cell hgW m3
              have HCF := Lib.hid (fun u => HCB.out (far W u))
              clear c0 c1 c2 c3 p0 p1 p2 p3 m0 m1 m2 m3 b0 b1 b2 b3 n0 n1 n2
              refine wp_region_far (by kernel_rfl) (by kernel_rfl) ?_
              repeat (any_goals (first | go_big_quiet_step ((first | (go_at_call 100; with_reducible exact call_far (HIF.out _)) | (go_at_call 101; with_reducible exact call_far (HCF.out _)))) | quiet_step ((first | (go_at_call 100; with_reducible exact call_far (HIF.out _)) | (go_at_call 101; with_reducible exact call_far (HCF.out _))))))
              refine wpQuiet_nil ?_; intro w3 hw3
              have hbw3 : Below W.heap.size W w3 := by obtain ⟨u, rfl⟩ := hw3; exact below_far W u
              clear hw3
              have HB3 := Lib.hid (HBW.out.trans (hbw3.mono (Nat.le_of_lt hBW))); have HX3 := Lib.hid (HXW.out.below hbw3)
              clear hbw3
              go_wp2
              go_roundw
              case rel => exact ⟨k + 1, by omega, by go_num, HAT.out, HB3.out, HX3.out⟩
              case measure => simp [intOf]; omega
      · obtain rfl : k = bs.length := by omega
        clear HIB
        have HRM := Lib.hid (bks_rm HNET.out (by omega) HALL.out)
        have HOK := Lib.hid (bkAll_ok HALL.out)
        have HLD := Lib.hid (fun W (h : InK 4 bkC W E bs) => loads_of E ce bs W h hbl (fun b hb => bk_bd (HOK.out b hb) hn))
        clear HALL hd1 hd2
        go_wp2_with fail
        refine (HLD.out wr (HE.out.below (show Below w.heap.size w wr by rw [HBE.out]; exact HB.out))).mono ?_; rintro e w3 ⟨mb, rfl, hmb, hmap, hb3⟩
        have HB3 := Lib.hid (HB.out.trans (hb3.mono (Nat.le_of_lt hBw))); have HX3 := Lib.hid (HX.out.below hb3); have HM3 := Lib.hid hmap
        clear hb3 hmap HB HX HLD
        have hB3 : B < w3.heap.size := HX3.out.lt
        go_wp2_with (first
          | (at_range; refine wp_rangeP rfl _ rfl mb bs.length (ldP bs bs.length) rfl HM3.out ?_; intro cnt0 w4 hrg0 hg0 hs0)
          | fail)
        have HG4 := Lib.hid (HB3.out.grown hg0 (Nat.le_of_lt hB3) (fun q e => by cases e)); have HX4 := Lib.hid (HX3.out.apart hg0 (by simp)); have HR4 := Lib.hid hrg0
        clear hrg0 hg0 HB3 HX3 HM3
        generalize w3.heap.size = R at *
        go_frame
        go_loopw [] (fun wr => ∃ (left : Int → Int → Bool) (cnt : Nat), RngP wr mb R bs.length (ldP bs bs.length) left cnt ∧ (∀ g d c, Bd g → Bd d → ldP bs bs.length g d = some c → left g d = false → c ≤ (lgAt l g).r) ∧ Below B w wr ∧ Box3 36 wr B (.slice A l.length ca) (.slice D zs.length cd) (.int .i64 x)) (fun wr => wr.rangeLeft mb R)
        case atStart => exact ⟨_, cnt0, HR4.out, fun g d c _ _ h h2 => (by rw [h] at h2; cases h2), HG4.out, HX4.out⟩
        case round =>
          clear HR4 HG4 HX4
          obtain ⟨left, cnt, hrg, hinv, hb, hx⟩ := hrel
          have HRG := Lib.hid hrg; have HINV := Lib.hid hinv; have HB := Lib.hid hb; have HX := Lib.hid hx; clear hrg hinv hb hx
          have hBw2 : B < wr.heap.size := HX.out.lt
          go_wp2_with (first
            | (at_next; refine wp_nextP rfl _ rfl mb R bs.length (ldP bs bs.length) left cnt rfl HRG.out ?_ ?_)
            | fail)
          · intro hdone
            have HV := Lib.hid (show bksB l zs x bs = true from by
              rw [HRM.out]
              unfold rmB
              rw [List.all_eq_true]
              intro b hb
              have hbd := bk_bd (HOK.out b hb) hn
              exact decide_eq_true (HINV.out _ _ _ hbd.1 hbd.2 (ldP_of hb) (hdone _ _ hbd.1 hbd.2)))
            clear hdone
            go_wp2
            go_ret
            exact ⟨by rw [HV.out]; rfl, HB.out⟩
          · intro g d c w5 cnt5 bg bd hG hrg5 hlt5 hg5 hs5 hen
            obtain ⟨hc, b, hbm, hbg, hbd⟩ := ldP_hit hG
            obtain ⟨_, _, kk, hkk, hkl⟩ := ron_of (bkOk_of (HOK.out b hbm)).1
            have hgk : g = (kk : Int) := by omega
            have HB5 := Lib.hid (HB.out.grown hg5 (Nat.le_of_lt hBw2) (fun q e => by have := Option.some.inj e; omega))
            have HX5 := Lib.hid (HX.out.apart hg5 (fun e => by have := Option.some.inj e; omega))
            have hBw5 := HX5.out.lt
            obtain ⟨gl, rfl, hgl, l0, l1, l2, l3, l4, l5⟩ := (HA.out.below (show Below w.heap.size w w5 by rw [HBE.out]; exact HB5.out)).lg kk hkl
            have HLG := Lib.hid (show lgAt l g = l[kk] by rw [hgk]; exact lgAt_get hkl)
            obtain ⟨n0, n1, n2⟩ := HX5.out.cells
            have HRG5 := Lib.hid (hrg5.kept (World.grownBy_alloc w5 (.cells #[.int .i64 g, .int .i64 d] 52) none))
            have HBA := Lib.hid (HB5.out.alloc (Nat.le_of_lt hBw5) (.cells #[.int .i64 g, .int .i64 d] 52))
            have HXA := Lib.hid (HX5.out.below ((Below.refl _ _).alloc (Nat.le_refl _) (.cells #[.int .i64 g, .int .i64 d] 52)))
            have HLT := Lib.hid hlt5
            have HHIT := Lib.hid (And.intro hc (And.intro hbm (And.intro hbg hbd)))
            have HGK := Lib.hid hgk
            clear l0 l1 l2 l3 l4 hrg5 hlt5 hg5 hG hc hbg hbd hbm bg bd hs5
            obtain ⟨rm, hrm⟩ : ∃ rm, rm = l[kk].r := ⟨_, rfl⟩
            rw [← hrm] at l5
            have HRME := Lib.hid hrm; clear hrm
            subst hgk
            have hkkl : (kk : Int) < (l.length : Int) := by omega
            have hkk0 : decide ((kk : Int) < 0) = false := decide_eq_false (by omega)
            by_cases hcr : rm < c
            · have HV := Lib.hid (show bksB l zs x bs = false from by
                rw [HRM.out]
                refine rm_no HHIT.out.2.1 ?_
                rw [HHIT.out.2.2.1, HHIT.out.2.2.2, HLG.out, ← HRME.out, ← HHIT.out.1]; exact hcr)
              go_wp2
              go_ret
              exact ⟨by rw [HV.out]; rfl, HBA.out⟩
            · go_wp2
              go_roundw
              case rel =>
                refine ⟨_, cnt5, HRG5.out, fun a q v ha hq hv hl => ?_, HBA.out, HXA.out⟩
                by_cases e : a = (kk : Int) ∧ q = d
                · obtain ⟨rfl, rfl⟩ := e
                  rw [(ldP_hit hv).1, ← HHIT.out.1, HLG.out, ← HRME.out]; omega
                · unfold minusP at hl
                  rw [decide_eq_false e] at hl
                  exact HINV.out a q v ha hq hv (by simpa using hl)
              case measure => rw [HRG5.out.left_eq, HRG.out.left_eq]; exact HLT.out
end Go.Proofs.YtadcmngooobeiabGreat

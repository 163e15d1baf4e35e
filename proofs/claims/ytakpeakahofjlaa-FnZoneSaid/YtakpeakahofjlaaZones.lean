/- Contracts of the two texts of AreZones, and of the two of ZoneOf. -/
import Derived.Test.YtakpeakahofjlaaZone
import Derived.Test.YtakpeakahofjlaaPlace
import Derived.Test.YtakpeakahofjlaaBl
import Derived.Test.YtakpeakahofjlaaFar
namespace Go.Proofs.Ytakpeakahofjlaa
open Go.RowKit
def lt2 (s t : ByteArray) : Bool := Op.bytesLess s.toList t.toList
def zoneB (s t : ByteArray) : Bool := plcB s.data.toList && (plcB t.data.toList && !lt2 t s)
def zAt (l : List Zn) (j : Nat) : Zn := l.getD j (⟨#[]⟩, ⟨#[]⟩)
/-- the zone at j is one, and begins behind the one before -/
def stepB (l : List Zn) (j : Nat) : Bool := zoneB (zAt l j).1 (zAt l j).2 && (j == 0 || lt2 (zAt l (j - 1)).2 (zAt l j).1)
def areZB (l : List Zn) : Bool := decide (l.length ≤ 8) && (List.range l.length).all (stepB l)
theorem zAt_get {l : List Zn} {j : Nat} (h : j < l.length) : zAt l j = l[j] := by simp [zAt, List.getD, h]
theorem areZ_no {l : List Zn} {j : Nat} (h : j < l.length) (hs : stepB l j = false) : areZB l = false := by
  unfold areZB
  have : (List.range l.length).all (stepB l) = false := by rw [List.all_eq_false]; exact ⟨j, List.mem_range.2 h, by simp [hs]⟩
  simp [this]
theorem areZ_long {l : List Zn} (h : 8 < l.length) : areZB l = false := by
  unfold areZB; rw [decide_eq_false (by omega)]; rfl
theorem areZ_yes {l : List Zn} (h : l.length ≤ 8) (hs : ∀ j, j < l.length → stepB l j = true) : areZB l = true := by
  unfold areZB
  rw [decide_eq_true h, Bool.true_and, List.all_eq_true]
  exact fun j hj => hs j (List.mem_range.1 hj)
set_option maxHeartbeats 1000000 in
theorem is_zone (s t : ByteArray) (w : World) (hs : s.size ≤ maxLen) (ht : t.size ≤ maxLen) :
    Calls Try.prog 68 #[.agg #[.string s, .string t]] w fun e w' => e = .returned (.bool (zoneB s t)) ∧ Below w.heap.size w w' := by
  have H1 := Lib.hid (place_impl s · hs)
  have H2 := Lib.hid (place_impl t · ht)
  have HZ := Lib.hid (show zoneB s t = (plcB s.data.toList && (plcB t.data.toList && !Op.bytesLess t.toList s.toList)) from rfl)
  generalize zoneB s t = Z at *
  cases h1 : plcB s.data.toList with
  | false =>
    rw [h1] at HZ H1
    have HZ' := Lib.hid (show Z = false from HZ.out)
    clear HZ h1
    go_enter Try.func68, Try.ntmps68
    go_wp2_with fail
    refine (H1.out _).mono ?_; rintro e w1 ⟨rfl, rfl⟩
    go_wp2
    go_ret
    exact ⟨ret_bool HZ'.out.symm, (Below.refl _ _).alloc (Nat.le_refl _) _⟩
  | true =>
    cases h2 : plcB t.data.toList with
    | false =>
      rw [h1, h2] at HZ
      rw [h1] at H1; rw [h2] at H2
      have HZ' := Lib.hid (show Z = false from HZ.out)
      clear HZ h1 h2
      go_enter Try.func68, Try.ntmps68
      go_wp2_with fail
      refine (H1.out _).mono ?_; rintro e w1 ⟨rfl, rfl⟩
      go_wp2_with fail
      refine (H2.out _).mono ?_; rintro e w1 ⟨rfl, rfl⟩
      go_wp2
      go_ret
      exact ⟨ret_bool HZ'.out.symm, (Below.refl _ _).alloc (Nat.le_refl _) _⟩
    | true =>
      rw [h1, h2] at HZ
      rw [h1] at H1; rw [h2] at H2
      have HZ' := Lib.hid (show Z = !Op.bytesLess t.toList s.toList from HZ.out)
      clear HZ h1 h2
      go_enter Try.func68, Try.ntmps68
      go_wp2_with fail
      refine (H1.out _).mono ?_; rintro e w1 ⟨rfl, rfl⟩
      go_wp2_with fail
      refine (H2.out _).mono ?_; rintro e w1 ⟨rfl, rfl⟩
      go_wp2
      go_ret
      exact ⟨ret_bool (by rw [HZ'.out, le_not]), (Below.refl _ _).alloc (Nat.le_refl _) _⟩
theorem stepB_bad {l : List Zn} {j : Nat} (h : j < l.length) (hz : zoneB l[j].1 l[j].2 = false) : stepB l j = false := by
  unfold stepB; rw [zAt_get h, hz]; rfl
theorem stepB_zero {l : List Zn} (h : 0 < l.length) (hz : zoneB l[0].1 l[0].2 = true) : stepB l 0 = true := by
  unfold stepB; rw [zAt_get h, hz]; rfl
theorem stepB_succ {l : List Zn} {j : Nat} (h : j + 1 < l.length) (hz : zoneB l[j + 1].1 l[j + 1].2 = true) : stepB l (j + 1) = lt2 l[j].2 l[j + 1].1 := by
  unfold stepB; rw [zAt_get h, hz, Nat.add_sub_cancel, zAt_get (show j < l.length by omega)]; simp
set_option maxRecDepth 100000 in
set_option maxHeartbeats 2000000 in
theorem are_zones (A : Option Addr) (cap : Nat) (l : List Zn) (w : World) (hA : InK 2 zC w A l) (hs : ∀ z ∈ l, z.1.size ≤ maxLen ∧ z.2.size ≤ maxLen) (hn : l.length ≤ 1048576) :
    Calls Try.prog 26 #[.slice A l.length cap] w fun e w' => e = .returned (.bool (areZB l)) ∧ Below w.heap.size w w' := by
  have HA := Lib.hid hA; clear hA
  have HS := Lib.hid hs; clear hs
  by_cases h8 : (8 : Int) < (l.length : Int)
  · go_enter Try.func26, Try.ntmps26
    go_wp2
    go_ret
    exact ⟨ret_bool (areZ_long (by omega)).symm, Below.refl _ _⟩
  · go_enter Try.func26, Try.ntmps26
    go_wp2
    go_loopw [10] (fun i wr => ∃ k : Nat, k ≤ l.length ∧ i = .int .i64 k ∧ Hid (∀ j, j < k → stepB l j = true) ∧ Below w.heap.size w wr) (fun i _ => l.length - (intOf i).toNat)
    case atStart => exact ⟨0, Nat.zero_le _, rfl, Lib.hid (fun j h => by omega), Below.refl _ _⟩
    case round =>
      obtain ⟨k, hk, rfl, hd, hb⟩ := hrel
      by_cases hlt : (k : Int) < (l.length : Int)
      · have hkn : k < l.length := by omega
        have HZ := Lib.hid (HS.out l[k] (List.getElem_mem hkn))
        have hbz := hb.size
        obtain ⟨g, rfl, hg, c0, c1⟩ := (HA.out.below hb).zone k hkn
        have HL := Lib.hid (show ∀ h : 0 < k, wr.cell? ⟨g, (k - 1) * 2 + 1, none⟩ = some (.string (l[k - 1]'(by omega)).2) from fun h => by
          obtain ⟨g', e, _, _, m1⟩ := (HA.out.below hb).zone (k - 1) (by omega)
          cases e; exact m1)
        obtain ⟨s, hs⟩ : ∃ s, s = l[k].1 := ⟨_, rfl⟩
        obtain ⟨t, ht⟩ : ∃ t, t = l[k].2 := ⟨_, rfl⟩
        rw [← hs, ← ht] at HZ
        have HB0 := Lib.hid (show zoneB l[k].1 l[k].2 = zoneB s t by rw [hs, ht])
        have HP := Lib.hid hs
        rw [← hs] at c0; rw [← ht] at c1
        clear hs ht
        have HI := Lib.hid (fun W => is_zone s t W HZ.out.1 HZ.out.2)
        cases hz : zoneB s t with
        | false =>
          have HN := Lib.hid (areZ_no hkn (stepB_bad hkn (HB0.out.trans hz)))
          rw [hz] at HI; clear hz
          go_wp2_with fail
          obtain ⟨W, hW⟩ : ∃ W, W = wr.alloc (.cells #[.string s, .string t] 37) := ⟨_, rfl⟩
          rw [← hW]
          have p0 : W.cell? ⟨wr.heap.size, 0, none⟩ = some (.string s) := by rw [hW]; go_simp
          have p1 : W.cell? ⟨wr.heap.size, 1, none⟩ = some (.string t) := by rw [hW]; go_simp
          have hzW : wr.heap.size < W.heap.size := by rw [hW]; simp
          have bW : Below w.heap.size w W := by rw [hW]; exact hb.alloc hbz _
          have HF0 := far_cell hzW p0; have HF1 := far_cell hzW p1
          clear hW c0 c1 p0 p1
          refine wp_region_far (by kernel_rfl) (by kernel_rfl) ?_
          repeat (any_goals (first | go_big_quiet_step ((go_at_call 68; exact call_far (HI.out _))) | quiet_step ((go_at_call 68; exact call_far (HI.out _)))))
          refine wpQuiet_nil ?_; intro w1 hw1
          have hb1 : Below W.heap.size W w1 := by obtain ⟨x, rfl⟩ := hw1; exact below_far W x
          clear hw1
          all_goals
            go_wp2
            go_ret
            exact ⟨ret_bool HN.out.symm, bW.trans (hb1.mono (by omega))⟩
        | true =>
          rw [hz] at HI
          have HT := Lib.hid (HB0.out.trans hz); clear hz
          cases k with
          | zero =>
            have HN := Lib.hid (stepB_zero hkn HT.out)
            rw [show ((0 : Nat) : Int) = 0 from rfl]
            go_wp2_with fail
            obtain ⟨W, hW⟩ : ∃ W, W = wr.alloc (.cells #[.string s, .string t] 37) := ⟨_, rfl⟩
            rw [← hW]
            have p0 : W.cell? ⟨wr.heap.size, 0, none⟩ = some (.string s) := by rw [hW]; go_simp
            have p1 : W.cell? ⟨wr.heap.size, 1, none⟩ = some (.string t) := by rw [hW]; go_simp
            have hzW : wr.heap.size < W.heap.size := by rw [hW]; simp
            have bW : Below w.heap.size w W := by rw [hW]; exact hb.alloc hbz _
            have HF0 := far_cell hzW p0; have HF1 := far_cell hzW p1
            clear hW c0 c1 p0 p1
            refine wp_region_far (by kernel_rfl) (by kernel_rfl) ?_
            repeat (any_goals (first | go_big_quiet_step ((go_at_call 68; exact call_far (HI.out _))) | quiet_step ((go_at_call 68; exact call_far (HI.out _)))))
            refine wpQuiet_nil ?_; intro w1 hw1
            have hb1 : Below W.heap.size W w1 := by obtain ⟨x, rfl⟩ := hw1; exact below_far W x
            clear hw1
            all_goals
              go_wp2
              go_roundw
              case rel => exact ⟨1, by omega, by go_num, Lib.hid (fun j hj => by obtain rfl : j = 0 := (by omega); exact HN.out), bW.trans (hb1.mono (by omega))⟩
              case measure => simp [intOf]; omega
          | succ k' =>
            have HN := Lib.hid (stepB_succ hkn HT.out)
            obtain ⟨p, hp⟩ : ∃ p, p = (l[k']'(by omega)).2 := ⟨_, rfl⟩
            have hpc : wr.cell? ⟨g, k' * 2 + 1, none⟩ = some (.string p) := by rw [hp]; exact HL.out (by omega)
            have HE := Lib.hid (show stepB l (k' + 1) = Op.bytesLess p.toList s.toList by rw [HN.out, hp, HP.out]; rfl)
            clear hp
            have hk0 : (0 : Int) < ((k' + 1 : Nat) : Int) := by omega
            have hki : ((k' + 1 : Nat) : Int) - 1 = (k' : Int) := by omega
            have hle := le_not s.toList p.toList
            cases hlt2 : Op.bytesLess p.toList s.toList with
            | true =>
              rw [hlt2] at hle HE
              have HSt := Lib.hid HE.out; have HLT := Lib.hid hlt2; clear hlt2
              go_wp2_with fail
              obtain ⟨W, hW⟩ : ∃ W, W = wr.alloc (.cells #[.string s, .string t] 37) := ⟨_, rfl⟩
              rw [← hW]
              have p0 : W.cell? ⟨wr.heap.size, 0, none⟩ = some (.string s) := by rw [hW]; go_simp
              have p1 : W.cell? ⟨wr.heap.size, 1, none⟩ = some (.string t) := by rw [hW]; go_simp
              have hzW : wr.heap.size < W.heap.size := by rw [hW]; simp
              have bW : Below w.heap.size w W := by rw [hW]; exact hb.alloc hbz _
              have p2 : W.cell? ⟨g, k' * 2 + 1, none⟩ = some (.string p) := by rw [hW]; go_simp
              have hgW : g < W.heap.size := by omega
              have HF0 := far_cell hzW p0; have HF1 := far_cell hzW p1; have HF2 := far_cell hgW p2
              clear hW c0 c1 p0 p1 p2
              refine wp_region_far (by kernel_rfl) (by kernel_rfl) ?_
              repeat (any_goals (first | go_big_quiet_step ((go_at_call 68; exact call_far (HI.out _))) | quiet_step ((go_at_call 68; exact call_far (HI.out _)))))
              refine wpQuiet_nil ?_; intro w1 hw1
              have hb1 : Below W.heap.size W w1 := by obtain ⟨x, rfl⟩ := hw1; exact below_far W x
              clear hw1
              all_goals
                go_wp2
                go_roundw
                case rel => exact ⟨k' + 2, by omega, by go_num, Lib.hid (fun j hj => by
                  by_cases e : j = k' + 1
                  · subst e; exact HSt.out
                  · exact hd.out j (by omega)), bW.trans (hb1.mono (by omega))⟩
                case measure => simp [intOf]; omega
            | false =>
              rw [hlt2] at hle HE
              have HSt := Lib.hid (areZ_no hkn HE.out); have HLT := Lib.hid hlt2; clear hlt2
              go_wp2_with fail
              obtain ⟨W, hW⟩ : ∃ W, W = wr.alloc (.cells #[.string s, .string t] 37) := ⟨_, rfl⟩
              rw [← hW]
              have p0 : W.cell? ⟨wr.heap.size, 0, none⟩ = some (.string s) := by rw [hW]; go_simp
              have p1 : W.cell? ⟨wr.heap.size, 1, none⟩ = some (.string t) := by rw [hW]; go_simp
              have hzW : wr.heap.size < W.heap.size := by rw [hW]; simp
              have bW : Below w.heap.size w W := by rw [hW]; exact hb.alloc hbz _
              have p2 : W.cell? ⟨g, k' * 2 + 1, none⟩ = some (.string p) := by rw [hW]; go_simp
              have hgW : g < W.heap.size := by omega
              have HF0 := far_cell hzW p0; have HF1 := far_cell hzW p1; have HF2 := far_cell hgW p2
              clear hW c0 c1 p0 p1 p2
              refine wp_region_far (by kernel_rfl) (by kernel_rfl) ?_
              repeat (any_goals (first | go_big_quiet_step ((go_at_call 68; exact call_far (HI.out _))) | quiet_step ((go_at_call 68; exact call_far (HI.out _)))))
              refine wpQuiet_nil ?_; intro w1 hw1
              have hb1 : Below W.heap.size W w1 := by obtain ⟨x, rfl⟩ := hw1; exact below_far W x
              clear hw1
              all_goals
                go_wp2
                go_ret
                exact ⟨ret_bool HSt.out.symm, bW.trans (hb1.mono (by omega))⟩
      · obtain rfl : k = l.length := by omega
        go_wp2
        go_ret
        exact ⟨ret_bool (areZ_yes (by omega) hd.out).symm, hb⟩
set_option maxRecDepth 100000 in
set_option maxHeartbeats 2000000 in
theorem are_zones_spec (A : Option Addr) (cap : Nat) (l : List Zn) (w : World) (hA : InK 2 zC w A l) (hs : ∀ z ∈ l, z.1.size ≤ maxLen ∧ z.2.size ≤ maxLen) (hn : l.length ≤ 1048576) :
    Calls Try.prog 48 #[.slice A l.length cap] w fun e w' => e = .returned (.bool (areZB l)) ∧ Below w.heap.size w w' := by
  have HA := Lib.hid hA; clear hA
  have HS := Lib.hid hs; clear hs
  go_enter Try.func48, Try.ntmps48
  go_wp2
  go_loopw [3] (fun i wr => ∃ k : Nat, k ≤ l.length ∧ i = .int .i64 k ∧ Hid (∀ j, j < k → stepB l j = true) ∧ Below w.heap.size w wr) (fun i _ => l.length - (intOf i).toNat)
  case atStart => exact ⟨0, Nat.zero_le _, rfl, Lib.hid (fun j h => by omega), Below.refl _ _⟩
  case round =>
    obtain ⟨k, hk, rfl, hd, hb⟩ := hrel
    by_cases hlt : (k : Int) < (l.length : Int)
    · have hkn : k < l.length := by omega
      have HZ := Lib.hid (HS.out l[k] (List.getElem_mem hkn))
      have hbz := hb.size
      obtain ⟨g, rfl, hg, c0, c1⟩ := (HA.out.below hb).zone k hkn
      have HL := Lib.hid (show ∀ h : 0 < k, wr.cell? ⟨g, (k - 1) * 2 + 1, none⟩ = some (.string (l[k - 1]'(by omega)).2) from fun h => by
        obtain ⟨g', e, _, _, m1⟩ := (HA.out.below hb).zone (k - 1) (by omega)
        cases e; exact m1)
      obtain ⟨s, hs⟩ : ∃ s, s = l[k].1 := ⟨_, rfl⟩
      obtain ⟨t, ht⟩ : ∃ t, t = l[k].2 := ⟨_, rfl⟩
      rw [← hs, ← ht] at HZ
      have HB0 := Lib.hid (show zoneB l[k].1 l[k].2 = (plcB s.data.toList && (plcB t.data.toList && !Op.bytesLess t.toList s.toList)) by rw [hs, ht]; rfl)
      have HP := Lib.hid hs
      rw [← hs] at c0; rw [← ht] at c1
      clear hs ht
      have HI1 := Lib.hid (fun W => place_spec s W HZ.out.1)
      have HI2 := Lib.hid (fun W => place_spec t W HZ.out.2)
      have HF0 := far_cell hg c0; have HF1 := far_cell hg c1
      clear c0 c1
      cases h1 : plcB s.data.toList with
      | false =>
        rw [h1] at HI1 HB0
        have HN := Lib.hid (areZ_no hkn (stepB_bad hkn HB0.out)); clear h1
        go_wp2_with fail
        refine wp_region_far (by kernel_rfl) (by kernel_rfl) ?_
        repeat (any_goals (first | go_big_quiet_step ((go_at_call 78; exact call_far_same (HI1.out _))) | quiet_step ((go_at_call 78; exact call_far_same (HI1.out _)))))
        refine wpQuiet_nil ?_; intro w1 hw1
        have hb1 : Below wr.heap.size wr w1 := by obtain ⟨x, rfl⟩ := hw1; exact below_far wr x
        clear hw1
        go_wp2
        go_ret
        exact ⟨ret_bool HN.out.symm, hb.trans (hb1.mono hbz)⟩
      | true =>
        rw [h1] at HI1 HB0
        clear h1
        cases h2 : plcB t.data.toList with
        | false =>
          rw [h2] at HI2 HB0
          have HN := Lib.hid (areZ_no hkn (stepB_bad hkn HB0.out)); clear h2
          go_wp2_with fail
          refine wp_region_far (by kernel_rfl) (by kernel_rfl) ?_
          repeat (any_goals (first | go_big_quiet_step ((go_at_call 78; first | with_reducible exact call_far_same (HI1.out _) | with_reducible exact call_far_same (HI2.out _))) | quiet_step ((go_at_call 78; first | with_reducible exact call_far_same (HI1.out _) | with_reducible exact call_far_same (HI2.out _)))))
          refine wpQuiet_nil ?_; intro w1 hw1
          have hb1 : Below wr.heap.size wr w1 := by obtain ⟨x, rfl⟩ := hw1; exact below_far wr x
          clear hw1
          go_wp2
          go_ret
          exact ⟨ret_bool HN.out.symm, hb.trans (hb1.mono hbz)⟩
        | true =>
          rw [h2] at HI2 HB0
          clear h2
          have hg3 := le_not s.toList t.toList
          cases h3 : Op.bytesLess t.toList s.toList with
          | true =>
            rw [h3] at HB0 hg3
            have HN := Lib.hid (areZ_no hkn (stepB_bad hkn HB0.out))
            go_wp2_with fail
            refine wp_region_far (by kernel_rfl) (by kernel_rfl) ?_
            repeat (any_goals (first | go_big_quiet_step ((go_at_call 78; first | with_reducible exact call_far_same (HI1.out _) | with_reducible exact call_far_same (HI2.out _))) | quiet_step ((go_at_call 78; first | with_reducible exact call_far_same (HI1.out _) | with_reducible exact call_far_same (HI2.out _)))))
            refine wpQuiet_nil ?_; intro w1 hw1
            have hb1 : Below wr.heap.size wr w1 := by obtain ⟨x, rfl⟩ := hw1; exact below_far wr x
            clear hw1
            go_wp2
            go_ret
            exact ⟨ret_bool HN.out.symm, hb.trans (hb1.mono hbz)⟩
          | false =>
            rw [h3] at HB0 hg3
            have HT := Lib.hid HB0.out
            by_cases hk00 : k = 0
            · subst hk00
              have HN := Lib.hid (stepB_zero hkn HT.out)
              rw [show ((0 : Nat) : Int) = 0 from rfl]
              go_wp2_with fail
              refine wp_region_far (by kernel_rfl) (by kernel_rfl) ?_
              repeat (any_goals (first | go_big_quiet_step ((go_at_call 78; first | with_reducible exact call_far_same (HI1.out _) | with_reducible exact call_far_same (HI2.out _))) | quiet_step ((go_at_call 78; first | with_reducible exact call_far_same (HI1.out _) | with_reducible exact call_far_same (HI2.out _)))))
              refine wpQuiet_nil ?_; intro w1 hw1
              have hb1 : Below wr.heap.size wr w1 := by obtain ⟨x, rfl⟩ := hw1; exact below_far wr x
              clear hw1
              go_wp2
              go_roundw
              case rel => exact ⟨1, by omega, by go_num, Lib.hid (fun j hj => by obtain rfl : j = 0 := (by omega); exact HN.out), hb.trans (hb1.mono hbz)⟩
              case measure => simp [intOf]; omega
            · obtain ⟨k', hkk⟩ : ∃ k', k = k' + 1 := ⟨k - 1, by omega⟩
              have HN := Lib.hid (show stepB l k = lt2 (l[k']'(by omega)).2 l[k].1 by subst hkk; exact stepB_succ hkn HT.out)
              obtain ⟨p, hp⟩ : ∃ p, p = (l[k']'(by omega)).2 := ⟨_, rfl⟩
              have hpc : wr.cell? ⟨g, k' * 2 + 1, none⟩ = some (.string p) := by
                have h := HL.out (by omega)
                subst hkk
                rw [hp]; exact h
              have HF2 := far_cell hg hpc
              have HE := Lib.hid (show stepB l k = Op.bytesLess p.toList s.toList by rw [HN.out, hp, HP.out]; rfl)
              clear hp hpc
              have hk0 : (0 : Int) < (k : Int) := by omega
              have hk0a : decide ((0 : Int) < (k : Int)) = true := by simp; omega
              have hk0b : decide (0 < k) = true := by simp; omega
              have hki : (k : Int) - 1 = (k' : Int) := by omega
              have HKK := Lib.hid hkk; clear HN; clear hkk hk00
              cases hlt2 : Op.bytesLess p.toList s.toList with
              | true =>
                rw [hlt2] at HE
                have HSt := Lib.hid HE.out
                go_wp2_with fail
                refine wp_region_far (by kernel_rfl) (by kernel_rfl) ?_
                repeat (any_goals (first | go_big_quiet_step ((go_at_call 78; first | with_reducible exact call_far_same (HI1.out _) | with_reducible exact call_far_same (HI2.out _))) | quiet_step ((go_at_call 78; first | with_reducible exact call_far_same (HI1.out _) | with_reducible exact call_far_same (HI2.out _)))))
                refine wpQuiet_nil ?_; intro w1 hw1
                have hb1 : Below wr.heap.size wr w1 := by obtain ⟨x, rfl⟩ := hw1; exact below_far wr x
                clear hw1
                go_wp2
                go_roundw
                case rel => exact ⟨k + 1, by omega, by go_num, Lib.hid (fun j hj => by
                  by_cases e : j = k
                  · subst e; exact HSt.out
                  · exact hd.out j (by omega)), hb.trans (hb1.mono hbz)⟩
                case measure => simp [intOf]; omega
              | false =>
                rw [hlt2] at HE
                have HSt := Lib.hid (areZ_no hkn HE.out)
                go_wp2_with fail
                refine wp_region_far (by kernel_rfl) (by kernel_rfl) ?_
                repeat (any_goals (first | go_big_quiet_step ((go_at_call 78; first | with_reducible exact call_far_same (HI1.out _) | with_reducible exact call_far_same (HI2.out _))) | quiet_step ((go_at_call 78; first | with_reducible exact call_far_same (HI1.out _) | with_reducible exact call_far_same (HI2.out _)))))
                refine wpQuiet_nil ?_; intro w1 hw1
                have hb1 : Below wr.heap.size wr w1 := by obtain ⟨x, rfl⟩ := hw1; exact below_far wr x
                clear hw1
                go_wp2
                go_ret
                exact ⟨ret_bool HSt.out.symm, hb.trans (hb1.mono hbz)⟩
    · obtain rfl : k = l.length := by omega
      by_cases h8 : l.length ≤ 8
      · have hq : decide ((l.length : Int) ≤ 8) = true := by simp; omega
        have HY := Lib.hid (areZ_yes h8 hd.out)
        go_wp2
        go_ret
        exact ⟨ret_bool (by rw [HY.out]), hb⟩
      · have hq : decide ((l.length : Int) ≤ 8) = false := by simp; omega
        have HY := Lib.hid (areZ_long (show 8 < l.length by omega))
        go_wp2
        go_ret
        exact ⟨ret_bool (by rw [HY.out]), hb⟩
end Go.Proofs.Ytakpeakahofjlaa

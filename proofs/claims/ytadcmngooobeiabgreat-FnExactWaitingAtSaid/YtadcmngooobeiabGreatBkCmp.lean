/- The order of bookings: compareBookings, l6Before. -/
import Derived.Test.YtadcmngooobeiabGreatLoads
import Derived.Test.YtadcmngooobeiabGreatShelfP
import Derived.Deep.RegionHeld3
namespace Go.Proofs.YtadcmngooobeiabGreat
open Go.RowKit
def or3 (a b c : Int) : Int := if a = 0 then (if b = 0 then c else b) else a
set_option maxRecDepth 100000 in
set_option maxHeartbeats 1000000 in
theorem or_three (a b c : Int) (g q : Nat) (w : World) (h0 : w.cell? ⟨g, 0, none⟩ = some (.int .i64 a)) (h1 : w.cell? ⟨g, 1, none⟩ = some (.int .i64 b)) (h2 : w.cell? ⟨g, 2, none⟩ = some (.int .i64 c)) :
    Calls Tryz.prog 116 #[.slice (some ⟨g, 0, none⟩) 3 q] w fun e w' => e = .returned (.int .i64 (or3 a b c)) ∧ w' = w := by
  have hO1 : a ≠ 0 → or3 a b c = a := fun h => if_neg h
  have hO2 : a = 0 → b ≠ 0 → or3 a b c = b := fun h k => by unfold or3; rw [if_pos h, if_neg k]
  have hO3 : a = 0 → b = 0 → or3 a b c = c := fun h k => by unfold or3; rw [if_pos h, if_pos k]
  generalize or3 a b c = R at *
  go_enter Tryz.func116, Tryz.ntmps116
  go_wp2
  go_loopw [8] (fun i wr => ∃ k : Nat, k ≤ 3 ∧ i = .int .i64 k ∧ wr = w ∧ (0 < k → a = 0) ∧ (1 < k → b = 0) ∧ (2 < k → c = 0)) (fun i _ => 3 - (intOf i).toNat)
  case atStart => exact ⟨0, by omega, rfl, rfl, by omega, by omega, by omega⟩
  case round =>
    obtain ⟨k, hk, rfl, rfl, ha, hb, hc⟩ := hrel
    have hkc : k = 0 ∨ k = 1 ∨ k = 2 ∨ k = 3 := by omega
    rcases hkc with rfl | rfl | rfl | rfl
    · by_cases h : a = 0
      · subst h
        go_wp2
        go_roundw
        case rel => exact ⟨1, by omega, by go_num, by simp, by simp, by simp, by simp⟩
        case measure => simp [intOf]
      · have hd : (a == 0) = false := beq_eq_false_iff_ne.2 h
        have hd2 : (a != 0) = true := by simp [h]
        go_wp2
        go_ret
        exact ⟨by rw [hO1 h]; rfl, rfl⟩
    · have ha0 := ha (by omega)
      by_cases h : b = 0
      · subst h
        go_wp2
        go_roundw
        case rel => exact ⟨2, by omega, by go_num, by simp, by simp [ha0], by simp, by simp⟩
        case measure => simp [intOf]
      · have hd : (b == 0) = false := beq_eq_false_iff_ne.2 h
        have hd2 : (b != 0) = true := by simp [h]
        go_wp2
        go_ret
        exact ⟨by rw [hO2 ha0 h]; rfl, rfl⟩
    · have ha0 := ha (by omega); have hb0 := hb (by omega)
      by_cases h : c = 0
      · subst h
        go_wp2
        go_roundw
        case rel => exact ⟨3, by omega, by go_num, by simp, by simp [ha0], by simp [hb0], by simp⟩
        case measure => simp [intOf]
      · have hd : (c == 0) = false := beq_eq_false_iff_ne.2 h
        have hd2 : (c != 0) = true := by simp [h]
        go_wp2
        go_ret
        exact ⟨by rw [hO3 ha0 hb0]; rfl, rfl⟩
    · have ha0 := ha (by omega); have hb0 := hb (by omega); have hc0 := hc (by omega)
      go_wp2
      go_ret
      exact ⟨by rw [hO3 ha0 hb0, hc0]; rfl, rfl⟩
/-- earlier by day, then by leg, then by thing -/
def befB (a b : Bk) : Bool := decide (a.d < b.d ∨ a.d = b.d ∧ (a.g < b.g ∨ a.g = b.g ∧ a.h < b.h))
def cmpB (a b : Bk) : Int := or3 (Lib.compareInt a.d b.d) (Lib.compareInt a.g b.g) (Lib.compareInt a.h b.h)
theorem cmpInt_eq (x y : Int) : Lib.compareInt x y = if x < y then -1 else if y < x then 1 else 0 := by
  unfold Lib.compareInt; rfl
theorem cmpB_lt (a b : Bk) : decide (cmpB a b < 0) = befB a b := by
  unfold cmpB befB or3
  simp only [cmpInt_eq]
  by_cases h1 : a.d < b.d
  · simp [h1]
  · by_cases h2 : b.d < a.d
    · have : ¬ a.d = b.d := by omega
      simp [h1, h2, this]
    · have e : a.d = b.d := by omega
      by_cases h3 : a.g < b.g
      · simp [e, h3]
      · by_cases h4 : b.g < a.g
        · have : ¬ a.g = b.g := by omega
          simp [e, h3, h4, this]
        · have e2 : a.g = b.g := by omega
          by_cases h5 : a.h < b.h
          · simp [e, e2, h5]
          · by_cases h6 : b.h < a.h <;> simp [e, e2, h5, h6]
theorem cmpB_ge (a b : Bk) : decide (0 ≤ cmpB a b) = !befB a b := by
  rw [← cmpB_lt]
  by_cases h : cmpB a b < 0
  · rw [decide_eq_true h, decide_eq_false (by omega)]; rfl
  · rw [decide_eq_false h, decide_eq_true (by omega)]; rfl
set_option maxRecDepth 100000 in
set_option maxHeartbeats 2000000 in
theorem cmp_bk (ah ag ad am bh bg bd bm : Int) (w : World) :
    Calls Tryz.prog 101 #[.agg #[.int .i64 ah, .int .i64 ag, .int .i64 ad, .int .i64 am], .agg #[.int .i64 bh, .int .i64 bg, .int .i64 bd, .int .i64 bm]] w fun e w' => e = .returned (.int .i64 (cmpB ⟨ah, ag, ad, am⟩ ⟨bh, bg, bd, bm⟩)) ∧ Below w.heap.size w w' := by
  have H2 := Lib.hid (two w (.cells #[.int .i64 ah, .int .i64 ag, .int .i64 ad, .int .i64 am] 106) (.cells #[.int .i64 bh, .int .i64 bg, .int .i64 bd, .int .i64 bm] 106))
  have HC := Lib.hid (fun (x y : Int) (W : World) => Tryz.cmp_Compare_int x y W)
  unfold cmpB
  dsimp only
  go_enter Tryz.func101, Tryz.ntmps101
  go_wp2
  generalize hB : w.heap.size = B at *
  have HBE := Lib.hid hB; clear hB
  generalize (w.alloc (.cells #[.int .i64 ah, .int .i64 ag, .int .i64 ad, .int .i64 am] 106)).alloc (.cells #[.int .i64 bh, .int .i64 bg, .int .i64 bd, .int .i64 bm] 106) = W at *
  obtain ⟨h1, h2, h3, h4⟩ := H2.out
  obtain ⟨a0, a1, a2, a3, _, _, _, _⟩ := row4 h1
  obtain ⟨b0, b1, b2, b3, _, _, _, _⟩ := row4 h2
  have H3 := Lib.hid h3
  clear h1 h2 H2 h3
  have HOR := Lib.hid (or_three (Lib.compareInt ad bd) (Lib.compareInt ag bg) (Lib.compareInt ah bh))
  go_region_held3 (fun w' => w'.cell? ⟨B, 0, none⟩ = some (.int .i64 ah) ∧ w'.cell? ⟨B, 1, none⟩ = some (.int .i64 ag) ∧ w'.cell? ⟨B, 2, none⟩ = some (.int .i64 ad) ∧ w'.cell? ⟨B + 1, 0, none⟩ = some (.int .i64 bh) ∧ w'.cell? ⟨B + 1, 1, none⟩ = some (.int .i64 bg) ∧ w'.cell? ⟨B + 1, 2, none⟩ = some (.int .i64 bd))
    (go_keep)
    (first
      | (go_at_call 117; refine (HC.out _ _ _).mono ?_; (rintro e u ⟨rfl, rfl⟩))
      | (go_at_call 116; refine (HOR.out _ _ _ (by rw [← h4]; simp) (by rw [← h4]; simp) (by rw [← h4]; simp)).mono ?_; (rintro e u ⟨rfl, rfl⟩)))
  all_goals
    clear HC HOR
    have HF := Lib.hid (H3.out.alloc (show B ≤ W.heap.size by omega) (.cells #[.int .i64 (Lib.compareInt ad bd), .int .i64 (Lib.compareInt ag bg), .int .i64 (Lib.compareInt ah bh)] 3))
    go_wp2
    go_ret
    exact ⟨rfl, by rw [HBE.out]; first | exact HF.out | exact HF.out.drew⟩
set_option maxRecDepth 100000 in
set_option maxHeartbeats 2000000 in
theorem bef_spec (ah ag ad am bh bg bd bm : Int) (w : World) :
    Calls Tryz.prog 88 #[.agg #[.int .i64 ah, .int .i64 ag, .int .i64 ad, .int .i64 am], .agg #[.int .i64 bh, .int .i64 bg, .int .i64 bd, .int .i64 bm]] w fun e w' => e = .returned (.bool (befB ⟨ah, ag, ad, am⟩ ⟨bh, bg, bd, bm⟩)) ∧ Below w.heap.size w w' := by
  have HF := Lib.hid (two w (.cells #[.int .i64 ah, .int .i64 ag, .int .i64 ad, .int .i64 am] 106) (.cells #[.int .i64 bh, .int .i64 bg, .int .i64 bd, .int .i64 bm] 106)).2.2.1
  by_cases h1 : ad = bd
  · by_cases h2 : ag = bg
    · have hv : befB ⟨ah, ag, ad, am⟩ ⟨bh, bg, bd, bm⟩ = decide (ah < bh) := by unfold befB; simp [h1, h2]
      rw [hv]
      have d1 : (ad != bd) = false := by simp [h1]
      have d2 : (ag != bg) = false := by simp [h2]
      clear hv h1 h2
      go_enter Tryz.func88, Tryz.ntmps88
      go_wp2
      go_ret
      exact ⟨rfl, HF.out⟩
    · have hv : befB ⟨ah, ag, ad, am⟩ ⟨bh, bg, bd, bm⟩ = decide (ag < bg) := by unfold befB; simp [h1, h2]
      rw [hv]
      have d1 : (ad != bd) = false := by simp [h1]
      have d2 : (ag != bg) = true := by simp [h2]
      clear hv h1 h2
      go_enter Tryz.func88, Tryz.ntmps88
      go_wp2
      go_ret
      exact ⟨rfl, HF.out⟩
  · have hv : befB ⟨ah, ag, ad, am⟩ ⟨bh, bg, bd, bm⟩ = decide (ad < bd) := by unfold befB; simp [h1]
    rw [hv]
    have d1 : (ad != bd) = true := by simp [h1]
    clear hv h1
    go_enter Tryz.func88, Tryz.ntmps88
    go_wp2
    go_ret
    exact ⟨rfl, HF.out⟩
end Go.Proofs.YtadcmngooobeiabGreat

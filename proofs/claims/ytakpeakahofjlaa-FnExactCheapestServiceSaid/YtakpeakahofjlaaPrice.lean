/- Contracts of the two texts of PriceOf. -/
import Derived.Test.YtakpeakahofjlaaCharge
import Derived.Test.YtakpeakahofjlaaZoneOf
import Derived.Test.YtakpeakahofjlaaRates2
namespace Go.Proofs.Ytakpeakahofjlaa
open Go.RowKit
def rHit (z s cw : Int) (r : Rt) : Bool := r.z == z && (r.s == s && decide (cw ≤ r.l))
def found (rs : List Rt) (z s cw : Int) : Int × Bool := match (List.range rs.length).find? (fun i => rHit z s cw (rAt rs i)) with
  | some i => ((rAt rs i).p, true)
  | none => (0, false)
def priceOf (zs : List Zn) (rs : List Rt) (a b : Int) (t f : ByteArray) (wt : Int) (sd : List Int) (v : Int) : Int × Bool :=
  if areZB zs && (areRB rs zs.length && parB a b t f wt sd v) then found rs (zoneOf zs t) a (chW a b t f wt sd v) else (0, false)
theorem found_hit {rs : List Rt} {z s cw : Int} {k : Nat} (hk : k < rs.length) (h : ∀ j, j < k → rHit z s cw (rAt rs j) = false) (hz : rHit z s cw (rAt rs k) = true) : found rs z s cw = ((rAt rs k).p, true) := by
  unfold found
  have : (List.range rs.length).find? (fun i => rHit z s cw (rAt rs i)) = some k := by
    rw [List.find?_range_eq_some]
    exact ⟨hz, List.mem_range.2 hk, fun j hj => by simp [h j hj]⟩
  rw [this]
theorem found_none {rs : List Rt} {z s cw : Int} (h : ∀ j, j < rs.length → rHit z s cw (rAt rs j) = false) : found rs z s cw = (0, false) := by
  unfold found
  have : (List.range rs.length).find? (fun i => rHit z s cw (rAt rs i)) = none := by
    rw [List.find?_eq_none]
    intro j hj
    simp [h j (List.mem_range.1 hj)]
  rw [this]
def Pr (q : Int × Bool) : Value := .tuple #[.int .i64 q.1, .bool q.2]
theorem ret_pr {a : Int} {b : Bool} {q : Int × Bool} (h : q = (a, b)) : Ending.returned (.tuple #[.int .i64 a, .bool b]) = .returned (Pr q) := by rw [h]; rfl
theorem ret_pr2 {q : Int × Bool} {x : Value × Value} (h : x = (.int .i64 q.1, .bool q.2)) : Ending.returned (.tuple #[x.1, x.2]) = .returned (Pr q) := by rw [h]; rfl
set_option maxRecDepth 100000 in
set_option maxHeartbeats 8000000 in
theorem price (A : Option Addr) (ca : Nat) (zs : List Zn) (R : Option Addr) (cr : Nat) (rs : List Rt) (a b : Int) (t f : ByteArray) (wt : Int) (S : Option Addr) (cs : Nat) (sd : List Int) (v : Int) (w : World)
    (hA : InK 2 zC w A zs) (hz : ∀ z ∈ zs, z.1.size ≤ maxLen ∧ z.2.size ≤ maxLen) (hzn : zs.length ≤ 1048576) (hR : InK 4 rC w R rs) (hrn : rs.length ≤ 1048576) (ht : t.size ≤ maxLen) (hf : f.size ≤ maxLen) (hS : IntsIn w S sd) (hsn : sd.length ≤ 1048576) :
    Calls Try.prog 31 #[.slice A zs.length ca, .slice R rs.length cr, .agg #[.int .i64 a, .int .i64 b, .string t, .string f, .int .i64 wt, .slice S sd.length cs, .int .i64 v]] w fun e w' => e = .returned (Pr (priceOf zs rs a b t f wt sd v)) ∧ Below w.heap.size w w' := by
  have hB0 := BoxP.new (T := 42) (a := a) (b := b) (t := t) (f := f) (wt := wt) (S := .slice S sd.length cs) (v := v) w
  have hb0 := (Below.refl w.heap.size w).alloc (Nat.le_refl _) (.cells #[.int .i64 a, .int .i64 b, .string t, .string f, .int .i64 wt, .slice S sd.length cs, .int .i64 v] 42)
  have H0 := Lib.hid (And.intro hB0 (And.intro hb0 (And.intro (hA.below hb0) (And.intro (hR.below hb0) (hS.below hb0))))); clear hB0 hb0 hA hR hS
  have HZ := Lib.hid (fun W (h : InK 2 zC W A zs) => are_zones A ca zs W h hz hzn)
  have HRt := Lib.hid (fun W (h : InK 4 rC W R rs) => are_rates R cr rs zs.length W h hrn)
  have HP := Lib.hid (fun W (h : IntsIn W S sd) => is_parcel a b t f wt S cs sd v W ht hf h hsn)
  have HO := Lib.hid (fun W (h : InK 2 zC W A zs) => zone_of A ca zs t W h hz hzn ht)
  have HC := Lib.hid (fun W (h : IntsIn W S sd) => charge a b t f wt S cs sd v W ht hf h hsn)
  have HQ := Lib.hid (show priceOf zs rs a b t f wt sd v = if areZB zs && (areRB rs zs.length && parB a b t f wt sd v) then found rs (zoneOf zs t) a (chW a b t f wt sd v) else (0, false) from rfl)
  generalize priceOf zs rs a b t f wt sd v = Q at *
  clear hz ht hf
  cases h1 : areZB zs with
  | false =>
    rw [h1] at HZ HQ; clear h1
    have HE := Lib.hid (show Q = (0, false) from HQ.out)
    go_enter Try.func31, Try.ntmps31
    obtain ⟨c0, c1, c2, c3, c4, c5, c6⟩ := H0.out.1.cells
    go_wp2_with fail
    clear c0 c1 c2 c3 c4 c5 c6
    generalize hB : w.heap.size = B at *
    have HBE := Lib.hid hB; clear hB
    generalize w.alloc (.cells #[.int .i64 a, .int .i64 b, .string t, .string f, .int .i64 wt, .slice S sd.length cs, .int .i64 v] 42) = W at *
    refine (HZ.out W H0.out.2.2.1).mono ?_; rintro e w1 ⟨rfl, hb1⟩
    have Q1 := Lib.hid (And.intro (H0.out.1.below hb1) (And.intro (H0.out.2.1.trans (hb1.mono (Nat.le_of_lt H0.out.1.lt))) (And.intro (H0.out.2.2.1.below hb1) (And.intro (H0.out.2.2.2.1.below hb1) (H0.out.2.2.2.2.below hb1))))); clear hb1
    go_wp2
    go_ret2
    exact ⟨ret_pr HE.out, by rw [HBE.out]; exact Q1.out.2.1⟩
  | true =>
  rw [h1] at HZ HQ; clear h1
  cases h2 : areRB rs zs.length with
  | false =>
    rw [h2] at HRt HQ; clear h2
    have HE := Lib.hid (show Q = (0, false) from HQ.out)
    go_enter Try.func31, Try.ntmps31
    obtain ⟨c0, c1, c2, c3, c4, c5, c6⟩ := H0.out.1.cells
    go_wp2_with fail
    clear c0 c1 c2 c3 c4 c5 c6
    generalize hB : w.heap.size = B at *
    have HBE := Lib.hid hB; clear hB
    generalize w.alloc (.cells #[.int .i64 a, .int .i64 b, .string t, .string f, .int .i64 wt, .slice S sd.length cs, .int .i64 v] 42) = W at *
    refine (HZ.out W H0.out.2.2.1).mono ?_; rintro e w1 ⟨rfl, hb1⟩
    have Q1 := Lib.hid (And.intro (H0.out.1.below hb1) (And.intro (H0.out.2.1.trans (hb1.mono (Nat.le_of_lt H0.out.1.lt))) (And.intro (H0.out.2.2.1.below hb1) (And.intro (H0.out.2.2.2.1.below hb1) (H0.out.2.2.2.2.below hb1))))); clear hb1
    go_wp2_with fail
    refine (HRt.out w1 Q1.out.2.2.2.1).mono ?_; rintro e w2 ⟨rfl, hb2⟩
    have Q2 := Lib.hid (And.intro (Q1.out.1.below hb2) (And.intro (Q1.out.2.1.trans (hb2.mono (Nat.le_of_lt Q1.out.1.lt))) (And.intro (Q1.out.2.2.1.below hb2) (And.intro (Q1.out.2.2.2.1.below hb2) (Q1.out.2.2.2.2.below hb2))))); clear hb2
    go_wp2
    go_ret2
    exact ⟨ret_pr HE.out, by rw [HBE.out]; exact Q2.out.2.1⟩
  | true =>
  rw [h2] at HRt HQ; clear h2
  cases h3 : parB a b t f wt sd v with
  | false =>
    rw [h3] at HP HQ; clear h3
    have HE := Lib.hid (show Q = (0, false) from HQ.out)
    go_enter Try.func31, Try.ntmps31
    obtain ⟨c0, c1, c2, c3, c4, c5, c6⟩ := H0.out.1.cells
    go_wp2_with fail
    clear c0 c1 c2 c3 c4 c5 c6
    generalize hB : w.heap.size = B at *
    have HBE := Lib.hid hB; clear hB
    generalize w.alloc (.cells #[.int .i64 a, .int .i64 b, .string t, .string f, .int .i64 wt, .slice S sd.length cs, .int .i64 v] 42) = W at *
    refine (HZ.out W H0.out.2.2.1).mono ?_; rintro e w1 ⟨rfl, hb1⟩
    have Q1 := Lib.hid (And.intro (H0.out.1.below hb1) (And.intro (H0.out.2.1.trans (hb1.mono (Nat.le_of_lt H0.out.1.lt))) (And.intro (H0.out.2.2.1.below hb1) (And.intro (H0.out.2.2.2.1.below hb1) (H0.out.2.2.2.2.below hb1))))); clear hb1
    go_wp2_with fail
    refine (HRt.out w1 Q1.out.2.2.2.1).mono ?_; rintro e w2 ⟨rfl, hb2⟩
    have Q2 := Lib.hid (And.intro (Q1.out.1.below hb2) (And.intro (Q1.out.2.1.trans (hb2.mono (Nat.le_of_lt Q1.out.1.lt))) (And.intro (Q1.out.2.2.1.below hb2) (And.intro (Q1.out.2.2.2.1.below hb2) (Q1.out.2.2.2.2.below hb2))))); clear hb2
    obtain ⟨c0, c1, c2, c3, c4, c5, c6⟩ := Q2.out.1.cells
    go_wp2_with fail
    clear c0 c1 c2 c3 c4 c5 c6
    refine (HP.out w2 Q2.out.2.2.2.2).mono ?_; rintro e w3 ⟨rfl, hb3⟩
    have Q3 := Lib.hid (And.intro (Q2.out.1.below hb3) (And.intro (Q2.out.2.1.trans (hb3.mono (Nat.le_of_lt Q2.out.1.lt))) (And.intro (Q2.out.2.2.1.below hb3) (And.intro (Q2.out.2.2.2.1.below hb3) (Q2.out.2.2.2.2.below hb3))))); clear hb3
    go_wp2
    go_ret2
    exact ⟨ret_pr HE.out, by rw [HBE.out]; exact Q3.out.2.1⟩
  | true =>
  rw [h3] at HP HQ; clear h3
  have HE := Lib.hid (show Q = found rs (zoneOf zs t) a (chW a b t f wt sd v) from HQ.out)
  have hzb := zoneOf_bd zs t
  have hcb := chW_bd a b t f wt sd v
  generalize zoneOf zs t = z at *
  generalize chW a b t f wt sd v = cw at *
  obtain ⟨hz0, hz1⟩ := hzb
  obtain ⟨hc0, hc1⟩ := hcb
  go_enter Try.func31, Try.ntmps31
  obtain ⟨c0, c1, c2, c3, c4, c5, c6⟩ := H0.out.1.cells
  go_wp2_with fail
  clear c0 c1 c2 c3 c4 c5 c6
  generalize hB : w.heap.size = B at *
  have HBE := Lib.hid hB; clear hB
  generalize w.alloc (.cells #[.int .i64 a, .int .i64 b, .string t, .string f, .int .i64 wt, .slice S sd.length cs, .int .i64 v] 42) = W at *
  refine (HZ.out W H0.out.2.2.1).mono ?_; rintro e w1 ⟨rfl, hb1⟩
  have Q1 := Lib.hid (And.intro (H0.out.1.below hb1) (And.intro (H0.out.2.1.trans (hb1.mono (Nat.le_of_lt H0.out.1.lt))) (And.intro (H0.out.2.2.1.below hb1) (And.intro (H0.out.2.2.2.1.below hb1) (H0.out.2.2.2.2.below hb1))))); clear hb1
  go_wp2_with fail
  refine (HRt.out w1 Q1.out.2.2.2.1).mono ?_; rintro e w2 ⟨rfl, hb2⟩
  have Q2 := Lib.hid (And.intro (Q1.out.1.below hb2) (And.intro (Q1.out.2.1.trans (hb2.mono (Nat.le_of_lt Q1.out.1.lt))) (And.intro (Q1.out.2.2.1.below hb2) (And.intro (Q1.out.2.2.2.1.below hb2) (Q1.out.2.2.2.2.below hb2))))); clear hb2
  obtain ⟨c0, c1, c2, c3, c4, c5, c6⟩ := Q2.out.1.cells
  go_wp2_with fail
  clear c0 c1 c2 c3 c4 c5 c6
  refine (HP.out w2 Q2.out.2.2.2.2).mono ?_; rintro e w3 ⟨rfl, hb3⟩
  have Q3 := Lib.hid (And.intro (Q2.out.1.below hb3) (And.intro (Q2.out.2.1.trans (hb3.mono (Nat.le_of_lt Q2.out.1.lt))) (And.intro (Q2.out.2.2.1.below hb3) (And.intro (Q2.out.2.2.2.1.below hb3) (Q2.out.2.2.2.2.below hb3))))); clear hb3
  obtain ⟨c0, c1, c2, c3, c4, c5, c6⟩ := Q3.out.1.cells
  have hBl := Q3.out.1.lt
  have F0 := far_cell hBl c0; have F1 := far_cell hBl c1; have F2 := far_cell hBl c2; have F3 := far_cell hBl c3; have F4 := far_cell hBl c4; have F5 := far_cell hBl c5; have F6 := far_cell hBl c6
  clear c0 c1 c2 c3 c4 c5 c6
  go_wp2_with fail
  refine wp_region_far (by kernel_rfl) (by kernel_rfl) ?_
  repeat (any_goals (first | go_big_quiet_step ((first | (go_at_call 25; with_reducible exact call_far (HO.out _ (Q3.out.2.2.1.below (below_far _ _)))) | (go_at_call 46; with_reducible exact call_far (HC.out _ (Q3.out.2.2.2.2.below (below_far _ _)))))) | quiet_step ((first | (go_at_call 25; with_reducible exact call_far (HO.out _ (Q3.out.2.2.1.below (below_far _ _)))) | (go_at_call 46; with_reducible exact call_far (HC.out _ (Q3.out.2.2.2.2.below (below_far _ _))))))))
  refine wpQuiet_nil ?_; intro w4 hw4
  have hb4 : Below w3.heap.size w3 w4 := by obtain ⟨x, rfl⟩ := hw4; exact below_far w3 x
  clear hw4 F0 F1 F2 F3 F4 F5 F6
  have Q4 := Lib.hid (And.intro (Q3.out.1.below hb4) (And.intro (Q3.out.2.1.trans (hb4.mono (Nat.le_of_lt Q3.out.1.lt))) (Q3.out.2.2.2.1.below hb4))); clear hb4
  clear Q1 Q2 Q3 H0
  have hB4 := Q4.out.1.lt
  go_wp2
  go_loopw [36] (fun i wr => ∃ k : Nat, k ≤ rs.length ∧ i = .int .i64 k ∧ Hid (∀ j, j < k → rHit z a cw (rAt rs j) = false) ∧ Below w4.heap.size w4 wr) (fun i _ => rs.length - (intOf i).toNat)
  case atStart => exact ⟨0, Nat.zero_le _, rfl, Lib.hid (fun j h => by omega), Below.refl _ _⟩
  case round =>
    obtain ⟨k, hk, rfl, hd, hb⟩ := hrel
    by_cases hlt : (k : Int) < (rs.length : Int)
    · have hkn : k < rs.length := by omega
      have hbz := hb.size
      have hBr : B < wr.heap.size := by omega
      obtain ⟨g, rfl, hg, d0, d1, d2, d3⟩ := (Q4.out.2.2.below hb).rate k hkn
      obtain ⟨c0, c1, c2, c3, c4, c5, c6⟩ := (Q4.out.1.below hb).cells
      have HG := Lib.hid (rAt_get hkn)
      obtain ⟨rz, hrz⟩ : ∃ x, x = rs[k].z := ⟨_, rfl⟩
      obtain ⟨rs', hrs⟩ : ∃ x, x = rs[k].s := ⟨_, rfl⟩
      obtain ⟨rl, hrl⟩ : ∃ x, x = rs[k].l := ⟨_, rfl⟩
      obtain ⟨rp, hrp⟩ : ∃ x, x = rs[k].p := ⟨_, rfl⟩
      rw [← hrz] at d0; rw [← hrs] at d1; rw [← hrl] at d2; rw [← hrp] at d3
      have HH := Lib.hid (show rHit z a cw (rAt rs k) = (rz == z && (rs' == a && decide (cw ≤ rl))) by rw [HG.out, hrz, hrs, hrl]; rfl)
      have HPp := Lib.hid (show (rAt rs k).p = rp by rw [HG.out, hrp])
      clear hrz hrs hrl hrp
      have hgB : g < wr.heap.size := hg
      by_cases e1 : rz = z
      rotate_left
      · have q1 : (rz == z) = false := by simpa using e1
        have HM := Lib.hid (show rHit z a cw (rAt rs k) = false by rw [HH.out, q1]; rfl)
        clear e1
        go_wp2
        go_roundw
        case rel => exact ⟨k + 1, by omega, by go_num, Lib.hid (fun j hj => by
          by_cases e : j = k
          · subst e; exact HM.out
          · exact hd.out j (by omega)), hb.alloc hbz _⟩
        case measure => simp [intOf]; omega
      have q1 : (rz == z) = true := by simpa using e1
      clear e1
      by_cases e2 : rs' = a
      rotate_left
      · have q2 : (rs' == a) = false := by simpa using e2
        have HM := Lib.hid (show rHit z a cw (rAt rs k) = false by rw [HH.out, q1, q2]; rfl)
        clear e2
        go_wp2
        go_roundw
        case rel => exact ⟨k + 1, by omega, by go_num, Lib.hid (fun j hj => by
          by_cases e : j = k
          · subst e; exact HM.out
          · exact hd.out j (by omega)), hb.alloc hbz _⟩
        case measure => simp [intOf]; omega
      have q2 : (rs' == a) = true := by simpa using e2
      clear e2
      by_cases e3 : cw ≤ rl
      rotate_left
      · have q3 : decide (cw ≤ rl) = false := by simpa using e3
        have HM := Lib.hid (show rHit z a cw (rAt rs k) = false by rw [HH.out, q1, q2, q3]; rfl)
        go_wp2
        go_roundw
        case rel => exact ⟨k + 1, by omega, by go_num, Lib.hid (fun j hj => by
          by_cases e : j = k
          · subst e; exact HM.out
          · exact hd.out j (by omega)), hb.alloc hbz _⟩
        case measure => simp [intOf]; omega
      have q3 : decide (cw ≤ rl) = true := by simpa using e3
      have HM := Lib.hid (show Q = (rp, true) by rw [HE.out, found_hit hkn hd.out (by rw [HH.out, q1, q2, q3]; rfl), HPp.out])
      go_wp2
      go_ret2
      exact ⟨ret_pr HM.out, by rw [HBE.out]; exact (Q4.out.2.1.trans ((hb.alloc hbz _).mono (Nat.le_of_lt hB4)))⟩
    · obtain rfl : k = rs.length := by omega
      have HM := Lib.hid (show Q = (0, false) by rw [HE.out, found_none hd.out])
      go_wp2
      go_ret2
      exact ⟨ret_pr HM.out, by rw [HBE.out]; exact (Q4.out.2.1.trans (hb.mono (Nat.le_of_lt hB4)))⟩
end Go.Proofs.Ytakpeakahofjlaa

/- Contracts of the two texts of CheapestService. -/
import Derived.Test.YtakpeakahofjlaaPrice2
import Derived.Test.YtakpeakahofjlaaToParcel
namespace Go.Proofs.Ytakpeakahofjlaa
open Go.RowKit
def chStep (q : Int × Bool) (s : Int) (c : Int × Int) : Int × Int := if q.2 && (c.1 == 0 || decide (q.1 < c.2)) then (s, q.1) else c
def accK (P : Int → Int × Bool) : Nat → Int × Int
  | 0 => (0, 0)
  | k + 1 => chStep (P (k + 1)) (k + 1) (accK P k)
def cheapOf (zs : List Zn) (rs : List Rt) (b : Int) (t f : ByteArray) (wt : Int) (sd : List Int) (v : Int) : Int × Int := accK (fun s => priceOf zs rs s b t f wt sd v) 3
def Pr2 (q : Int × Int) : Value := .tuple #[.int .i64 q.1, .int .i64 q.2]
theorem ret_pr3 {a b : Int} {q : Int × Int} (h : (a, b) = q) : Ending.returned (.tuple #[.int .i64 a, .int .i64 b]) = .returned (Pr2 q) := by rw [← h]; rfl
theorem BoxP.setA {T : TypeId} {W : World} {B : Nat} {a b : Int} {t f : ByteArray} {wt : Int} {S : Value} {v : Int} (h : BoxP T W B a b t f wt S v) (x : Int) : BoxP T (W.setCell ⟨B, 0, none⟩ (.int .i64 x)) B x b t f wt S v := heap_set h 0 (.int .i64 x)
set_option maxRecDepth 100000 in
set_option maxHeartbeats 4000000 in
theorem cheap (A : Option Addr) (ca : Nat) (zs : List Zn) (R : Option Addr) (cr : Nat) (rs : List Rt) (a b : Int) (t f : ByteArray) (wt : Int) (S : Option Addr) (cs : Nat) (sd : List Int) (v : Int) (w : World)
    (hA : InK 2 zC w A zs) (hz : ∀ z ∈ zs, z.1.size ≤ maxLen ∧ z.2.size ≤ maxLen) (hzn : zs.length ≤ 1048576) (hR : InK 4 rC w R rs) (hrn : rs.length ≤ 1048576) (ht : t.size ≤ maxLen) (hf : f.size ≤ maxLen) (hS : IntsIn w S sd) (hsn : sd.length ≤ 1048576) :
    Calls Try.prog 29 #[.slice A zs.length ca, .slice R rs.length cr, .agg #[.int .i64 a, .int .i64 b, .string t, .string f, .int .i64 wt, .slice S sd.length cs, .int .i64 v]] w fun e w' => e = .returned (Pr2 (cheapOf zs rs b t f wt sd v)) ∧ Below w.heap.size w w' := by
  have hB0 := BoxP.new (T := 42) (a := a) (b := b) (t := t) (f := f) (wt := wt) (S := .slice S sd.length cs) (v := v) w
  have hb0 := (Below.refl w.heap.size w).alloc (Nat.le_refl _) (.cells #[.int .i64 a, .int .i64 b, .string t, .string f, .int .i64 wt, .slice S sd.length cs, .int .i64 v] 42)
  have H0 := Lib.hid (And.intro hB0 hb0); clear hB0 hb0
  have HI := Lib.hid (And.intro hA (And.intro hR hS)); clear hA hR hS
  have HP := Lib.hid (fun (x : Int) W (h1 : InK 2 zC W A zs) (h2 : InK 4 rC W R rs) (h3 : IntsIn W S sd) => price A ca zs R cr rs x b t f wt S cs sd v W h1 hz hzn h2 hrn ht hf h3 hsn)
  have HE := Lib.hid (show cheapOf zs rs b t f wt sd v = accK (fun s => priceOf zs rs s b t f wt sd v) 3 from rfl)
  have HPP := Lib.hid (show ∀ x, priceOf zs rs x b t f wt sd v = (fun s => priceOf zs rs s b t f wt sd v) x from fun x => rfl)
  generalize cheapOf zs rs b t f wt sd v = Q at *
  generalize hPf : (fun s => priceOf zs rs s b t f wt sd v) = P at *
  clear hPf hz ht hf
  go_enter Try.func29, Try.ntmps29
  go_wp2
  generalize hB : w.heap.size = B at *
  have HBE := Lib.hid hB; clear hB
  generalize w.alloc (.cells #[.int .i64 a, .int .i64 b, .string t, .string f, .int .i64 wt, .slice S sd.length cs, .int .i64 v] 42) = W at *
  go_loopw [8, 9, 10] (fun c l s wr => ∃ (k : Nat) (c' l' x : Int), k ≤ 3 ∧ s = .int .i64 ((k : Int) + 1) ∧ c = .int .i64 c' ∧ l = .int .i64 l' ∧ Hid ((c', l') = accK P k) ∧ BoxP 42 wr B x b t f wt (.slice S sd.length cs) v ∧ Below B w wr) (fun _ _ s _ => 4 - (intOf s).toNat)
  case atStart => exact ⟨0, 0, 0, a, by omega, rfl, rfl, rfl, Lib.hid rfl, H0.out.1, H0.out.2⟩
  case round =>
    obtain ⟨k, c, l, x, hk, rfl, rfl, rfl, hacc, hbox, hb⟩ := hrel
    clear H0
    by_cases hlt : (k : Int) + 1 ≤ 3
    · have hB := hbox.lt
      obtain ⟨c0, c1, c2, c3, c4, c5, c6⟩ := hbox.cells
      have f0 := hbox.free 0
      have Q1 := Lib.hid (And.intro (hbox.setA ((k : Int) + 1)) (hb.setCell (p := ⟨B, 0, none⟩) (Nat.le_refl _) (.int .i64 ((k : Int) + 1))))
      have HBx := Lib.hid hbox; clear hbox
      go_wp2_with fail
      clear c0 c1 c2 c3 c4 c5 c6 f0
      generalize wr.setCell ⟨B, 0, none⟩ (.int .i64 ((k : Int) + 1)) = W1 at *
      have hBW : B < W1.heap.size := Q1.out.1.lt
      refine (HP.out ((k : Int) + 1) W1 (HI.out.1.below (by rw [HBE.out]; exact Q1.out.2)) (HI.out.2.1.below (by rw [HBE.out]; exact Q1.out.2)) (HI.out.2.2.below (by rw [HBE.out]; exact Q1.out.2))).mono ?_; rintro e w2 ⟨rfl, hb2⟩
      have Q2 := Lib.hid (And.intro (Q1.out.1.below hb2) (Q1.out.2.trans (hb2.mono (Nat.le_of_lt hBW)))); clear hb2
      have HN := Lib.hid (show accK P (k + 1) = chStep (priceOf zs rs ((k : Int) + 1) b t f wt sd v) ((k : Int) + 1) (c, l) by rw [hacc.out, HPP.out]; rfl)
      obtain ⟨⟨p, ok⟩, hpo⟩ : ∃ q, q = priceOf zs rs ((k : Int) + 1) b t f wt sd v := ⟨_, rfl⟩
      rw [← hpo] at HN ⊢
      clear hpo
      rw [show Pr (p, ok) = .tuple #[.int .i64 p, .bool ok] from rfl]
      cases ok with
      | false =>
        have HM := Lib.hid (show (c, l) = accK P (k + 1) by rw [HN.out]; rfl)
        go_wp2
        go_roundw
        case rel => exact ⟨k + 1, c, l, ((k : Int) + 1), by omega, by go_num, rfl, rfl, Lib.hid HM.out, Q2.out.1, Q2.out.2⟩
        case measure => simp [intOf]; omega
      | true =>
        by_cases e1 : c = 0
        · have q1 : (c == 0) = true := by simpa using e1
          have HM := Lib.hid (show ((k : Int) + 1, p) = accK P (k + 1) by rw [HN.out]; simp [chStep, e1])
          clear e1
          go_wp2
          go_roundw
          case rel => exact ⟨k + 1, ((k : Int) + 1), p, ((k : Int) + 1), by omega, by go_num, rfl, rfl, Lib.hid HM.out, Q2.out.1, Q2.out.2⟩
          case measure => simp [intOf]; omega
        · have q1 : (c == 0) = false := by simpa using e1
          by_cases e2 : p < l
          · have q2 : decide (p < l) = true := by simpa using e2
            have HM := Lib.hid (show ((k : Int) + 1, p) = accK P (k + 1) by rw [HN.out]; simp [chStep, e2])
            clear e1
            go_wp2
            go_roundw
            case rel => exact ⟨k + 1, ((k : Int) + 1), p, ((k : Int) + 1), by omega, by go_num, rfl, rfl, Lib.hid HM.out, Q2.out.1, Q2.out.2⟩
            case measure => simp [intOf]; omega
          · have q2 : decide (p < l) = false := by simpa using e2
            have HM := Lib.hid (show (c, l) = accK P (k + 1) by rw [HN.out]; simp [chStep, e1, e2])
            clear e1
            go_wp2
            go_roundw
            case rel => exact ⟨k + 1, c, l, ((k : Int) + 1), by omega, by go_num, rfl, rfl, Lib.hid HM.out, Q2.out.1, Q2.out.2⟩
            case measure => simp [intOf]; omega
    · obtain rfl : k = 3 := by omega
      have HM := Lib.hid (show (c, l) = Q by rw [HE.out]; exact hacc.out)
      go_wp2
      go_ret2
      exact ⟨ret_pr3 HM.out, by rw [HBE.out]; exact hb⟩
end Go.Proofs.Ytakpeakahofjlaa

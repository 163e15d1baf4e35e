/- Percents: ArePercents, both texts. Written by hand. -/
import Derived.Test.YtadcmngooobeiaaBa
import Derived.Deep.Cut
namespace Go.Proofs.Ytadcmngooobeiaa
open Go.RowKit
def okP (l : List Int) (i : Nat) (h : i < l.length) : Prop := (0 ≤ l[i] ∧ l[i] ≤ 100) ∧ (i = 0 ∨ l[i - 1]'(by omega) ≤ l[i])
instance (l : List Int) (i : Nat) (h : i < l.length) : Decidable (okP l i h) := by unfold okP; exact inferInstance
def percB (l : List Int) : Bool := decide ((1 ≤ l.length ∧ l.length ≤ 6) ∧ ∀ i (h : i < l.length), okP l i h)
/-- never decreasing -/
def upB (l : List Int) : Bool := decide (∀ i (h : i < l.length), 0 < i → l[i - 1]'(by omega) ≤ l[i])
theorem up_le {l : List Int} (h : upB l = true) : ∀ j i (hj : j < l.length) (_ : i ≤ j), l[i]'(by omega) ≤ l[j] := by
  have h' := of_decide_eq_true h
  intro j
  induction j with
  | zero => intro i hj hij; have : i = 0 := by omega
            subst this; exact Int.le_refl _
  | succ j ih =>
    intro i hj hij
    by_cases e : i = j + 1
    · subst e; exact Int.le_refl _
    · have h1 := ih i (by omega) (by omega)
      have h2 := h' (j + 1) hj (by omega)
      simp only [Nat.add_sub_cancel] at h2
      omega
theorem wrapP_id {x : Int} (h : -9223372036854775808 ≤ x ∧ x ≤ 9223372036854775807) : wrap64 x = x := by unfold wrap64; omega
/-- as the program says it -/
theorem perc_eq (l : List Int) : percB l = (decide (1 ≤ l.length) && (decide (l.length ≤ 6) && (upB l && (decide (0 ≤ l.getD 0 0) && decide (l.getD (l.length - 1) 0 ≤ 100))))) := by
  by_cases h1 : 1 ≤ l.length
  · rw [decide_eq_true h1, Bool.true_and]
    by_cases h6 : l.length ≤ 6
    · rw [decide_eq_true h6, Bool.true_and]
      have e0 : l.getD 0 0 = l[0]'(by omega) := by
        unfold List.getD; rw [List.getElem?_eq_getElem (by omega)]; rfl
      have e1 : l.getD (l.length - 1) 0 = l[l.length - 1]'(by omega) := by
        unfold List.getD; rw [List.getElem?_eq_getElem (by omega)]; rfl
      rw [e0, e1]
      rw [Bool.eq_iff_iff]
      simp only [Bool.and_eq_true, decide_eq_true_eq]
      unfold percB
      rw [decide_eq_true_eq]
      constructor
      · rintro ⟨_, h⟩
        refine ⟨decide_eq_true (fun i hi h0 => ?_), (h 0 (by omega)).1.1, (h (l.length - 1) (by omega)).1.2⟩
        rcases (h i hi).2 with e | e
        · omega
        · exact e
      · rintro ⟨hu, ha, hb⟩
        refine ⟨⟨h1, h6⟩, fun i hi => ⟨⟨?_, ?_⟩, ?_⟩⟩
        · have := up_le hu i 0 hi (by omega); omega
        · have := up_le hu (l.length - 1) i (by omega) (by omega); omega
        · by_cases h0 : i = 0
          · exact .inl h0
          · exact .inr (of_decide_eq_true hu i hi (by omega))
    · rw [decide_eq_false h6, Bool.false_and]
      exact decide_eq_false (fun h => h6 h.1.2)
  · rw [decide_eq_false h1, Bool.false_and]
    exact decide_eq_false (fun h => h1 h.1.1)
theorem perc_no {l : List Int} {i : Nat} (h : i < l.length) (e : ¬ okP l i h) : percB l = false := decide_eq_false (fun h' => e (h'.2 i h))
set_option maxRecDepth 100000 in
set_option maxHeartbeats 2000000 in
theorem perc_spec (A : Option Addr) (ca : Nat) (l : List Int) (w : World) (hA : IntsIn w A l) (hn : l.length ≤ 1048576) :
    Calls Try.prog 36 #[.slice A l.length ca] w fun e w' => e = .returned (.bool (percB l)) ∧ Below w.heap.size w w' := by
  have HA := Lib.hid hA; clear hA
  have HNO := Lib.hid (fun j (h : j < l.length) e => perc_no (l := l) h e)
  have HEND := Lib.hid (fun (h : ∀ i (h : i < l.length), okP l i h) => show percB l = inB (l.length : Int) 1 6 by
    unfold percB inB
    exact decide_eq_decide.2 ⟨fun h' => by have := h'.1; omega, fun h' => ⟨by omega, h⟩⟩)
  generalize percB l = V at *
  go_enter Try.func36, Try.ntmps36
  go_wp2
  go_loopw [3] (fun i wr => ∃ j : Nat, i = .int .i64 j ∧ j ≤ l.length ∧ Hid (∀ i (h : i < l.length), i < j → okP l i h) ∧ Hid (Below w.heap.size w wr)) (fun i _ => l.length - (intOf i).toNat)
  case atStart => exact ⟨0, rfl, Nat.zero_le _, Lib.hid (fun i _ h => absurd h (Nat.not_lt_zero i)), Lib.hid (Below.refl _ _)⟩
  case round =>
    obtain ⟨j, rfl, hj, hall, hbw⟩ := hrel
    by_cases hlt : (j : Int) < (l.length : Int)
    · have hjl : j < l.length := by omega
      have hAw := HA.out.below hbw.out
      obtain ⟨a, rfl, ha, c0⟩ := hAw j hjl
      have HPV := Lib.hid (fun (h0 : 0 < j) => hAw (j - 1) (by omega)); clear hAw
      have HN := Lib.hid (fun (h : okP l j hjl) i (hi : i < l.length) (hij : i < j + 1) => show okP l i hi by
        by_cases e : i = j
        · subst e; exact h
        · exact hall.out i hi (by omega))
      have HH := Lib.hid (HNO.out j hjl)
      have HOK := Lib.hid (show okP l j hjl ↔ (0 ≤ l[j] ∧ l[j] ≤ 100) ∧ (j = 0 ∨ l[j - 1]'(by omega) ≤ l[j]) from Iff.rfl)
      clear hall
      generalize okP l j hjl = OK at *
      obtain ⟨y, hy⟩ : ∃ y, y = l[j] := ⟨_, rfl⟩
      rw [← hy] at c0 HOK
      clear hy
      go_wp2_with fail
      have c0F := far_cell ha c0
      have HC1 := Lib.hid (fun x' => in_any y 0 100 (far wr x'))
      clear c0
      cases q1 : inB y 0 100 with
      | false =>
        have HVF := Lib.hid (show V = false from HH.out (fun h => by have h1 := inB_iff.2 (HOK.out.1 h).1; rw [q1] at h1; exact Bool.false_ne_true h1))
        rw [q1] at HC1
        refine wp_region_far (by kernel_rfl) (by kernel_rfl) ?_
        repeat (any_goals (first | go_big_quiet_step ((go_at_call 58; with_reducible exact call_far_same (HC1.out _))) | quiet_step ((go_at_call 58; with_reducible exact call_far_same (HC1.out _)))))
        refine wpQuiet_nil ?_; intro wz hw
        have hb : Below wr.heap.size wr wz := by obtain ⟨u, rfl⟩ := hw; exact below_far wr u
        have HB2 := Lib.hid (hbw.out.trans (hb.mono hbw.out.size))
        clear hw hb
        go_wp2
        go_ret
        exact ⟨ret_bool HVF.out.symm, HB2.out⟩
      | true =>
        have HLB := Lib.hid (inB_iff.1 q1)
        rw [q1] at HC1
        by_cases h0 : j = 0
        · have hgt : decide ((0 : Int) < (j : Int)) = false := decide_eq_false (by omega)
          have hgn : decide (0 < j) = false := decide_eq_false (by omega)
          have HVN := Lib.hid (HN.out (HOK.out.2 ⟨HLB.out, .inl h0⟩))
          clear h0
          refine wp_region_far (by kernel_rfl) (by kernel_rfl) ?_
          repeat (any_goals (first | go_big_quiet_step ((go_at_call 58; with_reducible exact call_far_same (HC1.out _))) | quiet_step ((go_at_call 58; with_reducible exact call_far_same (HC1.out _)))))
          refine wpQuiet_nil ?_; intro wz hw
          have hb : Below wr.heap.size wr wz := by obtain ⟨u, rfl⟩ := hw; exact below_far wr u
          have HB2 := Lib.hid (hbw.out.trans (hb.mono hbw.out.size))
          clear hw hb hgt hgn HH HN HOK
          go_wp2
          go_roundw
          case rel => exact ⟨j + 1, by go_num, by omega, HVN, HB2⟩
          case measure => simp [intOf]; omega
        · have h0' : 0 < j := by omega
          have hgt : decide ((0 : Int) < (j : Int)) = true := decide_eq_true (by omega)
          have hgn : decide (0 < j) = true := decide_eq_true h0'
          obtain ⟨a', ea, _, p0⟩ := HPV.out h0'
          have ea2 : a' = a := by cases ea; rfl
          subst ea2
          clear ea
          obtain ⟨pt, hpt⟩ : ∃ pt, pt = l[j - 1]'(by omega) := ⟨_, rfl⟩
          rw [← hpt] at p0 HOK
          clear hpt
          have p0F := far_cell ha p0
          clear p0
          have hjm : (j : Int) - 1 = ((j - 1 : Nat) : Int) := by omega
          have hjw : wrap64 ((j : Int) - 1) = ((j - 1 : Nat) : Int) := by rw [wrapP_id (by omega)]; exact hjm
          have hj1 : ((j - 1 : Nat) : Int) < (l.length : Int) := by omega
          have hj2 : (0 : Int) ≤ ((j - 1 : Nat) : Int) := by omega
          by_cases h3 : y < pt
          · have h3d : decide (y < pt) = true := decide_eq_true h3
            have HVF := Lib.hid (show V = false from HH.out (fun h => by rcases (HOK.out.1 h).2 with e | e <;> omega))
            refine wp_region_far (by kernel_rfl) (by kernel_rfl) ?_
            repeat (any_goals (first | go_big_quiet_step ((go_at_call 58; with_reducible exact call_far_same (HC1.out _))) | quiet_step ((go_at_call 58; with_reducible exact call_far_same (HC1.out _)))))
            refine wpQuiet_nil ?_; intro wz hw
            have hb : Below wr.heap.size wr wz := by obtain ⟨u, rfl⟩ := hw; exact below_far wr u
            have HB2 := Lib.hid (hbw.out.trans (hb.mono hbw.out.size))
            clear hw hb
            go_wp2
            go_ret
            exact ⟨ret_bool HVF.out.symm, HB2.out⟩
          · have h3d : decide (y < pt) = false := decide_eq_false h3
            have HVN := Lib.hid (HN.out (HOK.out.2 ⟨HLB.out, .inr (by omega)⟩))
            refine wp_region_far (by kernel_rfl) (by kernel_rfl) ?_
            repeat (any_goals (first | go_big_quiet_step ((go_at_call 58; with_reducible exact call_far_same (HC1.out _))) | quiet_step ((go_at_call 58; with_reducible exact call_far_same (HC1.out _)))))
            refine wpQuiet_nil ?_; intro wz hw
            have hb : Below wr.heap.size wr wz := by obtain ⟨u, rfl⟩ := hw; exact below_far wr u
            have HB2 := Lib.hid (hbw.out.trans (hb.mono hbw.out.size))
            clear hw hb p0F h3d hgt hgn hjm hjw hj1 hj2 HH HN HOK
            go_wp2
            go_roundw
            case rel => exact ⟨j + 1, by go_num, by omega, HVN, HB2⟩
            case measure => simp [intOf]; omega
    · obtain rfl : j = l.length := by omega
      have HVF := Lib.hid (HEND.out (fun i hi => hall.out i hi hi))
      clear hall
      go_wp2_with fail
      refine (in_any (l.length : Int) 1 6 wr).mono ?_; rintro e u ⟨rfl, hu⟩; subst hu
      go_wp2
      go_ret
      exact ⟨ret_bool HVF.out.symm, hbw.out⟩
end Go.Proofs.Ytadcmngooobeiaa

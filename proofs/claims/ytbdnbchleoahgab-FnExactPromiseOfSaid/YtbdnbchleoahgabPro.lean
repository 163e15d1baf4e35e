/- Contracts of PromiseOf, both texts. -/
import Derived.Test.YtbdnbchleoahgabEarI
namespace Go.Proofs.Ytbdnbchleoahgab
open Go.RowKit
def dayUp (e : Int) : Int := if 1080 < e % 1440 then e / 1440 + 1 else e / 1440
/-- what PromiseOf answers -/
def proB (l : List Lg) (zs : List Int) (x svc : Int) (fr to : ByteArray) (at_ : Int) : Int :=
  if earB l zs x fr to at_ < 0 ∨ svc < 1 ∨ 3 < svc then -1 else (dayUp (earB l zs x fr to at_) + (svc - 1) * (svc - 1)) * 1440 + 1080
set_option maxRecDepth 100000 in
set_option maxHeartbeats 2000000 in
theorem days_promised (s : Int) (w : World) :
    Calls Try.prog 48 #[.int .i64 s] w fun e w' => e = .returned (if 1 ≤ s ∧ s ≤ 3 then .tuple #[.int .i64 ((s - 1) * (s - 1)), .bool true] else .tuple #[.int .i64 0, .bool false]) ∧ w' = w := by
  by_cases h1 : s = 1
  · subst h1
    go_enter Try.func48, Try.ntmps48
    go_wp2
    exact bodyPost_ret (v := .tuple #[.int .i64 0, .bool true]) (by simp [results, Try.results48, go_sem]) rfl ⟨rfl, rfl⟩
  · by_cases h2 : s = 2
    · subst h2
      go_enter Try.func48, Try.ntmps48
      go_wp2
      exact bodyPost_ret (v := .tuple #[.int .i64 1, .bool true]) (by simp [results, Try.results48, go_sem]) rfl ⟨rfl, rfl⟩
    · by_cases h3 : s = 3
      · subst h3
        go_enter Try.func48, Try.ntmps48
        go_wp2
        exact bodyPost_ret (v := .tuple #[.int .i64 4, .bool true]) (by simp [results, Try.results48, go_sem]) rfl ⟨rfl, rfl⟩
      · have q1 : (s == 1) = false := beq_eq_false_iff_ne.2 h1
        have q2 : (s == 2) = false := beq_eq_false_iff_ne.2 h2
        have q3 : (s == 3) = false := beq_eq_false_iff_ne.2 h3
        have hR := Lib.hid (show (if 1 ≤ s ∧ s ≤ 3 then Value.tuple #[.int .i64 ((s - 1) * (s - 1)), .bool true] else .tuple #[.int .i64 0, .bool false]) = .tuple #[.int .i64 0, .bool false] from if_neg (by omega))
        go_enter Try.func48, Try.ntmps48
        go_wp2
        exact bodyPost_ret (v := .tuple #[.int .i64 0, .bool false]) (by simp [results, Try.results48, go_sem]) rfl ⟨by first | rfl | rw [hR.out], rfl⟩
set_option maxRecDepth 100000 in
set_option maxHeartbeats 4000000 in
theorem promise_impl (svc : Int) (fr to : ByteArray) (at_ : Int) (hf : fr.size ≤ maxLen) (hat2 : -9223372036854775808 ≤ at_) (A : Option Addr) (ca : Nat) (l : List Lg) (D : Option Addr) (cd : Nat) (zs : List Int) (x : Int) (w : World) (hA : InK 6 lgC w A l) (hD : IntsIn w D zs) (hs : ∀ z ∈ l, z.f.size ≤ maxLen ∧ z.t.size ≤ maxLen) (hn : l.length ≤ 1048576) (hm : zs.length ≤ 1048576) :
    Calls Try.prog 24 #[.agg #[.slice A l.length ca, .slice D zs.length cd, .int .i64 x], .int .i64 svc, .string fr, .string to, .int .i64 at_] w fun e w' => e = .returned (.int .i64 (proB l zs x svc fr to at_)) ∧ Below w.heap.size w w' := by
  have hB := Box3.new (T := 30) (v0 := .slice A l.length ca) (v1 := .slice D zs.length cd) (v2 := .int .i64 x) w
  have hb0 := (Below.refl w.heap.size w).alloc (Nat.le_refl _) (.cells #[.slice A l.length ca, .slice D zs.length cd, .int .i64 x] 30)
  have H0 := Lib.hid (And.intro hB (And.intro hb0 (And.intro (hA.below hb0) (hD.below hb0)))); clear hB hb0 hA hD
  have HE := Lib.hid (fun W (h1 : InK 6 lgC W A l) (h2 : IntsIn W D zs) => early_impl fr to at_ hf hat2 A ca l D cd zs x W h1 h2 hs hn hm)
  have HDP := Lib.hid (fun W => days_promised svc W)
  have hV : proB l zs x svc fr to at_ = if earB l zs x fr to at_ < 0 ∨ svc < 1 ∨ 3 < svc then -1 else (dayUp (earB l zs x fr to at_) + (svc - 1) * (svc - 1)) * 1440 + 1080 := rfl
  have hbd := ear_bd l zs x fr to at_
  generalize proB l zs x svc fr to at_ = R at *
  generalize earB l zs x fr to at_ = E at *
  clear hs
  by_cases hsv : 1 ≤ svc ∧ svc ≤ 3
  rotate_left
  · have hR := Lib.hid (hV.trans (if_pos (by omega))); clear hV
    rw [if_neg hsv] at HDP
    clear hsv
    go_enter Try.func24, Try.ntmps24
    go_wp2_with fail
    refine (HDP.out _).mono ?_; rintro e w1 ⟨rfl, rfl⟩
    obtain ⟨b0, b1, b2⟩ := H0.out.1.cells
    go_wp2_with fail
    refine (HE.out _ H0.out.2.2.1 H0.out.2.2.2).mono ?_; rintro e w2 ⟨rfl, hb2⟩
    clear b0 b1 b2
    go_wp2
    all_goals
      go_ret
      exact ⟨ret_int hR.out.symm, H0.out.2.1.trans (hb2.mono (Nat.le_of_lt H0.out.1.lt))⟩
  · rw [if_pos hsv] at HDP
    by_cases he : E < 0
    · have hR := Lib.hid (hV.trans (if_pos (Or.inl he))); clear hV hsv
      generalize (svc - 1) * (svc - 1) = G at *
      go_enter Try.func24, Try.ntmps24
      go_wp2_with fail
      refine (HDP.out _).mono ?_; rintro e w1 ⟨rfl, rfl⟩
      obtain ⟨b0, b1, b2⟩ := H0.out.1.cells
      go_wp2_with fail
      refine (HE.out _ H0.out.2.2.1 H0.out.2.2.2).mono ?_; rintro e w2 ⟨rfl, hb2⟩
      clear b0 b1 b2
      go_wp2
      all_goals
        go_ret
        exact ⟨ret_int hR.out.symm, H0.out.2.1.trans (hb2.mono (Nat.le_of_lt H0.out.1.lt))⟩
    · have hV' := hV.trans (if_neg (by omega)); clear hV
      have hG : 0 ≤ (svc - 1) * (svc - 1) ∧ (svc - 1) * (svc - 1) ≤ 4 := by
        have : svc = 1 ∨ svc = 2 ∨ svc = 3 := by omega
        rcases this with h | h | h <;> subst h <;> decide
      generalize (svc - 1) * (svc - 1) = G at *
      have he0 : 0 ≤ E := by omega
      have hq : 0 ≤ E / 1440 ∧ E / 1440 ≤ 69 := by omega
      by_cases hm8 : 1080 < E % 1440
      · have hR := Lib.hid (show R = (E / 1440 + 1 + G) * 1440 + 1080 by rw [hV']; unfold dayUp; rw [if_pos hm8]); clear hV' hsv
        go_enter Try.func24, Try.ntmps24
        go_wp2_with fail
        refine (HDP.out _).mono ?_; rintro e w1 ⟨rfl, rfl⟩
        obtain ⟨b0, b1, b2⟩ := H0.out.1.cells
        go_wp2_with fail
        refine (HE.out _ H0.out.2.2.1 H0.out.2.2.2).mono ?_; rintro e w2 ⟨rfl, hb2⟩
        clear b0 b1 b2
        go_wp2
        go_ret
        exact ⟨ret_int hR.out.symm, H0.out.2.1.trans (hb2.mono (Nat.le_of_lt H0.out.1.lt))⟩
      · have hR := Lib.hid (show R = (E / 1440 + G) * 1440 + 1080 by rw [hV']; unfold dayUp; rw [if_neg hm8]); clear hV' hsv
        go_enter Try.func24, Try.ntmps24
        go_wp2_with fail
        refine (HDP.out _).mono ?_; rintro e w1 ⟨rfl, rfl⟩
        obtain ⟨b0, b1, b2⟩ := H0.out.1.cells
        go_wp2_with fail
        refine (HE.out _ H0.out.2.2.1 H0.out.2.2.2).mono ?_; rintro e w2 ⟨rfl, hb2⟩
        clear b0 b1 b2
        go_wp2
        go_ret
        exact ⟨ret_int hR.out.symm, H0.out.2.1.trans (hb2.mono (Nat.le_of_lt H0.out.1.lt))⟩
set_option maxRecDepth 100000 in
set_option maxHeartbeats 4000000 in
theorem promise_spec (svc : Int) (hsv0 : -9223372036854775808 ≤ svc ∧ svc ≤ 9223372036854775807) (fr to : ByteArray) (at_ : Int) (A : Option Addr) (ca : Nat) (l : List Lg) (D : Option Addr) (cd : Nat) (zs : List Int) (x : Int) (w : World) (hA : InK 6 lgC w A l) (hD : IntsIn w D zs) (hs : ∀ z ∈ l, z.f.size ≤ maxLen ∧ z.t.size ≤ maxLen) (hn : l.length ≤ 1048576) (hm : zs.length ≤ 1048576) :
    Calls Try.prog 23 #[.agg #[.slice A l.length ca, .slice D zs.length cd, .int .i64 x], .int .i64 svc, .string fr, .string to, .int .i64 at_] w fun e w' => e = .returned (.int .i64 (proB l zs x svc fr to at_)) ∧ Below w.heap.size w w' := by
  have hB := Box3.new (T := 30) (v0 := .slice A l.length ca) (v1 := .slice D zs.length cd) (v2 := .int .i64 x) w
  have hb0 := (Below.refl w.heap.size w).alloc (Nat.le_refl _) (.cells #[.slice A l.length ca, .slice D zs.length cd, .int .i64 x] 30)
  have H0 := Lib.hid (And.intro hB (And.intro hb0 (And.intro (hA.below hb0) (hD.below hb0)))); clear hB hb0 hA hD
  have HE := Lib.hid (fun W (h1 : InK 6 lgC W A l) (h2 : IntsIn W D zs) => early_spec fr to at_ A ca l D cd zs x W h1 h2 hs hn hm)
  have HIN := Lib.hid (fun W => in_any svc 1 3 W)
  have hV : proB l zs x svc fr to at_ = if earB l zs x fr to at_ < 0 ∨ svc < 1 ∨ 3 < svc then -1 else (dayUp (earB l zs x fr to at_) + (svc - 1) * (svc - 1)) * 1440 + 1080 := rfl
  have hbd := ear_bd l zs x fr to at_
  generalize proB l zs x svc fr to at_ = R at *
  generalize earB l zs x fr to at_ = E at *
  clear hs
  by_cases he : E < 0
  · have hR := Lib.hid (hV.trans (if_pos (Or.inl he))); clear hV
    go_enter Try.func23, Try.ntmps23
    obtain ⟨b0, b1, b2⟩ := H0.out.1.cells
    go_wp2_with fail
    refine (HE.out _ H0.out.2.2.1 H0.out.2.2.2).mono ?_; rintro e w2 ⟨rfl, hb2⟩
    clear b0 b1 b2
    go_wp2
    all_goals
      go_ret
      exact ⟨ret_int hR.out.symm, H0.out.2.1.trans (hb2.mono (Nat.le_of_lt H0.out.1.lt))⟩
  · by_cases hsv : 1 ≤ svc ∧ svc ≤ 3
    rotate_left
    · have hR := Lib.hid (hV.trans (if_pos (by omega))); clear hV
      rw [inB_not.2 (by omega)] at HIN
      clear hsv
      go_enter Try.func23, Try.ntmps23
      obtain ⟨b0, b1, b2⟩ := H0.out.1.cells
      go_wp2_with fail
      refine (HE.out _ H0.out.2.2.1 H0.out.2.2.2).mono ?_; rintro e w2 ⟨rfl, hb2⟩
      clear b0 b1 b2
      go_wp2_with fail
      refine (HIN.out _).mono ?_; rintro e w3 ⟨rfl, rfl⟩
      go_wp2
      go_ret
      exact ⟨ret_int hR.out.symm, H0.out.2.1.trans (hb2.mono (Nat.le_of_lt H0.out.1.lt))⟩
    · have hV' := hV.trans (if_neg (by omega)); clear hV
      rw [inB_iff.2 hsv] at HIN
      obtain ⟨G, hG⟩ : ∃ G, G = (svc - 1) * (svc - 1) := ⟨_, rfl⟩
      have hGb : 0 ≤ G ∧ G ≤ 4 := by
        have : svc = 1 ∨ svc = 2 ∨ svc = 3 := by omega
        rw [hG]
        rcases this with h | h | h <;> subst h <;> decide
      rw [← hG] at hV'
      have hG' := hG.symm
      clear hG
      have hs1 : 1 ≤ svc := hsv.1
      have hs3 : svc ≤ 3 := hsv.2
      clear hsv hsv0
      have he0 : 0 ≤ E := by omega
      have hq : 0 ≤ E / 1440 ∧ E / 1440 ≤ 69 := by omega
      by_cases hm8 : 1080 < E % 1440
      · have hR := Lib.hid (show R = (E / 1440 + 1 + G) * 1440 + 1080 by rw [hV']; unfold dayUp; rw [if_pos hm8]); clear hV'
        go_enter Try.func23, Try.ntmps23
        obtain ⟨b0, b1, b2⟩ := H0.out.1.cells
        go_wp2_with fail
        refine (HE.out _ H0.out.2.2.1 H0.out.2.2.2).mono ?_; rintro e w2 ⟨rfl, hb2⟩
        clear b0 b1 b2
        go_wp2_with fail
        refine (HIN.out _).mono ?_; rintro e w3 ⟨rfl, rfl⟩
        go_wp2
        go_ret
        exact ⟨ret_int hR.out.symm, H0.out.2.1.trans (hb2.mono (Nat.le_of_lt H0.out.1.lt))⟩
      · have hR := Lib.hid (show R = (E / 1440 + G) * 1440 + 1080 by rw [hV']; unfold dayUp; rw [if_neg hm8]); clear hV'
        go_enter Try.func23, Try.ntmps23
        obtain ⟨b0, b1, b2⟩ := H0.out.1.cells
        go_wp2_with fail
        refine (HE.out _ H0.out.2.2.1 H0.out.2.2.2).mono ?_; rintro e w2 ⟨rfl, hb2⟩
        clear b0 b1 b2
        go_wp2_with fail
        refine (HIN.out _).mono ?_; rintro e w3 ⟨rfl, rfl⟩
        go_wp2
        go_ret
        exact ⟨ret_int hR.out.symm, H0.out.2.1.trans (hb2.mono (Nat.le_of_lt H0.out.1.lt))⟩
end Go.Proofs.Ytbdnbchleoahgab

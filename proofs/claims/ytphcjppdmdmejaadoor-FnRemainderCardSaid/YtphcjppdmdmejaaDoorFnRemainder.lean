/- The walk of the law on remainders. -/
import Derived.Test.YtphcjppdmdmejaaDoorPLab
import Derived.Test.YtphcjppdmdmejaaDoorAt
namespace Go.Proofs.YtphcjppdmdmejaaDoor
open Go.RowKit
theorem flab_size (a b : Int) (s : ByteArray) : (flab a b s).size ≤ 15 := by
  cases h : labB a b s.data.toList with
  | false => rw [flab_empty _ _ _ h]; simp [ByteArray.size]
  | true =>
    have := (isLab_at (str := flab a b s) ⟨h, rfl⟩).1
    omega
theorem CurOK.below {w w' : World} {g : Nat} (h : CurOK w g) (hb : Below w.heap.size w w') : CurOK w' g := h.keep h.lt hb
set_option maxRecDepth 100000 in
set_option maxHeartbeats 1000000 in
theorem drawMod97_any (A : Option Addr) (n cap : Nat) (w : World) (hn : n ≤ 4096) (hb : BytesIn w A n) :
    Calls Tryd.prog 21 #[.slice A n cap] w fun e w' => (∃ s : ByteArray, s.size ≤ 1000 ∧ e = .returned (.string s)) ∧ Below w.heap.size w w' := by
  have HB := Lib.hid hb; clear hb
  go_enter Tryd.func21, Tryd.ntmps21
  go_wp2_with fail
  refine (new_any A n cap _ hn HB.out).mono ?_; rintro e w1 ⟨g, rfl, hc1, hgl, hb1⟩
  have H1 := Lib.hid hc1; clear hc1
  go_wp2_with fail
  refine (label_draw g _ H1.out).mono ?_; rintro e w2 ⟨⟨a, b, s, _, _, hs, rfl⟩, hc2, ho2⟩
  have hbw2 := hb1.trans (only_below ho2 (by have := hb1.size; omega) hgl)
  have H2 := Lib.hid hc2; clear hc2 hb1 ho2
  go_wp2_with fail
  refine (flab_spec a b s _ (by omega)).mono ?_; rintro e w3 ⟨rfl, hb3⟩
  have hfs := flab_size a b s
  have hbw3 := hbw2.trans (hb3.mono hbw2.size)
  have H3 := Lib.hid (H2.out.below hb3); clear hb3 hbw2
  generalize flab a b s = t at *
  go_wp2_with fail
  refine (dig_spec t _ (by omega)).mono ?_; rintro e w4 ⟨rfl, hb4⟩
  have hds := digsS_size t (by omega)
  have hbw4 := hbw3.trans (hb4.mono hbw3.size)
  have H4 := Lib.hid (H3.out.below hb4); clear hb4 hbw3
  generalize digsS t.data.toList = d at *
  go_wp2_with fail
  refine (once_any g 4 _ (by omega) H4.out).mono ?_; rintro e w5 ⟨⟨x, rfl⟩, hc5, ho5⟩
  have hbw5 := hbw4.trans (only_below ho5 hbw4.size hgl)
  have H5 := Lib.hid hc5; clear hc5
  cases x with
  | false =>
    go_wp2
    go_ret
    exact ⟨⟨d, by omega, rfl⟩, hbw5⟩
  | true =>
    go_wp2_with fail
    refine (str_new g 7 _ _ _ H5.out rfl (by omega) (by omega) (by decide)).mono ?_; rintro e w6 ⟨⟨z, hz, rfl⟩, _, ho6⟩
    go_wp2
    go_ret
    exact ⟨⟨z, by omega, rfl⟩, hbw5.trans (only_below ho6 hbw5.size hgl)⟩
theorem rem_facts (l : List UInt8) (d : Nat) (hd : d ≤ 9) :
    (l.isEmpty = true ∧ mod97 l = -1 ∧ mod97 (l ++ [UInt8.ofNat (48 + d)]) = d) ∨ (l.isEmpty = false ∧ mod97 l = -1 ∧ mod97 (l ++ [UInt8.ofNat (48 + d)]) = -1) ∨
    (l.isEmpty = false ∧ 0 ≤ mod97 l ∧ mod97 l < 97 ∧ mod97 (l ++ [UInt8.ofNat (48 + d)]) = (10 * mod97 l + d) % 97) := by
  have e : (UInt8.ofNat (48 + d)).toNat = 48 + d := by rw [UInt8.toNat_ofNat', Nat.mod_eq_of_lt (by omega)]
  have hc : digB (UInt8.ofNat (48 + d)) = true := inB_iff.2 (by rw [e]; omega)
  cases h : l.isEmpty with
  | true =>
    obtain rfl : l = [] := by simpa using h
    refine .inl ⟨rfl, rfl, ?_⟩
    rw [mod97_yes _ (by simp) (by simp only [List.nil_append, List.all_cons, hc, List.all_nil]; rfl), m97_snoc, e]
    show (10 * 0 + _) % 97 = _
    omega
  | false =>
    cases ha : l.all digB with
    | false =>
      refine .inr (.inl ⟨rfl, ?_, ?_⟩)
      · unfold mod97; rw [h, ha]; rfl
      · unfold mod97
        have h1 : (l ++ [UInt8.ofNat (48 + d)]).isEmpty = false := by cases l <;> simp
        rw [h1, List.all_append, ha]; rfl
    | true =>
      have hb := m97_bd l
      refine .inr (.inr ⟨rfl, ?_⟩)
      have h1 : (l ++ [UInt8.ofNat (48 + d)]).isEmpty = false := by cases l <;> simp
      rw [mod97_yes l h ha, mod97_yes _ h1 (by rw [List.all_append, ha, List.all_cons, hc]; rfl), m97_snoc, e]
      refine ⟨hb.1, hb.2, ?_⟩
      omega
namespace fnRemainder
set_option maxRecDepth 100000 in
set_option maxHeartbeats 400000 in
theorem walk (A : Option Addr) (n cap : Nat) (w : World) (hr : BytesIn w A n) (_hm : n ≤ maxLen) (hp : PowIs w) (he : ErrIs w "strconv.ErrRange" ∧ ErrIs w "strconv.ErrSyntax") :
    Calls Tryd.prog 6 #[.slice A n cap] w fun e w' => e = .returned (.bool true) ∧ Below w.heap.size w w' := by
  clear _hm
  have HR := Lib.hid hr; clear hr
  have HP := Lib.hid hp; clear hp
  have HE := Lib.hid he; clear he
  by_cases hbig : 4096 < n
  · have hB : bigB n = true := by simp [bigB, hbig]
    go_enter Tryd.func6, Tryd.ntmps6
    go_wp2_with fail
    refine (big_any _ _ _ _).mono ?_; rintro e w1 ⟨rfl, rfl⟩
    go_wp2
    go_ret
    exact ⟨rfl, Below.refl _ _⟩
  · have hB : bigB n = false := by simp [bigB]; omega
    obtain ⟨v1, hv10, hv11, hat1⟩ := at_val A n cap w HR.out (by omega) 1 (by omega)
    have HAT1 := Lib.hid hat1; clear hat1
    go_enter Tryd.func6, Tryd.ntmps6
    go_wp2_with fail
    refine (big_any _ _ _ _).mono ?_; rintro e w1 ⟨rfl, rfl⟩
    go_wp2_with fail
    refine (drawMod97_any A n cap _ (by omega) HR.out).mono ?_
    rintro e w1 ⟨⟨s, hs, rfl⟩, hb1⟩
    go_wp2_with fail
    refine (mod_impl s _ (by unfold maxLen; omega)).mono ?_; rintro e w2 ⟨rfl, rfl⟩
    go_wp2_with fail
    refine (HAT1.out _ hb1).mono ?_; rintro e w3 ⟨rfl, rfl⟩
    obtain ⟨d, hd⟩ : ∃ d : Nat, v1 % 10 = (d : Int) := ⟨(v1 % 10).toNat, by omega⟩
    have hd9 : d ≤ 9 := by omega
    have hdi : (d : Int) ≤ 9 := by omega
    have hf := rem_facts s.data.toList d hd9
    have HIT := Lib.hid (show itoaS (d : Int) = ⟨#[UInt8.ofNat (48 + d)]⟩ by unfold itoaS; rw [Lib.itoa_nonneg, dec_last d (by omega)])
    go_wp2_with fail
    rw [hd]
    clear hd
    refine (fmt_impl d (by omega) _ (HP.out.below hb1)).mono ?_; rintro e w2 ⟨rfl, hb2⟩
    have hbw2 := hb1.trans (hb2.mono hb1.size)
    clear hb1 hb2
    rw [HIT.out]
    have hnum : IsNum (ByteArray.mk #[UInt8.ofNat (48 + d)]).data.toList d := ⟨by omega, by rw [dec_last d (by omega)]⟩
    have HNUM := Lib.hid hnum; clear hnum
    obtain ⟨c, hc⟩ : ∃ c, c = UInt8.ofNat (48 + d) := ⟨_, rfl⟩
    rw [← hc] at hf HNUM HIT ⊢
    clear hc
    have HF := Lib.hid hf; clear hf
    go_wp2_with fail
    refine (pint_impl _ _ (by simp [ByteArray.size]) (HP.out.below hbw2) ⟨HE.out.1.below hbw2, HE.out.2.below hbw2⟩).mono ?_; rintro e w3 ⟨h3, hb3⟩
    have hbw3 := hbw2.trans (hb3.mono hbw2.size)
    clear hb3 hbw2
    rcases h3 with ⟨m, hm, rfl⟩ | ⟨hn, rfl⟩
    · have e : m = d := dec_inj (hm.2.trans HNUM.out.2.symm)
      subst e
      clear hm
      go_wp2_with fail
      refine (fmt_impl m (by omega) _ (HP.out.below hbw3)).mono ?_; rintro e w4 ⟨rfl, hb4⟩
      have hbw4 := hbw3.trans (hb4.mono hbw3.size)
      clear hb4 hbw3
      rw [HIT.out]
      have o1 : ¬ 9223372036854775807 < s.size + 1 := by omega
      go_wp2_with fail
      have hsz : (s ++ (⟨#[c]⟩ : ByteArray)).size ≤ maxLen := by rw [ByteArray.size_append]; unfold maxLen; show s.size + 1 ≤ _; omega
      have e2 : (s ++ (⟨#[c]⟩ : ByteArray)).data.toList = s.data.toList ++ [c] := by simp
      generalize s ++ (⟨#[c]⟩ : ByteArray) = q at *
      have HE2 := Lib.hid e2; clear e2
      refine (mod_impl q _ hsz).mono ?_; rintro e w5 ⟨rfl, rfl⟩
      rw [HE2.out]
      have q0 : ((m : Int) == (m : Int)) = true := by simp
      rcases HF.out with ⟨h1, h2, h3⟩ | ⟨h1, h2, h3⟩ | ⟨h1, h2, h2', h3⟩
      · rw [h2, h3]
        have q1 : s.toList.isEmpty = true := by rw [ByteArray.toList_eq]; exact h1
        clear h1 h2 h3
        go_wp2
        go_ret
        exact ⟨by first | rfl | simp, hbw4⟩
      · rw [h2, h3]
        have q1 : s.toList.isEmpty = false := by rw [ByteArray.toList_eq]; exact h1
        clear h1 h2 h3
        go_wp2
        go_ret
        exact ⟨by first | rfl | simp, hbw4⟩
      · rw [h3]
        have q1 : s.toList.isEmpty = false := by rw [ByteArray.toList_eq]; exact h1
        clear h1 h3
        generalize mod97 s.data.toList = r at *
        have q2 : (r == -1) = false := by simp; omega
        have q3 : ((10 * r + (m : Int)) % 97 == (10 * r + (m : Int)) % 97) = true := by simp
        go_wp2
        go_ret
        exact ⟨by first | rfl | simp, hbw4⟩
    · exact absurd HNUM.out (hn d)
end fnRemainder
end Go.Proofs.YtphcjppdmdmejaaDoor

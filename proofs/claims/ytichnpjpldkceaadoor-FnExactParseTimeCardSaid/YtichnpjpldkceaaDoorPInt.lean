/- The contracts of the two texts of ParseInt. -/
import Derived.Test.YtichnpjpldkceaaDoorNum
import Derived.Test.YtichnpjpldkceaaDoorFmt
import Derived.Test.YtichnpjpldkceaaDoorShelf
import Derived.Test.YtichnpjpldkceaaDoorPad
namespace Go.Proofs.YtichnpjpldkceaaDoor
open Go.RowKit
def IsNum (l : List UInt8) (n : Nat) : Prop := n ≤ 1000000000 ∧ Lib.decDigits n = l
theorem dVal_lt_aux : ∀ (n : Nat) (l : List UInt8), l.length = n → l.all digB = true → dVal l < 10 ^ n
  | 0, l, hn, _ => by
    obtain rfl := List.eq_nil_of_length_eq_zero hn
    simp [dVal]
  | n + 1, l, hn, h => by
    rcases List.eq_nil_or_concat l with rfl | ⟨l', c, rfl⟩
    · simp at hn
    · rw [List.concat_eq_append] at hn h ⊢
      rw [List.all_append, Bool.and_eq_true] at h
      have h1 := dVal_lt_aux n l' (by simpa using hn) h.1
      have h2 := inB_iff.1 (show inB (c.toNat : Int) 48 57 = true by simpa [digB] using h.2)
      rw [dVal_snoc, Nat.pow_succ]
      omega
theorem dVal_lt (l : List UInt8) (h : l.all digB = true) : dVal l < 10 ^ l.length := dVal_lt_aux _ l rfl h
theorem dec_all (n : Nat) : (Lib.decDigits n).all digB = true := by
  rw [List.all_eq_true]
  intro c hc
  have := dec_digit n c hc
  exact inB_iff.2 (by omega)
theorem dec_len10 (n : Nat) (h : n ≤ 1000000000) : (Lib.decDigits n).length ≤ 10 := by
  have := congrArg List.length (lowD_pad 10 n (by omega) (by omega))
  rw [lowD_len] at this
  unfold padL at this
  simp only [List.length_append, List.length_replicate] at this
  omega
theorem dig_val (a : Int) (c : UInt8) (h : inB (c.toNat : Int) 48 57 = true) : (10 * a + ((c.toNat : Int) - 48) % 256) = a * 10 + ((c.toNat - 48 : Nat) : Int) := by
  have := inB_iff.1 h
  rw [Int.emod_eq_of_lt (by omega) (by omega)]; omega
set_option maxRecDepth 100000 in
set_option maxHeartbeats 1000000 in
/-- whatever the string: the number that its first digits write is asked -/
theorem pint_spec (s : ByteArray) (w : World) (_hs : s.size ≤ 1048576) :
    Calls Tryd.prog 42 #[.string s] w fun e w' => ((∃ n : Nat, IsNum s.data.toList n ∧ e = .returned (.tuple #[.int .i64 n, .bool true])) ∨ ((∀ n, ¬ IsNum s.data.toList n) ∧ e = .returned (.tuple #[.int .i64 0, .bool false]))) ∧ Below w.heap.size w w' := by
  go_enter Tryd.func42, Tryd.ntmps42
  go_wp2
  go_loop [4, 5] (fun n i => ∃ k : Nat, k ≤ s.size ∧ k ≤ 11 ∧ i = .int .i64 k ∧ n = .int .i64 ((dVal (s.data.toList.take k) : Nat) : Int) ∧ (s.data.toList.take k).all digB = true) (fun _ i => 11 - (intOf i).toNat)
  case atStart => exact ⟨0, Nat.zero_le _, by omega, rfl, rfl, rfl⟩
  case round =>
    obtain ⟨k, hk, hk11, rfl, rfl, hall⟩ := hrel
    have hlt := dVal_lt _ hall
    have hl11 : (s.data.toList.take k).length ≤ 11 := by rw [List.length_take]; omega
    have hbd : dVal (s.data.toList.take k) < 100000000000 := Nat.lt_of_lt_of_le hlt (Nat.le_trans (Nat.pow_le_pow_right (by omega) hl11) (by decide))
    have HA := Lib.hid hall; clear hall hlt hl11
    generalize hq : dVal (s.data.toList.take k) = q at *
    have HQ := Lib.hid hq; clear hq
    by_cases hks : k < s.size
    · by_cases hk1 : (k : Int) < 11
      · have HS := Lib.hid (dVal_snoc (s.data.toList.take k) s[k])
        go_wp2_with (go_at_call 38; refine (in_any _ _ _ _).mono ?_; rintro e w' ⟨rfl, rfl⟩)
        · have hn : (!inB (wrap64 (s[k].toNat : Int)) 48 57) = true := by assumption
          rw [w64b] at hn
          have hno := all_no s k hks digB (by simpa [digB] using hn)
          go_ret2
          refine ⟨.inr ⟨?_, rfl⟩, Below.refl _ _⟩
          rintro n ⟨_, h⟩
          rw [← h, dec_all] at hno; cases hno
        · have hn : (!inB (wrap64 (s[k].toNat : Int)) 48 57) = false := by assumption
          rw [w64b] at hn
          have hd : inB (s[k].toNat : Int) 48 57 = true := by simpa using hn
          go_round
          case rel =>
            refine ⟨k + 1, by omega, by omega, by go_num, val_int ?_, all_snoc s k hks _ HA.out hd⟩
            rw [take_snoc s k hks, HS.out, HQ.out, dig_val _ _ hd]; norm_cast
          case measure => simp [intOf]; omega
      · have HN : Hid (∀ n, IsNum s.data.toList n → n = q) := by
          intro n hn
          have h1 := dec_len10 n hn.1
          rw [hn.2] at h1
          have h2 : s.data.toList.length = s.size := by simp
          omega
        by_cases hbig : (1000000000 : Int) < (q : Int)
        · go_wp2
          go_ret2
          refine ⟨.inr ⟨fun n hn => ?_, rfl⟩, Below.refl _ _⟩
          have := HN.out n hn
          have := hn.1
          omega
        · go_wp2_with fail
          refine (fmt_spec _ _ (by omega)).mono ?_; rintro e w1 ⟨rfl, hb1⟩
          have e0 : itoaS (q : Int) = ⟨(Lib.decDigits q).toArray⟩ := by unfold itoaS; rw [Lib.itoa_nonneg]
          rw [e0]
          clear e0
          by_cases he : Lib.decDigits q = s.data.toList
          · have hne : (Lib.decDigits q == s.toList) = true := by rw [ByteArray.toList_eq, he]; simp
            have HE := Lib.hid he; clear he
            go_wp2
            go_ret2
            exact ⟨.inl ⟨q, ⟨by omega, HE.out⟩, rfl⟩, hb1⟩
          · have hne : (Lib.decDigits q == s.toList) = false := by rw [ByteArray.toList_eq]; simpa using he
            have HE := Lib.hid he; clear he
            go_wp2
            go_ret2
            refine ⟨.inr ⟨fun n hn => ?_, rfl⟩, hb1⟩
            have e := HN.out n hn
            subst e
            exact HE.out hn.2

    · have HN : Hid (∀ n, IsNum s.data.toList n → n = q) := by
        intro n hn
        have e := take_all s k (by omega)
        rw [← HQ.out, e, ← hn.2, dVal_dec]
      by_cases hbig : (1000000000 : Int) < (q : Int)
      · go_wp2
        go_ret2
        refine ⟨.inr ⟨fun n hn => ?_, rfl⟩, Below.refl _ _⟩
        have := HN.out n hn
        have := hn.1
        omega
      · go_wp2_with fail
        refine (fmt_spec _ _ (by omega)).mono ?_; rintro e w1 ⟨rfl, hb1⟩
        have e0 : itoaS (q : Int) = ⟨(Lib.decDigits q).toArray⟩ := by unfold itoaS; rw [Lib.itoa_nonneg]
        rw [e0]
        clear e0
        by_cases he : Lib.decDigits q = s.data.toList
        · have hne : (Lib.decDigits q == s.toList) = true := by rw [ByteArray.toList_eq, he]; simp
          have HE := Lib.hid he; clear he
          go_wp2
          go_ret2
          exact ⟨.inl ⟨q, ⟨by omega, HE.out⟩, rfl⟩, hb1⟩
        · have hne : (Lib.decDigits q == s.toList) = false := by rw [ByteArray.toList_eq]; simpa using he
          have HE := Lib.hid he; clear he
          go_wp2
          go_ret2
          refine ⟨.inr ⟨fun n hn => ?_, rfl⟩, hb1⟩
          have e := HN.out n hn
          subst e
          exact HE.out hn.2

theorem below_bytes (w : World) (T : TypeId) (t : ByteArray) : Below w.heap.size w (Lib.bytesWorld w T t) := by
  exact Lib.bytesWorld_below w T t
set_option maxRecDepth 100000 in
set_option maxHeartbeats 1000000 in
theorem pint_impl (s : ByteArray) (w : World) (hs : s.size ≤ 1048576) (hp : PowIs w) (he : ErrIs w "strconv.ErrRange" ∧ ErrIs w "strconv.ErrSyntax") :
    Calls Tryd.prog 45 #[.string s] w fun e w' => ((∃ n : Nat, IsNum s.data.toList n ∧ e = .returned (.tuple #[.int .i64 n, .bool true])) ∨ ((∀ n, ¬ IsNum s.data.toList n) ∧ e = .returned (.tuple #[.int .i64 0, .bool false]))) ∧ Below w.heap.size w w' := by
  have HP := Lib.hid hp; clear hp
  have hev := he
  have HE := Lib.hid he; clear he
  have hcs : (∃ v, Lib.atoiAll s.data.toList = .ok v) ∨ Lib.atoiAll s.data.toList = Lib.atoiAll [] ∨ Lib.atoiAll s.data.toList = .range := by
    cases Lib.atoiAll s.data.toList
    · exact .inl ⟨_, rfl⟩
    · exact .inr (.inl rfl)
    · exact .inr (.inr rfl)
  rcases hcs with ⟨v, ha⟩ | ha | ha
  ·
    have hvb := Lib.atoiAll_bounds ha
    have HA := Lib.hid ha; clear ha hev
    go_enter Tryd.func45, Tryd.ntmps45
    go_wp2_with fail
    refine (Tryd.strconv_Atoi_ok s (by omega) v HA.out _).mono ?_
    rintro e w1 ⟨rfl, hw⟩
    have hb1 : Below w.heap.size w w1 := by
      rcases hw with rfl | ⟨t, rfl⟩
      · exact Below.refl _ _
      · exact below_bytes _ _ _
    clear hw
    have HN : Hid (∀ n, IsNum s.data.toList n → v = (n : Int)) := fun n hn => by
      have := atoi_dec n hn.1
      rw [hn.2, HA.out] at this
      injection this
    by_cases h0 : v < 0
    · go_wp2
      go_ret2
      refine ⟨.inr ⟨fun n hn => ?_, rfl⟩, hb1⟩
      have := HN.out n hn
      omega
    · by_cases h1 : 1000000000 < v
      · go_wp2
        go_ret2
        refine ⟨.inr ⟨fun n hn => ?_, rfl⟩, hb1⟩
        have := HN.out n hn
        have := hn.1
        omega
      · obtain ⟨m, rfl⟩ : ∃ m : Nat, v = (m : Int) := ⟨v.toNat, by omega⟩
        have h0' : (0 : Int) ≤ m := by omega
        go_wp2_with fail
        refine (fmt_impl _ (by omega) _ (HP.out.below hb1)).mono ?_; rintro e w2 ⟨rfl, hb2⟩
        have e0 : itoaS (m : Int) = ⟨(Lib.decDigits m).toArray⟩ := by unfold itoaS; rw [Lib.itoa_nonneg]
        rw [e0]
        clear e0
        have hb3 : Below w.heap.size w w2 := hb1.trans (hb2.mono hb1.size)
        by_cases he : Lib.decDigits m = s.data.toList
        · have hne : (Lib.decDigits m == s.toList) = true := by rw [ByteArray.toList_eq, he]; simp
          have HE := Lib.hid he; clear he
          go_wp2
          go_ret2
          exact ⟨.inl ⟨m, ⟨by omega, HE.out⟩, rfl⟩, hb3⟩
        · have hne : (Lib.decDigits m == s.toList) = false := by rw [ByteArray.toList_eq]; simpa using he
          have HE := Lib.hid he; clear he
          go_wp2
          go_ret2
          refine ⟨.inr ⟨fun n hn => ?_, rfl⟩, hb3⟩
          have e := HN.out n hn
          have : n = m := by omega
          subst this
          exact HE.out hn.2
  ·
    have HN : Hid (∀ n, ¬ IsNum s.data.toList n) := fun n hn => by
      have := atoi_dec n hn.1
      rw [hn.2, ha] at this
      cases this
    obtain ⟨tp, p, hvar⟩ := HE.out.2
    have HV := Lib.hid hvar
    have HA := Lib.hid ha; clear ha hev hvar
    go_enter Tryd.func45, Tryd.ntmps45
    go_wp2_with fail
    refine (Tryd.strconv_Atoi_syntax_var s (by omega) HA.out tp p _ HV.out).mono ?_
    rintro e w1 ⟨N, rfl, hN, _, hb1⟩
    go_wp2
    go_ret2
    exact ⟨.inr ⟨HN.out, rfl⟩, hb1⟩
  ·
    have HN : Hid (∀ n, ¬ IsNum s.data.toList n) := fun n hn => by
      have := atoi_dec n hn.1
      rw [hn.2, ha] at this
      cases this
    obtain ⟨tp, p, hvar⟩ := HE.out.1
    have HV := Lib.hid hvar
    have HA := Lib.hid ha; clear ha hev hvar
    go_enter Tryd.func45, Tryd.ntmps45
    go_wp2_with fail
    refine (Tryd.strconv_Atoi_range_var s (by omega) HA.out tp p _ HV.out).mono ?_
    rintro e w1 ⟨N, rfl, hN, _, hb1⟩
    go_wp2
    go_ret2
    exact ⟨.inr ⟨HN.out, rfl⟩, hb1⟩
end Go.Proofs.YtichnpjpldkceaaDoor

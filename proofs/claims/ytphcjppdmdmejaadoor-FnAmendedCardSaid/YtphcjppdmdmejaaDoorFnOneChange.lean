/- The walk of the law on one changed character. -/
import Derived.Test.YtphcjppdmdmejaaDoorSlip
import Derived.Test.YtphcjppdmdmejaaDoorAt
import Derived.RegionTactic
namespace Go.Proofs.YtphcjppdmdmejaaDoor
open Go.RowKit
def changed (s : ByteArray) (k : Nat) (c : UInt8) : ByteArray := s.extract 0 k ++ ⟨#[c]⟩ ++ s.extract (k + 1) s.size
theorem changed_list (s : ByteArray) (k : Nat) (c : UInt8) : (changed s k c).data.toList = s.data.toList.take k ++ c :: s.data.toList.drop (k + 1) := by
  unfold changed
  simp only [ByteArray.data_append, Array.toList_append, ext_list]
  have h1 : (List.drop 0 s.data.toList).take (k - 0) = s.data.toList.take k := by simp
  have h2 : (List.drop (k + 1) s.data.toList).take (s.size - (k + 1)) = s.data.toList.drop (k + 1) := by
    refine List.take_of_length_le ?_
    rw [List.length_drop, Array.length_toList]; exact Nat.le_refl _
  rw [h1, h2]; simp
theorem change_facts {s : ByteArray} {a b : Int} {y : ByteArray} (h : IsLab s a b y) (k : Nat) (hk : k < 15) (c : UInt8) :
    (changed s k c).size = 15 ∧ ∀ a' b' y', IsLab (changed s k c) a' b' y' → changed s k c = s := by
  obtain ⟨h15, _⟩ := isLab_at h
  have hl : s.data.toList.length = 15 := by simpa using h15
  have hc := changed_list s k c
  have e : s.data.toList = s.data.toList.take k ++ s.data.toList[k] :: s.data.toList.drop (k + 1) := by
    conv => lhs; rw [← List.take_append_drop k s.data.toList]
    rw [List.drop_eq_getElem_cons (by omega)]
  refine ⟨?_, fun a' b' y' h' => ?_⟩
  · have h1 := congrArg List.length hc
    rw [List.length_append, List.length_cons, List.length_take, List.length_drop] at h1
    have h2 : (changed s k c).size = (changed s k c).data.toList.length := by simp
    omega
  · have := lab_one_slip h h' _ _ _ _ e hc
    refine ba_ext ?_
    rw [hc, ← this]
    exact e.symm
namespace fnOneChange
set_option maxRecDepth 100000 in
set_option maxHeartbeats 2000000 in
theorem walk (A : Option Addr) (n cap : Nat) (w : World) (hr : BytesIn w A n) (_hm : n ≤ maxLen) (hp : PowIs w) (he : ErrIs w "strconv.ErrRange" ∧ ErrIs w "strconv.ErrSyntax") :
    Calls Tryd.prog 3 #[.slice A n cap] w fun e w' => e = .returned (.bool true) ∧ Below w.heap.size w w' := by
  clear _hm
  have HR := Lib.hid hr; clear hr
  have HP := Lib.hid hp; clear hp
  have HE := Lib.hid he; clear he
  by_cases hbig : 4096 < n
  · have hB : bigB n = true := by simp [bigB, hbig]
    go_enter Tryd.func3, Tryd.ntmps3
    go_wp2_with fail
    refine (big_any _ _ _ _).mono ?_; rintro e w1 ⟨rfl, rfl⟩
    go_wp2
    go_ret
    exact ⟨rfl, Below.refl _ _⟩
  · have hB : bigB n = false := by simp [bigB]; omega
    obtain ⟨v1, hv10, hv11, hat1⟩ := at_val A n cap w HR.out (by omega) 1 (by omega)
    obtain ⟨v2, hv20, hv21, hat2⟩ := at_val A n cap w HR.out (by omega) 2 (by omega)
    obtain ⟨v3, hv30, hv31, hat3⟩ := at_val A n cap w HR.out (by omega) 3 (by omega)
    have HAT1 := Lib.hid hat1; have HAT2 := Lib.hid hat2; have HAT3 := Lib.hid hat3; clear hat1 hat2 hat3
    go_enter Tryd.func3, Tryd.ntmps3
    go_wp2_with fail
    refine (big_any _ _ _ _).mono ?_; rintro e w1 ⟨rfl, rfl⟩
    go_wp2_with fail
    refine (drawFormatLabel_any A n cap _ (by omega) HR.out).mono ?_
    rintro e w1 ⟨⟨a, b, y, ha, hb, hy, rfl⟩, hb1⟩
    clear ha hb
    go_wp2_with fail
    refine (flab_spec a b y _ (by omega)).mono ?_; rintro e w2 ⟨rfl, hb2⟩
    have hbw2 := hb1.trans (hb2.mono hb1.size)
    clear hb1 hb2
    cases hl : labB a b y.data.toList with
    | false =>
      rw [flab_empty _ _ _ hl]
      clear hl
      go_wp2
      go_ret
      exact ⟨rfl, hbw2⟩
    | true =>
      obtain ⟨s, hse⟩ : ∃ s, s = flab a b y := ⟨_, rfl⟩
      have hlab : IsLab s a b y := ⟨hl, by rw [hse]⟩
      rw [← hse]
      obtain ⟨h15, _⟩ := isLab_at hlab
      have HL := Lib.hid hlab; clear hlab hl hse
      have hne : s.toList.isEmpty = false := by rw [ByteArray.toList_eq]; exact toList_emp s (by omega)
      have hlo : 15 ≤ s.size := by omega
      have hhi : s.size ≤ 15 := by omega
      clear h15
      go_wp2_with fail
      refine (HAT1.out _ hbw2).mono ?_; rintro e w3 ⟨rfl, rfl⟩
      go_wp2_with fail
      refine (HAT2.out _ hbw2).mono ?_; rintro e w3 ⟨rfl, rfl⟩
      go_wp2_with fail
      refine (HAT3.out _ hbw2).mono ?_; rintro e w3 ⟨rfl, rfl⟩
      obtain ⟨k, hk⟩ : ∃ k : Nat, v1 % 15 = (k : Int) := ⟨(v1 % 15).toNat, by omega⟩
      have hk15 : k < 15 := by omega
      rw [hk]
      clear hk
      by_cases hodd : v3 % 2 = 1
      · have q0 : (v3 % 2 == 1) = true := by simpa using hodd
        have HO := Lib.hid hodd; clear hodd
        go_wp2_with fail
        refine (HAT2.out _ hbw2).mono ?_; rintro e w3 ⟨rfl, rfl⟩
        go_wp2_with fail
        have kc : (convert 22 9 (.slice (some ⟨w2.heap.size, 0, none⟩) 1 1)).run Tryd.prog ((w2.alloc (.cells #[.int .u8 (65 + v2 % 26)] 5)).drew) = .ok (.string ⟨#[UInt8.ofNat (65 + v2 % 26).toNat]⟩) ((w2.alloc (.cells #[.int .u8 (65 + v2 % 26)] 5)).drew) := conv_one w2.drew (65 + v2 % 26) (by omega) (by omega)
        have kc2 : (convert 22 9 (.slice (some ⟨w2.heap.size, 0, none⟩) 1 1)).run Tryd.prog (w2.alloc (.cells #[.int .u8 (65 + v2 % 26)] 5)) = .ok (.string ⟨#[UInt8.ofNat (65 + v2 % 26).toNat]⟩) (w2.alloc (.cells #[.int .u8 (65 + v2 % 26)] 5)) := conv_one w2 (65 + v2 % 26) (by omega) (by omega)
        generalize hx : 65 + v2 % 26 = x at *
        clear hx
        generalize hc : UInt8.ofNat x.toNat = c at *
        clear hc
        obtain ⟨f1, f2⟩ := change_facts HL.out k hk15 c
        have HC := Lib.hid (show changed s k c = s.extract 0 k ++ ⟨#[c]⟩ ++ s.extract (k + 1) s.size from rfl)
        have z1 : (s.extract 0 k).size ≤ 15 := by rw [ByteArray.size_extract]; omega
        have z2 : (s.extract (k + 1) s.size).size ≤ 15 := by rw [ByteArray.size_extract]; omega
        have o1 : ¬ 9223372036854775807 < (s.extract 0 k).size + 1 := by omega
        have o2 : ¬ 9223372036854775807 < (s.extract 0 k).size + 1 + (s.extract (k + 1) s.size).size := by omega
        have F2 := Lib.hid f2; clear f2
        have b1 : k ≤ s.size := by omega
        have b2 : k + 1 ≤ s.size := by omega
        go_region
        rw [← HC.out]
        have ht : (changed s k c).size ≤ 1048576 := by omega
        have hsz : s.size ≤ 1048576 := by omega
        clear kc kc2 z1 z2 o1 o2 b1 b2 f1 HC
        generalize changed s k c = t at *
        have hbw3 := (hbw2.alloc hbw2.size (.cells #[.int .u8 x] 5)).drew
        go_wp2_with fail
        generalize (w2.alloc (.cells #[.int .u8 x] 5)).drew = w3 at *
        refine (plab_impl s _ hsz (HP.out.below hbw3) ⟨HE.out.1.below hbw3, HE.out.2.below hbw3⟩).mono ?_; rintro e w4 ⟨h4, hb4⟩
        have hbw4 := hbw3.trans (hb4.mono hbw3.size)
        clear hb4 hbw3
        rcases h4 with ⟨a1, b1, y1, _, rfl⟩ | ⟨hn, rfl⟩
        · have hbw5 := hbw4.alloc hbw4.size (.cells #[.int .i64 a1, .int .i64 b1, .string y1] 26)
          go_wp2_with fail
          generalize w4.alloc (.cells #[.int .i64 a1, .int .i64 b1, .string y1] 26) = w5 at *
          refine (plab_impl t _ ht (HP.out.below hbw5) ⟨HE.out.1.below hbw5, HE.out.2.below hbw5⟩).mono ?_; rintro e w6 ⟨h6, hb6⟩
          have hbw7 := hbw5.trans (hb6.mono hbw5.size)
          clear hb6 hbw5
          rcases h6 with ⟨a2, b2, y2, hl2, rfl⟩ | ⟨_, rfl⟩
          · have hts := F2.out a2 b2 y2 hl2
            have q2 : (t.toList == s.toList) = true := by rw [hts]; simp
            clear hl2 hts
            have hbw6 := hbw7.alloc hbw7.size (.cells #[.int .i64 a2, .int .i64 b2, .string y2] 26)
            go_wp2
            all_goals
              go_ret
              exact ⟨by first | rfl | simp, hbw6⟩

          · have hbw6 := hbw7.alloc hbw7.size (.cells #[.int .i64 0, .int .i64 0, .string ⟨#[]⟩] 26)
            go_wp2
            all_goals
              go_ret
              exact ⟨by first | rfl | simp, hbw6⟩

        · exact absurd HL.out (hn a b y)

      · have q0 : (v3 % 2 == 1) = false := by simpa using hodd
        have HO := Lib.hid hodd; clear hodd
        go_wp2_with fail
        have kc : (convert 22 9 (.slice (some ⟨w2.heap.size, 0, none⟩) 1 1)).run Tryd.prog ((w2.alloc (.cells #[.int .u8 (48 + v2 % 10)] 5)).drew) = .ok (.string ⟨#[UInt8.ofNat (48 + v2 % 10).toNat]⟩) ((w2.alloc (.cells #[.int .u8 (48 + v2 % 10)] 5)).drew) := conv_one w2.drew (48 + v2 % 10) (by omega) (by omega)
        have kc2 : (convert 22 9 (.slice (some ⟨w2.heap.size, 0, none⟩) 1 1)).run Tryd.prog (w2.alloc (.cells #[.int .u8 (48 + v2 % 10)] 5)) = .ok (.string ⟨#[UInt8.ofNat (48 + v2 % 10).toNat]⟩) (w2.alloc (.cells #[.int .u8 (48 + v2 % 10)] 5)) := conv_one w2 (48 + v2 % 10) (by omega) (by omega)
        generalize hx : 48 + v2 % 10 = x at *
        clear hx
        generalize hc : UInt8.ofNat x.toNat = c at *
        clear hc
        obtain ⟨f1, f2⟩ := change_facts HL.out k hk15 c
        have HC := Lib.hid (show changed s k c = s.extract 0 k ++ ⟨#[c]⟩ ++ s.extract (k + 1) s.size from rfl)
        have z1 : (s.extract 0 k).size ≤ 15 := by rw [ByteArray.size_extract]; omega
        have z2 : (s.extract (k + 1) s.size).size ≤ 15 := by rw [ByteArray.size_extract]; omega
        have o1 : ¬ 9223372036854775807 < (s.extract 0 k).size + 1 := by omega
        have o2 : ¬ 9223372036854775807 < (s.extract 0 k).size + 1 + (s.extract (k + 1) s.size).size := by omega
        have F2 := Lib.hid f2; clear f2
        have b1 : k ≤ s.size := by omega
        have b2 : k + 1 ≤ s.size := by omega
        go_region
        rw [← HC.out]
        have ht : (changed s k c).size ≤ 1048576 := by omega
        have hsz : s.size ≤ 1048576 := by omega
        clear kc kc2 z1 z2 o1 o2 b1 b2 f1 HC
        generalize changed s k c = t at *
        have hbw3 := (hbw2.alloc hbw2.size (.cells #[.int .u8 x] 5)).drew
        go_wp2_with fail
        generalize (w2.alloc (.cells #[.int .u8 x] 5)).drew = w3 at *
        refine (plab_impl s _ hsz (HP.out.below hbw3) ⟨HE.out.1.below hbw3, HE.out.2.below hbw3⟩).mono ?_; rintro e w4 ⟨h4, hb4⟩
        have hbw4 := hbw3.trans (hb4.mono hbw3.size)
        clear hb4 hbw3
        rcases h4 with ⟨a1, b1, y1, _, rfl⟩ | ⟨hn, rfl⟩
        · have hbw5 := hbw4.alloc hbw4.size (.cells #[.int .i64 a1, .int .i64 b1, .string y1] 26)
          go_wp2_with fail
          generalize w4.alloc (.cells #[.int .i64 a1, .int .i64 b1, .string y1] 26) = w5 at *
          refine (plab_impl t _ ht (HP.out.below hbw5) ⟨HE.out.1.below hbw5, HE.out.2.below hbw5⟩).mono ?_; rintro e w6 ⟨h6, hb6⟩
          have hbw7 := hbw5.trans (hb6.mono hbw5.size)
          clear hb6 hbw5
          rcases h6 with ⟨a2, b2, y2, hl2, rfl⟩ | ⟨_, rfl⟩
          · have hts := F2.out a2 b2 y2 hl2
            have q2 : (t.toList == s.toList) = true := by rw [hts]; simp
            clear hl2 hts
            have hbw6 := hbw7.alloc hbw7.size (.cells #[.int .i64 a2, .int .i64 b2, .string y2] 26)
            go_wp2
            all_goals
              go_ret
              exact ⟨by first | rfl | simp, hbw6⟩

          · have hbw6 := hbw7.alloc hbw7.size (.cells #[.int .i64 0, .int .i64 0, .string ⟨#[]⟩] 26)
            go_wp2
            all_goals
              go_ret
              exact ⟨by first | rfl | simp, hbw6⟩

        · exact absurd HL.out (hn a b y)

end fnOneChange
end Go.Proofs.YtphcjppdmdmejaaDoor

/- The walk of the law on exchanged neighbours. -/
import Derived.Test.YtphcjppdmdmejaaDoorSlip
import Derived.Test.YtphcjppdmdmejaaDoorAt
import Derived.Test.YtphcjppdmdmejaaDoorSwap
namespace Go.Proofs.YtphcjppdmdmejaaDoor
open Go.RowKit
theorem split2 (l : List UInt8) (k : Nat) (h : k + 1 < l.length) : l = l.take k ++ l[k] :: l[k + 1] :: l.drop (k + 2) := by
  conv => lhs; rw [← List.take_append_drop k l]
  rw [List.drop_eq_getElem_cons (by omega), List.drop_eq_getElem_cons (by omega)]
theorem swap_list {s : ByteArray} {x y : List UInt8} {c d : UInt8} (e : s.data.toList = x ++ c :: d :: y) : (swapAt s x.length).data.toList = x ++ d :: c :: y := by
  have hs : s.size = x.length + (2 + y.length) := by
    have := congrArg List.length e
    simp only [List.length_append, List.length_cons, Array.length_toList] at this
    show s.data.size = _
    omega
  unfold swapAt
  simp only [ByteArray.data_append, Array.toList_append, ext_list, e, hs]
  have h1 : (List.drop 0 (x ++ c :: d :: y)).take (x.length - 0) = x := by simp
  have h2 : (List.drop (x.length + 1) (x ++ c :: d :: y)).take (x.length + 2 - (x.length + 1)) = [d] := by
    rw [List.drop_append, List.drop_eq_nil_of_le (by omega)]
    simp
  have h3 : (List.drop x.length (x ++ c :: d :: y)).take (x.length + 1 - x.length) = [c] := by simp
  have h4 : (List.drop (x.length + 2) (x ++ c :: d :: y)).take (x.length + (2 + y.length) - (x.length + 2)) = y := by
    rw [List.drop_append, List.drop_eq_nil_of_le (by omega), show x.length + (2 + y.length) - (x.length + 2) = y.length from by omega]
    simp
  rw [h1, h2, h3, h4]
  simp
theorem swap_facts {s : ByteArray} {a b : Int} {y : ByteArray} (h : IsLab s a b y) (k : Nat) (hk : k < 14) :
    (swapped s k).size = 15 ∧ swapped (swapped s k) k = s ∧ ∀ a' b' y', IsLab (swapped s k) a' b' y' → swapped s k = s := by
  obtain ⟨h15, _⟩ := isLab_at h
  have hl : s.data.toList.length = 15 := by simpa using h15
  have e := split2 s.data.toList k (by omega)
  have hx : (s.data.toList.take k).length = k := by rw [List.length_take]; omega
  generalize hxe : s.data.toList.take k = x at *
  generalize s.data.toList[k] = c at *
  generalize s.data.toList[k + 1] = d at *
  generalize s.data.toList.drop (k + 2) = z at *
  subst hx
  have e1 : swapped s x.length = swapAt s x.length := by unfold swapped; rw [if_pos (by omega)]; rfl
  have l1 := swap_list e
  have s1 : (swapAt s x.length).size = 15 := by
    have h1 := congrArg List.length l1
    have h2 := congrArg List.length e
    simp only [List.length_append, List.length_cons, Array.length_toList] at h1 h2
    show (swapAt s x.length).data.size = 15
    have : s.data.size = 15 := h15
    omega
  rw [e1]
  refine ⟨s1, ?_, fun a' b' y' h' => ?_⟩
  · have e2 : swapped (swapAt s x.length) x.length = swapAt (swapAt s x.length) x.length := by unfold swapped; rw [if_pos (by omega)]; rfl
    rw [e2]
    exact ba_ext ((swap_list l1).trans e.symm)
  · have := lab_swap_slip h h' x z c d e l1
    subst this
    exact ba_ext (l1.trans e.symm)
namespace fnOneSwap
set_option maxRecDepth 100000 in
set_option maxHeartbeats 2000000 in
theorem walk (A : Option Addr) (n cap : Nat) (w : World) (hr : BytesIn w A n) (_hm : n ≤ maxLen) (hp : PowIs w) (he : ErrIs w "strconv.ErrRange" ∧ ErrIs w "strconv.ErrSyntax") :
    Calls Tryd.prog 4 #[.slice A n cap] w fun e w' => e = .returned (.bool true) ∧ Below w.heap.size w w' := by
  clear _hm
  have HR := Lib.hid hr; clear hr
  have HP := Lib.hid hp; clear hp
  have HE := Lib.hid he; clear he
  by_cases hbig : 4096 < n
  · have hB : bigB n = true := by simp [bigB, hbig]
    go_enter Tryd.func4, Tryd.ntmps4
    go_wp2_with fail
    refine (big_any _ _ _ _).mono ?_; rintro e w1 ⟨rfl, rfl⟩
    go_wp2
    go_ret
    exact ⟨rfl, Below.refl _ _⟩
  · have hB : bigB n = false := by simp [bigB]; omega
    obtain ⟨v, hv0, hv1, hat⟩ := at_val A n cap w HR.out (by omega) 1 (by omega)
    have HAT := Lib.hid hat; clear hat
    go_enter Tryd.func4, Tryd.ntmps4
    go_wp2_with fail
    refine (big_any _ _ _ _).mono ?_; rintro e w1 ⟨rfl, rfl⟩
    go_wp2_with fail
    refine (drawFormatLabel_any A n cap _ (by omega) HR.out).mono ?_
    rintro e w1 ⟨⟨a, b, y, ha, hb, hy, rfl⟩, hb1⟩
    clear ha hb
    go_wp2_with fail
    refine (flab_spec a b y _ (by omega)).mono ?_; rintro e w2 ⟨rfl, hb2⟩
    have hbw2 := hb1.trans (hb2.mono hb1.size)
    clear hb1 hb2
    cases hl : labB a b y.data.toList with
    | false =>
      rw [flab_empty _ _ _ hl]
      clear hl
      go_wp2
      go_ret
      exact ⟨rfl, hbw2⟩
    | true =>
      obtain ⟨s, hse⟩ : ∃ s, s = flab a b y := ⟨_, rfl⟩
      have hlab : IsLab s a b y := ⟨hl, by rw [hse]⟩
      rw [← hse]
      obtain ⟨h15, _⟩ := isLab_at hlab
      have HL := Lib.hid hlab; clear hlab hl hse
      have hne : s.toList.isEmpty = false := by rw [ByteArray.toList_eq]; exact toList_emp s (by omega)
      have hsz : s.size ≤ 1048576 := by omega
      have HZ := Lib.hid h15; clear h15
      go_wp2_with fail
      refine (HAT.out _ hbw2).mono ?_; rintro e w3 ⟨rfl, rfl⟩
      go_wp2_with fail
      refine (swap_impl s (v % 14) _ (by unfold maxLen; omega) (by omega)).mono ?_; rintro e w3 ⟨rfl, nq, rfl⟩
      obtain ⟨k, hk⟩ : ∃ k : Nat, v % 14 = (k : Int) := ⟨(v % 14).toNat, by omega⟩
      have hk14 : k < 14 := by omega
      rw [hk]
      obtain ⟨f1, f2, f3⟩ := swap_facts HL.out k hk14
      have F2 := Lib.hid f2; have F3 := Lib.hid f3; have HK := Lib.hid hk; clear f2 f3 hk
      generalize swapped s k = t at *
      have ht : t.size ≤ 1048576 := by omega
      have q1 : ((t.size : Int) == 15) = true := by simp; omega
      clear f1
      have hbw3 := below_drewN hbw2 nq
      go_wp2_with fail
      refine (plab_impl t _ ht (HP.out.below hbw3) ⟨HE.out.1.below hbw3, HE.out.2.below hbw3⟩).mono ?_; rintro e w4 ⟨h4, hb4⟩
      have hbw4 := hbw3.trans (hb4.mono hbw3.size)
      clear hb4 hbw3
      rcases h4 with ⟨a', b', y', hl', rfl⟩ | ⟨hn, rfl⟩
      · have hts := F3.out a' b' y' hl'
        have q2 : (t.toList == s.toList) = true := by rw [hts]; simp
        clear hl' hts
        have hbw5 := hbw4.alloc hbw4.size (.cells #[.int .i64 a', .int .i64 b', .string y'] 26)
        go_wp2_with fail
        refine (HAT.out _ hbw5).mono ?_; rintro e w5 ⟨rfl, rfl⟩
        go_wp2_with fail
        refine (swap_impl t (v % 14) _ (by unfold maxLen; omega) (by omega)).mono ?_; rintro e w5 ⟨rfl, nq2, rfl⟩
        rw [HK.out, F2.out]
        go_wp2
        go_ret
        exact ⟨rfl, below_drewN hbw5 nq2⟩
      · clear hn
        have hbw5 := hbw4.alloc hbw4.size (.cells #[.int .i64 0, .int .i64 0, .string ⟨#[]⟩] 26)
        go_wp2_with fail
        refine (HAT.out _ hbw5).mono ?_; rintro e w5 ⟨rfl, rfl⟩
        go_wp2_with fail
        refine (swap_impl t (v % 14) _ (by unfold maxLen; omega) (by omega)).mono ?_; rintro e w5 ⟨rfl, nq2, rfl⟩
        rw [HK.out, F2.out]
        go_wp2
        all_goals
          go_ret
          exact ⟨by first | rfl | simp, below_drewN hbw5 nq2⟩
end fnOneSwap
end Go.Proofs.YtphcjppdmdmejaaDoor

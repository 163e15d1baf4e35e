/- The walk of the law on Amended. -/
import Derived.Test.YtphcjppdmdmejaaDoorMark
namespace Go.Proofs.YtphcjppdmdmejaaDoor
open Go.RowKit
theorem own_slice {w : World} {b : Nat} {v : Value} {l : List ByteArray} (h : OwnStr w b v l) (hl : l ≠ []) : ∃ g cap, v = .slice (some ⟨g, 0, none⟩) l.length cap ∧ b ≤ g ∧ g < w.heap.size := by
  have hne : 0 < l.length := List.length_pos_iff.2 hl
  rcases h.2 with ⟨_, h⟩ | ⟨g, cap, _, h1, h2, h3, _⟩
  · omega
  · exact ⟨g, cap, h1, h2, (Array.getElem?_eq_some_iff.1 h3).1⟩
theorem own_empty {w : World} {b : Nat} {v : Value} (h : OwnStr w b v []) : ∃ (A : Option Addr) (cap : Nat), v = .slice A 0 cap := by
  rcases h.2 with ⟨h, _⟩ | ⟨g, cap, _, h, _⟩
  · exact ⟨_, _, h⟩
  · exact ⟨_, _, h⟩
theorem amL_len (s : ByteArray) : (amL s).length ≤ 540 := by
  unfold amL
  split
  · exact amTo_len s 15
  · simp
set_option maxRecDepth 100000 in
theorem mark_none (A : Option Addr) (cap k : Nat) (w : World) :
    Calls Tryd.prog 36 #[.slice A 0 cap, .int .i64 k] w fun e w' => e = .returned (.int .i64 k) ∧ w' = w := by
  go_enter Tryd.func36, Tryd.ntmps36
  go_wp2
  go_loopw [1, 5] (fun k' i wr => i = .int .i64 0 ∧ k' = .int .i64 k ∧ wr = w) (fun _ _ _ => 0)
  case atStart => exact ⟨rfl, rfl, rfl⟩
  case round =>
    obtain ⟨rfl, rfl, rfl⟩ := hrel
    go_wp2
    go_ret
    exact ⟨rfl, rfl⟩
set_option maxRecDepth 100000 in
theorem held_none (A : Option Addr) (cap k : Nat) (w : World) :
    Calls Tryd.prog 37 #[.slice A 0 cap, .int .i64 k] w fun e w' => e = .returned (.int .i64 k) ∧ w' = w := by
  go_enter Tryd.func37, Tryd.ntmps37
  go_wp2
  go_loopw [1, 5] (fun k' i wr => i = .int .i64 0 ∧ k' = .int .i64 k ∧ wr = w) (fun _ _ _ => 0)
  case atStart => exact ⟨rfl, rfl, rfl⟩
  case round =>
    obtain ⟨rfl, rfl, rfl⟩ := hrel
    go_wp2
    go_ret
    exact ⟨rfl, rfl⟩
namespace fnExactAmended
set_option maxRecDepth 100000 in
set_option maxHeartbeats 1000000 in
theorem walk (s : ByteArray) (hs : s.size ≤ maxLen) (w : World) (hp : PowIs w) (he : ErrIs w "strconv.ErrRange" ∧ ErrIs w "strconv.ErrSyntax") :
    Calls Tryd.prog 12 #[.string s] w fun e w' => e = .returned (.bool true) ∧ Below w.heap.size w w' := by
  have hm := hs
  unfold maxLen at hm
  have HP := Lib.hid hp; clear hp
  have HE := Lib.hid he; clear he
  by_cases hbig : (1048576 : Int) < (s.size : Int)
  · go_enter Tryd.func12, Tryd.ntmps12
    go_wp2
    go_ret
    exact ⟨rfl, Below.refl _ _⟩
  · have hlen := amL_len s
    go_enter Tryd.func12, Tryd.ntmps12
    go_wp2_with fail
    refine (am_spec s w (by omega)).mono ?_; rintro e w1 ⟨v0, rfl, ho0, hb1⟩
    have hp1 := HP.out.below hb1
    have he1 := And.intro (HE.out.1.below hb1) (HE.out.2.below hb1)
    go_wp2_with fail
    refine (am_impl s w1 (by omega) hp1 he1).mono ?_; rintro e w2 ⟨v1, rfl, ho1, hb2⟩
    clear hp1 he1
    have ho0' := own_below ho0 hb2
    have HV0 := Lib.hid (show ∀ k, v0.ownBlock = some k → k < w1.heap.size from fun k h => (ho0.lt k h).2)
    have hb12 := hb1.trans (hb2.mono hb1.size)
    go_wp2_with fail
    refine (eq_strs v1 v0 (amL s) _ _ w2 ho1 ho0' (by omega)).mono ?_; rintro e w3 ⟨rfl, hb3⟩
    have ho0 := own_below ho0' hb3
    have hb13 := hb12.trans (hb3.mono hb12.size)
    have ho1 := own_below ho1 hb3
    clear ho0'
    by_cases hl : amL s = []
    · rw [hl] at ho1
      obtain ⟨A, cap, rfl⟩ := own_empty ho1
      go_wp2_with fail
      refine (mark_none A cap 1 w3).mono ?_; rintro e w4 ⟨rfl, rfl⟩
      go_wp2_with fail
      refine (held_none A cap 1 w4).mono ?_; rintro e w5 ⟨rfl, rfl⟩
      have hp1 := HP.out.below hb13
      have he1 := And.intro (HE.out.1.below hb13) (HE.out.2.below hb13)
      go_wp2_with fail
      refine (am_impl s w5 (by omega) hp1 he1).mono ?_; rintro e w6 ⟨v2, rfl, ho2, hb6⟩
      have hb16 := hb13.trans (hb6.mono hb13.size)
      go_wp2_with fail
      refine (eq_strs v2 v0 (amL s) _ _ w6 ho2 (own_below ho0 hb6) (by omega)).mono ?_; rintro e w7 ⟨rfl, hb7⟩
      have hb17 := hb16.trans (hb7.mono hb16.size)
      go_wp2_with fail
      refine (held_none A cap 1 w7).mono ?_; rintro e w8 ⟨rfl, rfl⟩
      go_wp2
      go_ret
      exact ⟨rfl, hb17⟩
    · obtain ⟨g, cap, rfl, hg1, hg2⟩ := own_slice ho1 hl
      have hgb : w.heap.size ≤ g := Nat.le_trans hb1.size hg1
      go_wp2_with fail
      refine (mark_strs g cap 1 _ (amL s) w3 ho1 (by omega) (by omega) (by omega)).mono ?_; rintro e w4 ⟨rfl, hmk, hgr⟩
      have ho0 : OwnStr w4 w.heap.size v0 (amL s) := World.ownsRow.kept ho0 hgr (.inr (fun h => by have := HV0.out g h; omega))
      have hb14 := hb13.grown hgr hb13.size (fun k h => by cases h; exact hgb)
      obtain ⟨M, hM⟩ : ∃ M : Nat, M = 1 + (amL s).length := ⟨_, rfl⟩
      rw [← hM]
      have HM := Lib.hid hM; clear hM
      have hMb : ¬ ((M : Int) < 0) := by omega
      have hMM : ((M : Int) != (M : Int)) = false := by simp
      go_wp2_with fail
      refine (held_strs g cap 1 _ (amL s).length w4 hmk (by omega) (by omega) (by omega)).mono ?_; rintro e w5 ⟨rfl, hb5⟩
      rw [← HM.out]
      have hb15 := hb14.trans (hb5.mono hb14.size)
      have ho0 := own_below ho0 hb5
      have hmk := own_below hmk hb5
      have hp1 := HP.out.below hb15
      have he1 := And.intro (HE.out.1.below hb15) (HE.out.2.below hb15)
      go_wp2_with fail
      refine (am_impl s w5 (by omega) hp1 he1).mono ?_; rintro e w6 ⟨v2, rfl, ho2, hb6⟩
      have hb16 := hb15.trans (hb6.mono hb15.size)
      have hmk := own_below hmk hb6
      go_wp2_with fail
      refine (eq_strs v2 v0 (amL s) _ _ w6 ho2 (own_below ho0 hb6) (by omega)).mono ?_; rintro e w7 ⟨rfl, hb7⟩
      have hb17 := hb16.trans (hb7.mono hb16.size)
      have hmk := own_below hmk hb7
      go_wp2_with fail
      refine (held_strs g cap 1 _ (amL s).length w7 hmk (by omega) (by omega) (by omega)).mono ?_; rintro e w8 ⟨rfl, hb8⟩
      rw [← HM.out]
      go_wp2
      go_ret
      exact ⟨rfl, hb17.trans (hb8.mono hb17.size)⟩
end fnExactAmended
end Go.Proofs.YtphcjppdmdmejaaDoor

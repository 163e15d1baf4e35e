/- The contracts of the two texts of FormatLabel. -/
import Derived.Test.YtichnpjpldkceaaDoorCheck
import Derived.Deep.RegionWith
namespace Go.Proofs.YtichnpjpldkceaaDoor
open Go.RowKit
def flabD (a b : Int) (s : ByteArray) : ByteArray := bodyS a b s ++ padS 2 (chk a b s).toNat
def flab (a b : Int) (s : ByteArray) : ByteArray := if labB a b s.data.toList then flabD a b s else ⟨#[]⟩
theorem chk_bd (a b : Int) (s : ByteArray) (h : labB a b s.data.toList = true) : 2 ≤ chk a b s ∧ chk a b s ≤ 99 := by
  unfold chk chkD
  rw [if_pos h]
  have := mod97_bd (digsS (bodyZ a b s).data.toList).data.toList
  omega
set_option maxRecDepth 100000 in
set_option maxHeartbeats 2000000 in
theorem flab_spec (a b : Int) (s : ByteArray) (w : World) (hs : s.size ≤ 1048576) :
    Calls Tryd.prog 27 #[.agg #[.int .i64 a, .int .i64 b, .string s]] w fun e w' => e = .returned (.string (flab a b s)) ∧ Below w.heap.size w w' := by
  have hs' : s.size ≤ maxLen := by unfold maxLen; omega
  have hbW := ((Below.refl w.heap.size w).alloc (Nat.le_refl _) (.cells #[.int .i64 a, .int .i64 b, .string s] 29))
  have hB := BoxIs.new w a b s 29
  go_enter Tryd.func27, Tryd.ntmps27
  go_wp2_with fail
  generalize w.alloc (.cells #[.int .i64 a, .int .i64 b, .string s] 29) = W at *
  refine (label_spec _ _ _ _ hs').mono ?_; rintro e W1 ⟨rfl, hb1⟩
  have hB1 := hB.below hb1
  obtain ⟨c0, c1, c2, hz⟩ := hB1
  have hzW : w.heap.size < W.heap.size := hB.2.2.2
  clear hB
  cases hl : labB a b s.data.toList with
  | false =>
    have HL := Lib.hid hl; clear hl
    go_wp2
    go_ret
    exact ⟨ret_str' (by unfold flab; rw [HL.out]; rfl), hbW.trans (hb1.mono (by omega))⟩
  | true =>
    obtain ⟨h1, h2, h3⟩ := lab_parts hl
    obtain ⟨n, rfl⟩ := Int.eq_ofNat_of_zero_le h2.1
    have hsz := body_size _ _ _ hl
    have hk := chk_bd _ _ _ hl
    have HF := Lib.hid (show flab a n s = bodyS a n s ++ padS 2 (chk a n s).toNat from by unfold flab flabD; rw [if_pos hl])
    have HL := Lib.hid hl; clear hl
    have HN1 := Lib.hid (show -9223372036854775808 ≤ a ∧ a ≤ 9223372036854775807 by omega)
    have HN2 := Lib.hid (show n < 10 ^ 9 by omega)
    have hbw1 := hbW.trans (hb1.mono (Nat.le_of_lt hzW))
    clear h1 h2 h3 hb1 hbW
    obtain ⟨k, hke⟩ : ∃ k : Nat, chk a n s = (k : Int) := ⟨(chk a n s).toNat, by omega⟩
    have hk1 : k ≤ 99 := by omega
    have HK := Lib.hid hke; clear hk hke
    have HK1 := Lib.hid (show k < 10 ^ 2 by omega)
    have HK2 := Lib.hid (show (Lib.decDigits k).length ≤ 2 by
      by_cases h : k < 10
      · rw [dec_last k h]; simp
      · rw [Lib.decDigits_two h (by omega)]; simp)
    have hyz := padS_size 2 k (by omega) HK1.out
    have hy : (padS 2 k).size ≤ 2 := by omega
    obtain ⟨x, hxe⟩ : ∃ x, x = bodyS a n s := ⟨_, rfl⟩
    obtain ⟨y, hye⟩ : ∃ y, y = padS 2 k := ⟨_, rfl⟩
    rw [← hxe] at hsz; rw [← hye] at hy
    have HX := Lib.hid hxe; have HY := Lib.hid hye
    clear hxe hye hyz
    have o1 : ¬ 9223372036854775807 < x.size + y.size := by omega
    clear hzW
    go_wp2_with fail
    go_region_with (first
      | (go_at_call 58; refine (body_spec a n s _ HN1.out HN2.out hs).mono ?_; (rintro e u ⟨he, hu⟩; rw [← HX.out] at he; subst he; (first | (have hb1 : Below W1.heap.size W1 u := below_undrew hu) | (have hb2 : Below W1.heap.size W1 u := hb1.trans (hu.mono hb1.size)) | (have hb3 : Below W1.heap.size W1 u := hb2.trans (hu.mono hb2.size))); (first | (have hcu : ∀ (b o : Nat), b < W1.heap.size → u.cell? ⟨b, o, none⟩ = W1.cell? ⟨b, o, none⟩ := (old_cells hb3).1) | (have hcu : ∀ (b o : Nat), b < W1.heap.size → u.cell? ⟨b, o, none⟩ = W1.cell? ⟨b, o, none⟩ := (old_cells hb2).1) | (have hcu : ∀ (b o : Nat), b < W1.heap.size → u.cell? ⟨b, o, none⟩ = W1.cell? ⟨b, o, none⟩ := (old_cells hb1).1))))
      | (go_at_call 60; refine (check_spec a n s _ hs).mono ?_; (rintro e u ⟨he, hu⟩; rw [HK.out] at he; subst he; (first | (have hb1 : Below W1.heap.size W1 u := below_undrew hu) | (have hb2 : Below W1.heap.size W1 u := hb1.trans (hu.mono hb1.size)) | (have hb3 : Below W1.heap.size W1 u := hb2.trans (hu.mono hb2.size))); (first | (have hcu : ∀ (b o : Nat), b < W1.heap.size → u.cell? ⟨b, o, none⟩ = W1.cell? ⟨b, o, none⟩ := (old_cells hb3).1) | (have hcu : ∀ (b o : Nat), b < W1.heap.size → u.cell? ⟨b, o, none⟩ = W1.cell? ⟨b, o, none⟩ := (old_cells hb2).1) | (have hcu : ∀ (b o : Nat), b < W1.heap.size → u.cell? ⟨b, o, none⟩ = W1.cell? ⟨b, o, none⟩ := (old_cells hb1).1))))
      | (go_at_call 59; refine (pad_spec k 2 _ (by omega) (by omega) HK2.out).mono ?_; (rintro e u ⟨he, hu⟩; rw [← HY.out] at he; subst he; (first | (have hb1 : Below W1.heap.size W1 u := below_undrew hu) | (have hb2 : Below W1.heap.size W1 u := hb1.trans (hu.mono hb1.size)) | (have hb3 : Below W1.heap.size W1 u := hb2.trans (hu.mono hb2.size))); (first | (have hcu : ∀ (b o : Nat), b < W1.heap.size → u.cell? ⟨b, o, none⟩ = W1.cell? ⟨b, o, none⟩ := (old_cells hb3).1) | (have hcu : ∀ (b o : Nat), b < W1.heap.size → u.cell? ⟨b, o, none⟩ = W1.cell? ⟨b, o, none⟩ := (old_cells hb2).1) | (have hcu : ∀ (b o : Nat), b < W1.heap.size → u.cell? ⟨b, o, none⟩ = W1.cell? ⟨b, o, none⟩ := (old_cells hb1).1)))))
    all_goals
      go_wp2
      go_ret
      exact ⟨ret_str' (by rw [HF.out, HK.out, Int.toNat_natCast, ← HX.out, ← HY.out]), hbw1.trans (hb3.mono (by have := hbw1.size; omega))⟩
end Go.Proofs.YtichnpjpldkceaaDoor

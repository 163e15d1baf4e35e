/- The walk of the law on FormatLeg. -/
import Derived.Test.YtichnpjpldkceaaDoorFLeg
namespace Go.Proofs.YtichnpjpldkceaaDoor.fnExactFormatLeg
open Go.RowKit
set_option maxRecDepth 100000 in
set_option maxHeartbeats 1000000 in
theorem walk (f t : ByteArray) (s k d r : Int) (hf : f.size ≤ maxLen) (ht : t.size ≤ maxLen) (w : World) (hp : PowIs w) :
    Calls Tryd.prog 6 #[.agg #[.string f, .string t, .int .i64 s, .int .i64 k, .int .i64 d, .int .i64 r]] w fun e w' => e = .returned (.bool true) ∧ Below w.heap.size w w' := by
  have HPW := Lib.hid (fun W (h : Below w.heap.size w W) => hp.below h); clear hp
  have HSP := Lib.hid (fun W => fleg_spec f t s k d r W hf ht)
  have HIM := Lib.hid (fun W h => fleg_impl f t s k d r W hf ht h)
  have HF := Lib.hid hf; have HT := Lib.hid ht; clear hf ht
  generalize fmtLeg f t s k d r = V at *
  have hq : (V.toList != V.toList) = false := by simp
  go_enter Tryd.func6, Tryd.ntmps6
  go_wp2_with fail
  refine (sz_lg f t s k d r 1048576 _ HF.out HT.out (by omega)).mono ?_; rintro e w1 ⟨⟨q, rfl, hr⟩, hb1⟩
  obtain ⟨hc1, hf1⟩ := old_cells hb1
  have hz1 : w.heap.size < w1.heap.size := by have := hb1.size; simp at this; omega
  rcases hr with rfl | ⟨hr0, hr1, _⟩
  · go_wp2
    go_ret
    exact ⟨rfl, ((Below.refl _ _).alloc (Nat.le_refl _) _).trans (hb1.mono (by simp))⟩
  have hrn : ¬ q < 0 := by omega
  go_wp2_with fail
  refine (to_lg _ _ _ _ _ _ _).mono ?_; rintro e w2 ⟨rfl, hb2⟩
  obtain ⟨hc2, hf2⟩ := old_cells hb2
  have hz2 : w.heap.size < w2.heap.size := by have := hb2.size; omega
  go_wp2_with fail
  refine (HSP.out _).mono ?_; rintro e w3 ⟨rfl, hb3⟩
  obtain ⟨hc3, hf3⟩ := old_cells hb3
  have hz3 : w.heap.size < w3.heap.size := by have := hb3.size; omega
  go_wp2_with fail
  refine (to_lg _ _ _ _ _ _ _).mono ?_; rintro e w4 ⟨rfl, hb4⟩
  have hz4 : w.heap.size < w4.heap.size := by have := hb4.size; omega
  have HBB := Lib.hid (((Below.refl w.heap.size w).alloc (Nat.le_refl _) (.cells #[.string f, .string t, .int .i64 s, .int .i64 k, .int .i64 d, .int .i64 r] 41)).trans ((hb1.mono (by simp)).trans ((hb2.mono (by omega)).trans ((hb3.mono (by omega)).trans (hb4.mono (by omega))))))
  go_wp2_with fail
  refine (HIM.out _ (HPW.out _ HBB.out)).mono ?_; rintro e w5 ⟨rfl, hb5⟩
  go_wp2
  go_ret
  exact ⟨rfl, HBB.out.trans (hb5.mono (by omega))⟩
end Go.Proofs.YtichnpjpldkceaaDoor.fnExactFormatLeg

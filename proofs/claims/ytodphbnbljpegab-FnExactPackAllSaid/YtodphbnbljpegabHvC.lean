/- heaviestFirst's order: the closure over the weights. -/
import Derived.Test.YtodphbnbljpegabOrI
import Derived.Test.YtodphbnbljpegabShelfP
namespace Go.Proofs.Ytodphbnbljpegab
open Go.RowKit
def cfZ (G : Tz) (x y : Int) : Int := orZ (Lib.compareInt ((G y).getD 0) ((G x).getD 0)) (Lib.compareInt x y)
set_option maxRecDepth 100000 in
set_option maxHeartbeats 1000000 in
theorem heav_cmp (x y : Int) (hx : -9223372036854775808 ≤ x ∧ x ≤ 9223372036854775807) (hy : -9223372036854775808 ≤ y ∧ y ≤ 9223372036854775807) (p b n : Nat) (G : Tz) (W : World) (hp : W.cell? ⟨p, 0, none⟩ = some (.map (some b))) (hM : MapZ W b n G) :
    Calls Try.prog 129 #[.int .i64 x, .int .i64 y, .pointer (some ⟨p, 0, none⟩)] W fun e w' => e = .returned (.int .i64 (cfZ G x y)) ∧ ∃ o, w' = W.alloc o := by
  have HM := Lib.hid hM; clear hM
  have HC1 := Lib.hid (Try.cmp_Compare_int ((G y).getD 0) ((G x).getD 0) W)
  have HC2 := Lib.hid (Try.cmp_Compare_int x y W)
  have HOR := Lib.hid (or_two (Lib.compareInt ((G y).getD 0) ((G x).getD 0)) (Lib.compareInt x y))
  unfold cfZ
  obtain ⟨Y, hY⟩ : ∃ Y, (G y).getD 0 = Y := ⟨_, rfl⟩
  obtain ⟨X, hX⟩ : ∃ X, (G x).getD 0 = X := ⟨_, rfl⟩
  rw [hY, hX] at HC1 HOR ⊢
  have HY := Lib.hid hY; have HX := Lib.hid hX; clear hY hX
  generalize Lib.compareInt Y X = r1 at *
  generalize Lib.compareInt x y = r2 at *
  have HBX := Lib.hid hx; have HBY := Lib.hid hy; clear hx hy
  go_enter Try.func129, Try.ntmps129
  go_wp2_with (first
    | (at_lookup; refine wp_look1Z rfl _ _ 141 rfl Try.underlying141 b n G rfl HM.out y rfl HBY.out Y HY.out ?_)
    | (at_lookup; refine wp_look1Z rfl _ _ 141 rfl Try.underlying141 b n G rfl HM.out x rfl HBX.out X HX.out ?_))
  refine HC1.out.mono ?_; rintro e w1 ⟨rfl, rfl⟩
  go_wp2_with fail
  refine HC2.out.mono ?_; rintro e w2 ⟨rfl, rfl⟩
  go_wp2_with fail
  refine (HOR.out w2.heap.size 2 (w2.alloc (.cells #[.int .i64 r1, .int .i64 r2] 3)) (by simp) (by simp)).mono ?_; rintro e w3 ⟨rfl, rfl⟩
  go_wp2
  go_ret
  exact ⟨rfl, _, rfl⟩
end Go.Proofs.Ytodphbnbljpegab

/- CompareScans, with what it lays. Out of mk/sccmp2.py. -/
import Derived.Test.YtamlbiagjipedaaGreatScCmp
namespace Go.Proofs.YtamlbiagjipedaaGreat
open Go.RowKit
set_option maxRecDepth 100000 in
set_option maxHeartbeats 2000000 in
theorem cmp_sc_w (h a k : Int) (p : ByteArray) (g d h' a' k' : Int) (p' : ByteArray) (g' d' : Int) (w : World) :
    Calls Tryz.prog 18 #[.agg #[.int .i64 h, .int .i64 a, .int .i64 k, .string p, .int .i64 g, .int .i64 d], .agg #[.int .i64 h', .int .i64 a', .int .i64 k', .string p', .int .i64 g', .int .i64 d']] w fun e w' => e = .returned (.int .i64 (cmpSc ⟨h, a, k, p, g, d⟩ ⟨h', a', k', p', g', d'⟩)) ∧ ∃ o1 o2 o3 : Obj, w' = (((w.alloc o1).alloc o2).drew).alloc o3 := by
  have H2 := Lib.hid (two w (.cells #[.int .i64 h, .int .i64 a, .int .i64 k, .string p, .int .i64 g, .int .i64 d] 34) (.cells #[.int .i64 h', .int .i64 a', .int .i64 k', .string p', .int .i64 g', .int .i64 d'] 34))
  have HOR := Lib.hid (fun g0 q w0 hc => or_list (scL ⟨h, a, k, p, g, d⟩ ⟨h', a', k', p', g', d'⟩) g0 q w0 hc (by simp [scL]))
  have HE := Lib.hid (show cmpSc ⟨h, a, k, p, g, d⟩ ⟨h', a', k', p', g', d'⟩ = orL (scL ⟨h, a, k, p, g, d⟩ ⟨h', a', k', p', g', d'⟩) from rfl)
  generalize cmpSc ⟨h, a, k, p, g, d⟩ ⟨h', a', k', p', g', d'⟩ = R at *
  generalize hB : w.heap.size = B at *
  have HBE := Lib.hid hB
  go_enter Tryz.func18, Tryz.ntmps18
  go_wp2
  clear hB
  obtain ⟨W, hWW⟩ : ∃ W, W = (w.alloc (.cells #[.int .i64 h, .int .i64 a, .int .i64 k, .string p, .int .i64 g, .int .i64 d] 34)).alloc (.cells #[.int .i64 h', .int .i64 a', .int .i64 k', .string p', .int .i64 g', .int .i64 d'] 34) := ⟨_, rfl⟩
  rw [← hWW] at H2 ⊢
  have HWW := Lib.hid hWW; clear hWW
  obtain ⟨h1, h2, h3, h4⟩ := H2.out
  clear H2
  refine wp_region_still_tail 34 (by kernel_rfl) (by kernel_rfl) ?_
  obtain ⟨X, hX⟩ : ∃ X, X = W.drew := ⟨_, rfl⟩
  change wpStill _ _ W.drew (fun a' => wpList _ _ _ _ a' W.drew) _ _
  rw [← hX]
  obtain ⟨c0, c1, c2, c3, c4, c5⟩ := row6 (show X.heap[B]? = _ by rw [hX]; exact h1)
  obtain ⟨d0, d1, d2, d3, d4, d5⟩ := row6 (show X.heap[B + 1]? = _ by rw [hX]; exact h2)
  have HXX := Lib.hid hX
  clear hX h1 h2 h3 h4
  simp only [List.take_succ_cons, List.take_zero, List.drop_succ_cons, List.drop_zero]
  repeat still_step
  still_call ((cmp_int _ _ _).mono fun _ _ ⟨h1, h2⟩ => ⟨h1, h2.symm⟩)
  repeat still_step
  still_call ((cmp_int _ _ _).mono fun _ _ ⟨h1, h2⟩ => ⟨h1, h2.symm⟩)
  repeat still_step
  still_call ((cmp_int _ _ _).mono fun _ _ ⟨h1, h2⟩ => ⟨h1, h2.symm⟩)
  repeat still_step
  still_call ((cmp_int _ _ _).mono fun _ _ ⟨h1, h2⟩ => ⟨h1, h2.symm⟩)
  repeat still_step
  still_call ((cmp_int _ _ _).mono fun _ _ ⟨h1, h2⟩ => ⟨h1, h2.symm⟩)
  repeat still_step
  still_call ((cmp_str _ _ _).mono fun _ _ ⟨h1, h2⟩ => ⟨h1, h2.symm⟩)
  repeat still_step
  refine wpStill_nil ?_
  go_wp2_with fail
  refine (HOR.out _ _ _ ?_).mono ?_
  · intro j hj
    have hj6 : j < 6 := hj
    have hcase : j = 0 ∨ j = 1 ∨ j = 2 ∨ j = 3 ∨ j = 4 ∨ j = 5 := by omega
    rcases hcase with rfl | rfl | rfl | rfl | rfl | rfl <;> (simp [scL]; try go_simp)
  rintro e w' ⟨rfl, rfl⟩
  go_wp2
  go_ret
  exact ⟨ret_int HE.out.symm, _, _, _, by rw [HXX.out, HWW.out]⟩
end Go.Proofs.YtamlbiagjipedaaGreat

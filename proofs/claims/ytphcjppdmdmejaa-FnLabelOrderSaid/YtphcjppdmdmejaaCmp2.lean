/- The contract of impl.CompareLabels. -/
import Derived.Test.YtphcjppdmdmejaaCmp
import Derived.StillTailTactics
namespace Go.Proofs.Ytphcjppdmdmejaa
open Go.RowKit
set_option maxHeartbeats 400000 in
theorem cmp_impl (a b a' b' : Int) (s t : ByteArray) (w : World) :
    Calls Try.prog 13 #[.agg #[.int .i64 a, .int .i64 b, .string s], .agg #[.int .i64 a', .int .i64 b', .string t]] w fun e w' => e = .returned (.int .i64 (cmpL a b s a' b' t)) ∧ Below w.heap.size w w' := by
  go_enter Try.func13, Try.ntmps13
  go_wp2
  obtain ⟨W, hW⟩ : ∃ W, W = ((w.alloc (.cells #[.int .i64 a, .int .i64 b, .string s] 25)).alloc (.cells #[.int .i64 a', .int .i64 b', .string t] 25)) := ⟨_, rfl⟩
  rw [← hW]
  have c0 : W.cell? ⟨w.heap.size, 0, none⟩ = some (.int .i64 a) := by rw [hW]; go_simp
  have c1 : W.cell? ⟨w.heap.size, 1, none⟩ = some (.int .i64 b) := by rw [hW]; go_simp
  have c2 : W.cell? ⟨w.heap.size, 2, none⟩ = some (.string s) := by rw [hW]; go_simp
  have d0 : W.cell? ⟨w.heap.size + 1, 0, none⟩ = some (.int .i64 a') := by rw [hW]; go_simp
  have d1 : W.cell? ⟨w.heap.size + 1, 1, none⟩ = some (.int .i64 b') := by rw [hW]; go_simp
  have d2 : W.cell? ⟨w.heap.size + 1, 2, none⟩ = some (.string t) := by rw [hW]; go_simp
  have hb : Below w.heap.size w W := by rw [hW]; exact ((Below.refl _ _).alloc (Nat.le_refl _) _).alloc (by simp) _
  clear hW
  refine wp_region_still_tail 15 (by kernel_rfl) (by kernel_rfl) ?_
  obtain ⟨X, hX⟩ : ∃ X, X = W.drew := ⟨_, rfl⟩
  change wpStill _ _ W.drew (fun a' => wpList _ _ _ _ a' W.drew) _ _
  rw [← hX]
  have c0' : X.cell? ⟨w.heap.size, 0, none⟩ = some (.int .i64 a) := by rw [hX]; exact c0
  have c1' : X.cell? ⟨w.heap.size, 1, none⟩ = some (.int .i64 b) := by rw [hX]; exact c1
  have c2' : X.cell? ⟨w.heap.size, 2, none⟩ = some (.string s) := by rw [hX]; exact c2
  have d0' : X.cell? ⟨w.heap.size + 1, 0, none⟩ = some (.int .i64 a') := by rw [hX]; exact d0
  have d1' : X.cell? ⟨w.heap.size + 1, 1, none⟩ = some (.int .i64 b') := by rw [hX]; exact d1
  have d2' : X.cell? ⟨w.heap.size + 1, 2, none⟩ = some (.string t) := by rw [hX]; exact d2
  have hb' : Below w.heap.size w X := by rw [hX]; exact hb.drew
  clear hX c0 c1 c2 d0 d1 d2 hb
  simp only [List.take_succ_cons, List.take_zero, List.drop_succ_cons, List.drop_zero]
  repeat still_step
  still_call ((cmp_int _ _ _).mono fun _ _ ⟨h1, h2⟩ => ⟨h1, h2.symm⟩)
  repeat still_step
  still_call ((cmp_int _ _ _).mono fun _ _ ⟨h1, h2⟩ => ⟨h1, h2.symm⟩)
  repeat still_step
  still_call ((cmp_str _ _ _).mono fun _ _ ⟨h1, h2⟩ => ⟨h1, h2.symm⟩)
  refine wpStill_nil ?_
  have hz : w.heap.size ≤ X.heap.size := hb'.size
  go_wp2_with fail
  refine (or_int (cmpI a a') (cmpI b b') (cmpS s t) _ _ ?_ ?_ ?_).mono ?_
  · go_simp
  · go_simp
  · go_simp
  rintro e w' ⟨rfl, rfl⟩
  go_wp2
  go_ret
  exact ⟨rfl, hb'.alloc hz _⟩
end Go.Proofs.Ytphcjppdmdmejaa

/- The draws of FnRefund: percents, and what RefundFor is asked. -/
import Derived.Test.YtadcmngooobeiaaDraw
import Derived.Test.YtadcmngooobeiaaLnM
import Derived.Test.YtadcmngooobeiaaBxW
namespace Go.Proofs.Ytadcmngooobeiaa
open Go.RowKit
theorem six (w : World) (C1 C2 C3 C4 C5 C6 : Array Value) (T1 T2 T3 T4 T5 T6 : TypeId) :
    ∀ W, W = ((((((w.alloc (.cells C1 T1)).alloc (.cells C2 T2)).alloc (.cells C3 T3)).alloc (.cells C4 T4)).alloc (.cells C5 T5)).alloc (.cells C6 T6)) →
    W.heap[w.heap.size]? = some (.cells C1 T1 (0, 0)) ∧ W.heap[w.heap.size + 1]? = some (.cells C2 T2 (0, 0)) ∧ W.heap[w.heap.size + 2]? = some (.cells C3 T3 (0, 0)) ∧ W.heap[w.heap.size + 3]? = some (.cells C4 T4 (0, 0)) ∧ W.heap[w.heap.size + 4]? = some (.cells C5 T5 (0, 0)) ∧ W.heap[w.heap.size + 5]? = some (.cells C6 T6 (0, 0)) ∧ Below w.heap.size w W ∧ W.heap.size = w.heap.size + 6 := by
  intro W hW
  subst hW
  refine ⟨?_, ?_, ?_, ?_, ?_, ?_, ?_, by simp⟩
  · rw [Below.heap_alloc _ _ _ (by simp <;> omega), Below.heap_alloc _ _ _ (by simp <;> omega), Below.heap_alloc _ _ _ (by simp <;> omega), Below.heap_alloc _ _ _ (by simp <;> omega), Below.heap_alloc _ _ _ (by simp)]; exact heap_alloc_new w _
  · rw [Below.heap_alloc _ _ _ (by simp <;> omega), Below.heap_alloc _ _ _ (by simp <;> omega), Below.heap_alloc _ _ _ (by simp <;> omega), Below.heap_alloc _ _ _ (by simp)]
    have := heap_alloc_new (w.alloc (.cells C1 T1)) (.cells C2 T2)
    simpa using this
  · rw [Below.heap_alloc _ _ _ (by simp <;> omega), Below.heap_alloc _ _ _ (by simp <;> omega), Below.heap_alloc _ _ _ (by simp)]
    have := heap_alloc_new ((w.alloc (.cells C1 T1)).alloc (.cells C2 T2)) (.cells C3 T3)
    simpa using this
  · rw [Below.heap_alloc _ _ _ (by simp <;> omega), Below.heap_alloc _ _ _ (by simp)]
    have := heap_alloc_new (((w.alloc (.cells C1 T1)).alloc (.cells C2 T2)).alloc (.cells C3 T3)) (.cells C4 T4)
    simpa using this
  · rw [Below.heap_alloc _ _ _ (by simp)]
    have := heap_alloc_new ((((w.alloc (.cells C1 T1)).alloc (.cells C2 T2)).alloc (.cells C3 T3)).alloc (.cells C4 T4)) (.cells C5 T5)
    simpa using this
  · have := heap_alloc_new (((((w.alloc (.cells C1 T1)).alloc (.cells C2 T2)).alloc (.cells C3 T3)).alloc (.cells C4 T4)).alloc (.cells C5 T5)) (.cells C6 T6)
    simpa using this
  · exact ((((((Below.refl _ _).alloc (Nat.le_refl _) _).alloc (by simp) _).alloc (by simp <;> omega) _).alloc (by simp <;> omega) _).alloc (by simp <;> omega) _).alloc (by simp <;> omega) _
theorem ints_row {w w' : World} {g B : Nat} {T : TypeId} {ps : List Int} (h : w.heap[B]? = some (.cells (ps.map (Value.int .i64)).toArray T (0, 0))) (hg : w.grownBy w' (some g)) (hn : B ≠ g) : IntsIn w' (some ⟨B, 0, none⟩) ps := by
  intro j hj
  have hl : B < w.heap.size := (Array.getElem?_eq_some_iff.1 h).1
  have h' := (hg.block B hl (fun e => hn (Option.some.inj e))).trans h
  refine ⟨B, rfl, (Array.getElem?_eq_some_iff.1 h').1, ?_⟩
  rw [cell_of_row w' B j _ _ _ h']
  simp [hj]
set_option maxRecDepth 100000 in
set_option maxHeartbeats 1000000 in
theorem perc_draw (g : Nat) (w : World) (hc : CurOK w g) :
    Calls Try.prog 80 #[.pointer (some ⟨g, 0, none⟩)] w fun e w' => (∃ (P m : Nat) (ps : List Int), e = .returned (.slice (some ⟨P, 0, none⟩) m m) ∧ P ≠ g ∧ w.heap.size ≤ P ∧ IntsIn w' (some ⟨P, 0, none⟩) ps ∧ ps.length = m ∧ m ≤ 6) ∧ CurOK w' g ∧ w.grownBy w' (some g) := by
  have hgl := hc.lt
  obtain ⟨s0, s1, s2, s3, s4, s5, s6, s7⟩ := six w _ _ _ _ _ _ _ _ _ _ _ _ ((((((w.alloc (.cells #[.int .i64 25, .int .i64 50, .int .i64 100] 3)).alloc (.cells #[.int .i64 10] 3)).alloc (.cells #[.int .i64 0, .int .i64 100] 3)).alloc (.cells #[.int .i64 0] 3)).alloc (.cells #[.int .i64 1, .int .i64 1, .int .i64 2, .int .i64 3, .int .i64 50, .int .i64 100] 3)).alloc (.cells #[.slice (some ⟨w.heap.size, 0, none⟩) 3 3, .slice (some ⟨w.heap.size + 1, 0, none⟩) 1 1, .slice (some ⟨w.heap.size + 1 + 1, 0, none⟩) 2 2, .slice (some ⟨w.heap.size + 1 + 1 + 1, 0, none⟩) 1 1, .slice (some ⟨w.heap.size + 1 + 1 + 1 + 1, 0, none⟩) 6 6] 42)) rfl
  have HC := Lib.hid (hc.keep hgl s6); clear hc
  have HG := Lib.hid (only_of_below s6 g)
  have HB := Lib.hid s6; clear s6
  go_enter Try.func80, Try.ntmps80
  go_wp2_with fail
  generalize ((((((w.alloc (.cells #[.int .i64 25, .int .i64 50, .int .i64 100] 3)).alloc (.cells #[.int .i64 10] 3)).alloc (.cells #[.int .i64 0, .int .i64 100] 3)).alloc (.cells #[.int .i64 0] 3)).alloc (.cells #[.int .i64 1, .int .i64 1, .int .i64 2, .int .i64 3, .int .i64 50, .int .i64 100] 3)).alloc (.cells #[.slice (some ⟨w.heap.size, 0, none⟩) 3 3, .slice (some ⟨w.heap.size + 1, 0, none⟩) 1 1, .slice (some ⟨w.heap.size + 1 + 1, 0, none⟩) 2 2, .slice (some ⟨w.heap.size + 1 + 1 + 1, 0, none⟩) 1 1, .slice (some ⟨w.heap.size + 1 + 1 + 1 + 1, 0, none⟩) 6 6] 42)) = W at *
  generalize hB : w.heap.size = B at *
  have HBE := Lib.hid hB; clear hB
  refine (below_any g 5 W (by omega) HC.out).mono ?_; rintro e w1 ⟨⟨x, hx0, hx1, _, rfl⟩, hc1, ho1⟩
  have hx5 := hx1 (by omega)
  clear hx1
  have H1 := Lib.hid hc1; clear hc1
  have hO : w1.heap[B + 5]? = W.heap[B + 5]? := ho1.block _ (by omega) (fun e => by have := Option.some.inj e; omega)
  have HO := Lib.hid (hO.trans s5); clear hO s5
  have HGG := Lib.hid (only_trans HG.out ho1)
  have HR0 := Lib.hid (ints_row (ps := [25, 50, 100]) (B := B) s0 ho1 (by omega)); clear s0
  have HR1 := Lib.hid (ints_row (ps := [10]) (B := B + 1) s1 ho1 (by omega)); clear s1
  have HR2 := Lib.hid (ints_row (ps := [0, 100]) (B := B + 2) s2 ho1 (by omega)); clear s2
  have HR3 := Lib.hid (ints_row (ps := [0]) (B := B + 3) s3 ho1 (by omega)); clear s3
  have HR4 := Lib.hid (ints_row (ps := [1, 1, 2, 3, 50, 100]) (B := B + 4) s4 ho1 (by omega)); clear s4
  clear ho1 s7
  rcases (show x = 0 ∨ x = 1 ∨ x = 2 ∨ x = 3 ∨ x = 4 by omega) with rfl | rfl | rfl | rfl | rfl
  · have c_ : w1.cell? ⟨B + 1 + 1 + 1 + 1 + 1, 0, none⟩ = some (.slice (some ⟨B, 0, none⟩) 3 3) := by
      show w1.cell? ⟨B + 5, 0, none⟩ = _
      rw [cell_of_row w1 (B + 5) 0 _ _ _ HO.out]; rfl
    have hne : B ≠ g := by omega
    have hle : B ≤ B := by omega
    go_wp2
    go_ret
    exact ⟨⟨_, _, [25, 50, 100], rfl, hne, by rw [HBE.out]; exact hle, HR0.out, rfl, by omega⟩, H1.out, HGG.out⟩
  · have c_ : w1.cell? ⟨B + 1 + 1 + 1 + 1 + 1, 1, none⟩ = some (.slice (some ⟨B + 1, 0, none⟩) 1 1) := by
      show w1.cell? ⟨B + 5, 1, none⟩ = _
      rw [cell_of_row w1 (B + 5) 1 _ _ _ HO.out]; rfl
    have hne : B + 1 ≠ g := by omega
    have hle : B ≤ B + 1 := by omega
    go_wp2
    go_ret
    exact ⟨⟨_, _, [10], rfl, hne, by rw [HBE.out]; exact hle, HR1.out, rfl, by omega⟩, H1.out, HGG.out⟩
  · have c_ : w1.cell? ⟨B + 1 + 1 + 1 + 1 + 1, 2, none⟩ = some (.slice (some ⟨B + 1 + 1, 0, none⟩) 2 2) := by
      show w1.cell? ⟨B + 5, 2, none⟩ = _
      rw [cell_of_row w1 (B + 5) 2 _ _ _ HO.out]; rfl
    have hne : B + 1 + 1 ≠ g := by omega
    have hle : B ≤ B + 1 + 1 := by omega
    go_wp2
    go_ret
    exact ⟨⟨_, _, [0, 100], rfl, hne, by rw [HBE.out]; exact hle, HR2.out, rfl, by omega⟩, H1.out, HGG.out⟩
  · have c_ : w1.cell? ⟨B + 1 + 1 + 1 + 1 + 1, 3, none⟩ = some (.slice (some ⟨B + 1 + 1 + 1, 0, none⟩) 1 1) := by
      show w1.cell? ⟨B + 5, 3, none⟩ = _
      rw [cell_of_row w1 (B + 5) 3 _ _ _ HO.out]; rfl
    have hne : B + 1 + 1 + 1 ≠ g := by omega
    have hle : B ≤ B + 1 + 1 + 1 := by omega
    go_wp2
    go_ret
    exact ⟨⟨_, _, [0], rfl, hne, by rw [HBE.out]; exact hle, HR3.out, rfl, by omega⟩, H1.out, HGG.out⟩
  · have c_ : w1.cell? ⟨B + 1 + 1 + 1 + 1 + 1, 4, none⟩ = some (.slice (some ⟨B + 1 + 1 + 1 + 1, 0, none⟩) 6 6) := by
      show w1.cell? ⟨B + 5, 4, none⟩ = _
      rw [cell_of_row w1 (B + 5) 4 _ _ _ HO.out]; rfl
    have hne : B + 1 + 1 + 1 + 1 ≠ g := by omega
    have hle : B ≤ B + 1 + 1 + 1 + 1 := by omega
    go_wp2
    go_ret
    exact ⟨⟨_, _, [1, 1, 2, 3, 50, 100], rfl, hne, by rw [HBE.out]; exact hle, HR4.out, rfl, by omega⟩, H1.out, HGG.out⟩
end Go.Proofs.Ytadcmngooobeiaa

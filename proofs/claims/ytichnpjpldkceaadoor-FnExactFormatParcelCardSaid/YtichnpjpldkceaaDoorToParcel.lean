/- The contract of laws.toParcel. -/
import Derived.Test.YtichnpjpldkceaaDoorParcel
namespace Go.Proofs.YtichnpjpldkceaaDoor
open Go.RowKit
theorem BoxP.row {T : TypeId} {W : World} {B : Nat} {a b : Int} {t f : ByteArray} {wt : Int} {S : Value} {v : Int} (h : BoxP T W B a b t f wt S v) : W.heap[B]? = some (.cells #[.int .i64 a, .int .i64 b, .string t, .string f, .int .i64 wt, S, .int .i64 v] T (0, 0)) := h
theorem row_other {W : World} {B C o : Nat} {x : Value} {ob : Obj} (h : W.heap[B]? = some ob) (hn : B ≠ C) : (W.setCell ⟨C, o, none⟩ x).heap[B]? = some ob :=
  (Below.heap_setCell W ⟨C, o, none⟩ x B hn).trans h
theorem row7 {W : World} {B : Nat} {T : TypeId} {v0 v1 v2 v3 v4 v5 v6 : Value} (h : W.heap[B]? = some (.cells #[v0, v1, v2, v3, v4, v5, v6] T (0, 0))) : W.cell? ⟨B, 0, none⟩ = some v0 ∧ W.cell? ⟨B, 1, none⟩ = some v1 ∧ W.cell? ⟨B, 2, none⟩ = some v2 ∧ W.cell? ⟨B, 3, none⟩ = some v3 ∧ W.cell? ⟨B, 4, none⟩ = some v4 ∧ W.cell? ⟨B, 5, none⟩ = some v5 ∧ W.cell? ⟨B, 6, none⟩ = some v6 := by
  refine ⟨?_, ?_, ?_, ?_, ?_, ?_, ?_⟩ <;> (rw [cell_of_row W B _ _ _ _ h]; rfl)
theorem free7 {W : World} {B : Nat} {T : TypeId} {cs : Array Value} (h : W.heap[B]? = some (.cells cs T (0, 0))) : W.frozen? ⟨B, 0, none⟩ = false ∧ W.frozen? ⟨B, 1, none⟩ = false ∧ W.frozen? ⟨B, 2, none⟩ = false ∧ W.frozen? ⟨B, 3, none⟩ = false ∧ W.frozen? ⟨B, 4, none⟩ = false ∧ W.frozen? ⟨B, 5, none⟩ = false ∧ W.frozen? ⟨B, 6, none⟩ = false :=
  ⟨frozen_of_row W B 0 _ _ h, frozen_of_row W B 1 _ _ h, frozen_of_row W B 2 _ _ h, frozen_of_row W B 3 _ _ h, frozen_of_row W B 4 _ _ h, frozen_of_row W B 5 _ _ h, frozen_of_row W B 6 _ _ h⟩
theorem OwnI.set {w : World} {base g k : Nat} {v x : Value} {l : List Int} (h : OwnI w base v l) (hn : v.ownBlock ≠ some g) : OwnI (w.setCell ⟨g, k, none⟩ x) base v l :=
  World.ownsRow.kept h (row := some g) ⟨rfl, rfl, rfl, by simp [World.setCell], fun i _ hne => Below.heap_setCell w ⟨g, k, none⟩ x i (fun e => hne (by rw [e]))⟩ (.inr hn)
set_option maxRecDepth 100000 in
set_option maxHeartbeats 2000000 in
theorem to_parcel (a b : Int) (t f : ByteArray) (wt : Int) (A : Option Addr) (cap : Nat) (zs : List Int) (v : Int) (w : World) (hA : IntsRaw w A zs) (hn : zs.length ≤ 1048576) :
    Calls Tryd.prog 10 #[.agg #[.int .i64 a, .int .i64 b, .string t, .string f, .int .i64 wt, .slice A zs.length cap, .int .i64 v]] w fun e w' => ∃ g, e = .returned (.agg #[.int .i64 a, .int .i64 b, .string t, .string f, .int .i64 wt, .slice (some ⟨g, 0, none⟩) zs.length zs.length, .int .i64 v]) ∧ OwnI w' w.heap.size (.slice (some ⟨g, 0, none⟩) zs.length zs.length) zs ∧ Below w.heap.size w w' := by
  let C1 : Obj := .cells #[.int .i64 a, .int .i64 b, .string t, .string f, .int .i64 wt, .slice A zs.length cap, .int .i64 v] 26
  let C2 : Obj := .cells #[.int .i64 0, .int .i64 0, .string ⟨#[]⟩, .string ⟨#[]⟩, .int .i64 0, .slice none 0 0, .int .i64 0] 31
  have e1 : (w.alloc C1).heap.size = w.heap.size + 1 := by simp
  have e2 : ((w.alloc C1).alloc C2).heap.size = w.heap.size + 2 := by simp
  have x1 : ((((w.alloc C1).alloc C2).alloc C2)).heap[w.heap.size]? = some C1 := by
    rw [Below.heap_alloc _ _ _ (by simp; omega), Below.heap_alloc _ _ _ (by simp)]; exact heap_alloc_new w _
  have x2 : ((((w.alloc C1).alloc C2).alloc C2)).heap[w.heap.size + 1]? = some C2 := by
    rw [Below.heap_alloc _ _ _ (by simp)]; have := heap_alloc_new (w.alloc C1) C2; rw [e1] at this; exact this
  have x3 : ((((w.alloc C1).alloc C2).alloc C2)).heap[w.heap.size + 2]? = some C2 := by
    have := heap_alloc_new ((w.alloc C1).alloc C2) C2; rw [e2] at this; exact this
  have hb0 : Below w.heap.size w (((w.alloc C1).alloc C2).alloc C2) := (((Below.refl _ _).alloc (Nat.le_refl _) C1).alloc (by simp) C2).alloc (by simp; omega) C2
  have hz0 : w.heap.size + 3 = (((w.alloc C1).alloc C2).alloc C2).heap.size := by simp
  have HRW := Lib.hid hA
  have H0 := Lib.hid (And.intro x1 (And.intro x2 (And.intro x3 (And.intro hb0 (And.intro (hA.below hb0) hz0)))))
  clear x1 x2 x3 hb0 hz0 hA e1 e2
  go_enter Tryd.func10, Tryd.ntmps10
  go_wp2_with fail
  generalize hB : w.heap.size = B at *
  have HBE := Lib.hid hB; clear hB
  change Hid (((((w.alloc C1).alloc C2).alloc C2)).heap[B]? = some C1 ∧ ((((w.alloc C1).alloc C2).alloc C2)).heap[B + 1]? = some C2 ∧ ((((w.alloc C1).alloc C2).alloc C2)).heap[B + 2]? = some C2 ∧ Below B w (((w.alloc C1).alloc C2).alloc C2) ∧ IntsRaw (((w.alloc C1).alloc C2).alloc C2) A zs ∧ B + 3 = (((w.alloc C1).alloc C2).alloc C2).heap.size) at H0
  change Calls _ _ _ (((w.alloc C1).alloc C2).alloc C2) _
  generalize ((w.alloc C1).alloc C2).alloc C2 = W at *
  refine (to_label a b t W).mono ?_; rintro e w1 ⟨rfl, hb1⟩
  have H1 := Lib.hid (show w1.heap[B]? = some C1 ∧ w1.heap[B + 1]? = some C2 ∧ w1.heap[B + 2]? = some C2 ∧ Below B w w1 ∧ B + 3 ≤ w1.heap.size from by
    have hz := H0.out.2.2.2.2.2
    have hs := hb1.size
    exact ⟨(hb1.block _ (by omega)).trans H0.out.1, (hb1.block _ (by omega)).trans H0.out.2.1, (hb1.block _ (by omega)).trans H0.out.2.2.1, H0.out.2.2.2.1.trans (hb1.mono (by omega)), by omega⟩)
  clear hb1 H0
  obtain ⟨c0, c1, c2, c3, c4, c5, c6⟩ := row7 H1.out.1
  obtain ⟨d0, d1, d2, d3, d4, d5, d6⟩ := row7 H1.out.2.2.1
  obtain ⟨f0, f1, f2, f3, f4, f5, f6⟩ := free7 H1.out.2.2.1
  go_wp2_with fail
  obtain ⟨W5, hW5⟩ : ∃ W5, W5 = ((((w1.setCell ⟨B + 2, 0, none⟩ (.int .i64 a)).setCell ⟨B + 2, 1, none⟩ (.int .i64 b)).setCell ⟨B + 2, 2, none⟩ (.string t)).setCell ⟨B + 2, 3, none⟩ (.string f)).setCell ⟨B + 2, 4, none⟩ (.int .i64 wt) := ⟨_, rfl⟩
  rw [← hW5]
  have hne1 : B ≠ B + 2 := by omega
  have hne2 : B + 1 ≠ B + 2 := by omega
  have y1 : W5.heap[B]? = some C1 := by
    rw [hW5]; exact row_other (row_other (row_other (row_other (row_other H1.out.1 hne1) hne1) hne1) hne1) hne1
  have y2 : W5.heap[B + 1]? = some C2 := by
    rw [hW5]; exact row_other (row_other (row_other (row_other (row_other H1.out.2.1 hne2) hne2) hne2) hne2) hne2
  have y3 : W5.heap[B + 2]? = some (.cells #[.int .i64 a, .int .i64 b, .string t, .string f, .int .i64 wt, .slice none 0 0, .int .i64 0] 31 (0, 0)) := by
    rw [hW5]
    have := heap_set (heap_set (heap_set (heap_set (heap_set H1.out.2.2.1 0 (.int .i64 a)) 1 (.int .i64 b)) 2 (.string t)) 3 (.string f)) 4 (.int .i64 wt)
    exact this
  have y4 : Below B w W5 := by
    rw [hW5]; exact ((((H1.out.2.2.2.1.setCell (by simp) _).setCell (by simp) _).setCell (by simp) _).setCell (by simp) _).setCell (by simp) _
  have y5 : B + 3 ≤ W5.heap.size := by rw [hW5]; simp [World.setCell]; exact H1.out.2.2.2.2
  have H5 := Lib.hid (And.intro y1 (And.intro y2 (And.intro y3 (And.intro y4 y5))))
  clear hW5 c0 c1 c2 c3 c4 c5 c6 d0 d1 d2 d3 d4 d5 d6 f0 f1 f2 f3 f4 f5 f6 y1 y2 y3 y4 y5
  refine (to_ints A cap zs W5 (HRW.out.below (by rw [HBE.out]; exact H5.out.2.2.2.1)) (by omega)).mono ?_; rintro e w6 ⟨rfl, ho6, hb6⟩
  obtain ⟨g, hg⟩ : ∃ g, g = W5.heap.size := ⟨_, rfl⟩
  rw [← hg] at ho6 ⊢
  have hg3 : B + 3 ≤ g := by rw [hg]; exact H5.out.2.2.2.2
  have HO6 := Lib.hid (ho6.mono (show B ≤ g by omega)); clear ho6
  have H6 := Lib.hid (show w6.heap[B]? = some C1 ∧ w6.heap[B + 1]? = some C2 ∧ w6.heap[B + 2]? = some (.cells #[.int .i64 a, .int .i64 b, .string t, .string f, .int .i64 wt, .slice none 0 0, .int .i64 0] 31 (0, 0)) ∧ Below B w w6 from by
    have hz := H5.out.2.2.2.2
    exact ⟨(hb6.block _ (by omega)).trans H5.out.1, (hb6.block _ (by omega)).trans H5.out.2.1, (hb6.block _ (by omega)).trans H5.out.2.2.1, H5.out.2.2.2.1.trans (hb6.mono (by omega))⟩)
  clear hb6 H5 hg H1
  obtain ⟨c0, c1, c2, c3, c4, c5, c6⟩ := row7 H6.out.1
  obtain ⟨d0, d1, d2, d3, d4, d5, d6⟩ := row7 H6.out.2.2.1
  obtain ⟨f0, f1, f2, f3, f4, f5, f6⟩ := free7 H6.out.2.2.1
  obtain ⟨m0, m1, m2, m3, m4, m5, m6⟩ := row7 H6.out.2.1
  obtain ⟨n0, n1, n2, n3, n4, n5, n6⟩ := free7 H6.out.2.1
  have hg1 : g ≠ B + 1 := by omega
  have hg2 : g ≠ B + 2 := by omega
  have ho1 : (Value.slice (some ⟨g, 0, none⟩) zs.length zs.length).ownBlock ≠ some (B + 1) := by intro h; exact hg1 (Option.some.inj h)
  have ho2 : (Value.slice (some ⟨g, 0, none⟩) zs.length zs.length).ownBlock ≠ some (B + 2) := by intro h; exact hg2 (Option.some.inj h)
  have HN1 := Lib.hid ho1; have HN2 := Lib.hid ho2; clear ho1 ho2
  go_wp2
  refine bodyPost_ret (v := .agg #[.int .i64 a, .int .i64 b, .string t, .string f, .int .i64 wt, .slice (some ⟨g, 0, none⟩) zs.length zs.length, .int .i64 v]) (by simp [results, Tryd.results10, go_sem, m0, m1, m2, m3, m4, m5, m6]) rfl ⟨g, rfl, ?_, ?_⟩
  · rw [HBE.out]
    have h := HO6.out
    repeat (first | with_reducible exact h | (with_reducible refine OwnI.set ?_ ?_; rotate_left; (first | with_reducible exact HN1.out | with_reducible exact HN2.out)))
  · rw [HBE.out]
    have h := H6.out.2.2.2
    repeat (first | with_reducible exact h | (with_reducible refine Below.setCell ?_ ?_ _; rotate_left; (dsimp only; omega)))
end Go.Proofs.YtichnpjpldkceaaDoor

/- Networks: what the exact laws make, size and compare. -/
import Derived.Test.YtbdnbchleoahgaaNetM
import Derived.Test.YtbdnbchleoahgaaFar
namespace Go.Proofs.Ytbdnbchleoahgaa
open Go.RowKit
/-- three cells in a block of the call's own -/
def Box3 (T : TypeId) (W : World) (B : Nat) (v0 v1 v2 : Value) : Prop := W.heap[B]? = some (.cells #[v0, v1, v2] T (0, 0))
section
variable {T : TypeId} {W W' : World} {B : Nat} {v0 v1 v2 : Value}
theorem Box3.lt (h : Box3 T W B v0 v1 v2) : B < W.heap.size := (Array.getElem?_eq_some_iff.1 h).1
theorem Box3.below (h : Box3 T W B v0 v1 v2) (hb : Below W.heap.size W W') : Box3 T W' B v0 v1 v2 := (hb.block B h.lt).trans h
theorem Box3.cells (h : Box3 T W B v0 v1 v2) : W.cell? ⟨B, 0, none⟩ = some v0 ∧ W.cell? ⟨B, 1, none⟩ = some v1 ∧ W.cell? ⟨B, 2, none⟩ = some v2 := by
  refine ⟨?_, ?_, ?_⟩ <;> (rw [cell_of_row W B _ _ _ _ h]; rfl)
theorem Box3.free (h : Box3 T W B v0 v1 v2) : W.frozen? ⟨B, 0, none⟩ = false ∧ W.frozen? ⟨B, 1, none⟩ = false ∧ W.frozen? ⟨B, 2, none⟩ = false :=
  ⟨frozen_of_row W B 0 _ _ h, frozen_of_row W B 1 _ _ h, frozen_of_row W B 2 _ _ h⟩
theorem Box3.new (w : World) : Box3 T (w.alloc (.cells #[v0, v1, v2] T)) w.heap.size v0 v1 v2 := heap_alloc_new w _
theorem Box3.other (h : Box3 T W B v0 v1 v2) {C o : Nat} {x : Value} (hn : B ≠ C) : Box3 T (W.setCell ⟨C, o, none⟩ x) B v0 v1 v2 := (Below.heap_setCell W ⟨C, o, none⟩ x B hn).trans h
theorem Box3.set0 (h : Box3 T W B v0 v1 v2) (x : Value) : Box3 T (W.setCell ⟨B, 0, none⟩ x) B x v1 v2 := heap_set h 0 x
theorem Box3.set1 (h : Box3 T W B v0 v1 v2) (x : Value) : Box3 T (W.setCell ⟨B, 1, none⟩ x) B v0 x v2 := heap_set h 1 x
theorem Box3.set2 (h : Box3 T W B v0 v1 v2) (x : Value) : Box3 T (W.setCell ⟨B, 2, none⟩ x) B v0 v1 x := heap_set h 2 x
end
theorem OwnI.set {w : World} {base g k : Nat} {v x : Value} {l : List Int} (h : OwnI w base v l) (hn : v.ownBlock ≠ some g) : OwnI (w.setCell ⟨g, k, none⟩ x) base v l :=
  World.ownsRow.kept h (row := some g) (only_set w g k x) (.inr hn)
theorem OwnK.set {α : Type} {enc : α → List Value} {n : Nat} {T : TypeId} {w : World} {base g k : Nat} {v x : Value} {l : List α} (h : OwnK T n enc w base v l) (hn : v.ownBlock ≠ some g) : OwnK T n enc (w.setCell ⟨g, k, none⟩ x) base v l :=
  World.ownsRow.kept h (row := some g) (only_set w g k x) (.inr hn)
def Sz2 (left : Int) (n m : Nat) (e : Ending) : Prop := ∃ r : Int, e = .returned (.int .i64 r) ∧ (r = -1 ∨ (0 ≤ r ∧ r ≤ left ∧ (n : Int) ≤ left ∧ (m : Int) ≤ left))
set_option maxRecDepth 100000 in
set_option maxHeartbeats 1000000 in
theorem sz_net (A : Option Addr) (ca : Nat) (l : List Lg) (D : Option Addr) (cd m : Nat) (x left : Int) (w : World) (hA : RawK 6 lgC w A l) (hs : ∀ z ∈ l, z.f.size ≤ maxLen ∧ z.t.size ≤ maxLen) (hn : l.length ≤ maxLen) (hm : m ≤ maxLen) (hl : 0 ≤ left ∧ left ≤ 1048576) :
    Calls Try.prog 50 #[.agg #[.slice A l.length ca, .slice D m cd, .int .i64 x], .int .i64 left] w fun e w' => Sz2 left l.length m e ∧ Below w.heap.size w w' := by
  have hB := Box3.new (T := 75) (v0 := .slice A l.length ca) (v1 := .slice D m cd) (v2 := .int .i64 x) w
  have hb0 := (Below.refl w.heap.size w).alloc (Nat.le_refl _) (.cells #[.slice A l.length ca, .slice D m cd, .int .i64 x] 75)
  have HA := Lib.hid (hA.below hb0); clear hA
  have HS := Lib.hid hs; have HN := Lib.hid hn; have HM := Lib.hid hm; clear hs hn hm
  obtain ⟨hl0, hl1⟩ := hl
  go_enter Try.func50, Try.ntmps50
  go_wp2_with fail
  generalize w.alloc (.cells #[.slice A l.length ca, .slice D m cd, .int .i64 x] 75) = W at *
  refine (sz_lgs A ca l left W HA.out HS.out HN.out (by omega)).mono ?_; rintro e w1 ⟨⟨r, rfl, hr⟩, hb1⟩
  replace hB := hB.below hb1
  replace hb1 := hb0.trans (hb1.mono hb0.size)
  obtain ⟨c0, c1, c2⟩ := hB.cells
  have HB := Lib.hid hB; clear hB hb0
  rcases hr with rfl | ⟨hr0, hr1, hr2⟩
  · go_wp2
    go_ret
    exact ⟨⟨-1, rfl, .inl rfl⟩, hb1⟩
  · have hrn : ¬ r < 0 := by omega
    go_wp2_with fail
    refine (sz_ints D cd m r w1 HM.out (by omega)).mono ?_; rintro e w2 ⟨⟨q, rfl, hq⟩, hb2⟩
    replace hb2 := hb1.trans (hb2.mono hb1.size)
    rcases hq with rfl | ⟨hq0, hq1, hq2⟩
    · go_wp2
      go_ret
      exact ⟨⟨-1, rfl, .inl rfl⟩, hb2⟩
    · have hqn : ¬ q < 0 := by omega
      go_wp2
      go_ret
      exact ⟨⟨_, rfl, .inr ⟨by omega, by omega, by omega, by omega⟩⟩, hb2⟩
set_option maxRecDepth 100000 in
set_option maxHeartbeats 2000000 in
theorem to_net (A : Option Addr) (ca : Nat) (l : List Lg) (D : Option Addr) (cd : Nat) (zs : List Int) (x : Int) (w : World) (hA : RawK 6 lgC w A l) (hD : IntsRaw w D zs) (hn : l.length ≤ 1048576) (hm : zs.length ≤ 1048576) :
    Calls Try.prog 52 #[.agg #[.slice A l.length ca, .slice D zs.length cd, .int .i64 x]] w fun e w' => ∃ g h, e = .returned (.agg #[.slice (some ⟨g, 0, none⟩) l.length l.length, .slice (some ⟨h, 0, none⟩) zs.length zs.length, .int .i64 x]) ∧
      (OwnK 53 6 lgC w' w.heap.size (.slice (some ⟨g, 0, none⟩) l.length l.length) l ∧ OwnI w' w.heap.size (.slice (some ⟨h, 0, none⟩) zs.length zs.length) zs ∧ g ≠ h) ∧ Below w.heap.size w w' := by
  let C1 : Obj := .cells #[.slice A l.length ca, .slice D zs.length cd, .int .i64 x] 75
  let C2 : Obj := .cells #[.slice none 0 0, .slice none 0 0, .int .i64 0] 39
  have e1 : (w.alloc C1).heap.size = w.heap.size + 1 := by simp
  have e2 : ((w.alloc C1).alloc C2).heap.size = w.heap.size + 2 := by simp
  have x1 : Box3 75 (((w.alloc C1).alloc C2).alloc C2) w.heap.size (.slice A l.length ca) (.slice D zs.length cd) (.int .i64 x) :=
    ((Box3.new w).below ((Below.refl _ _).alloc (Nat.le_refl _) C2)).below ((Below.refl _ _).alloc (Nat.le_refl _) C2)
  have x2 : Box3 39 (((w.alloc C1).alloc C2).alloc C2) (w.heap.size + 1) (.slice none 0 0) (.slice none 0 0) (.int .i64 0) := by
    rw [← e1]; exact (Box3.new (w.alloc C1)).below ((Below.refl _ _).alloc (Nat.le_refl _) C2)
  have x3 : Box3 39 (((w.alloc C1).alloc C2).alloc C2) (w.heap.size + 2) (.slice none 0 0) (.slice none 0 0) (.int .i64 0) := by
    rw [← e2]; exact Box3.new ((w.alloc C1).alloc C2)
  have hb0 : Below w.heap.size w (((w.alloc C1).alloc C2).alloc C2) := (((Below.refl _ _).alloc (Nat.le_refl _) C1).alloc (by simp) C2).alloc (by simp; omega) C2
  have hz0 : w.heap.size + 3 = (((w.alloc C1).alloc C2).alloc C2).heap.size := by simp
  have HRW := Lib.hid hD
  have H0 := Lib.hid (And.intro x1 (And.intro x2 (And.intro x3 (And.intro hb0 (And.intro (hA.below hb0) hz0)))))
  clear x1 x2 x3 hb0 hz0 hA hD e1 e2
  go_enter Try.func52, Try.ntmps52
  go_wp2_with fail
  generalize hB : w.heap.size = B at *
  have HBE := Lib.hid hB; clear hB
  change Hid (Box3 75 (((w.alloc C1).alloc C2).alloc C2) B (.slice A l.length ca) (.slice D zs.length cd) (.int .i64 x) ∧ Box3 39 (((w.alloc C1).alloc C2).alloc C2) (B + 1) (.slice none 0 0) (.slice none 0 0) (.int .i64 0) ∧ Box3 39 (((w.alloc C1).alloc C2).alloc C2) (B + 2) (.slice none 0 0) (.slice none 0 0) (.int .i64 0) ∧ Below B w (((w.alloc C1).alloc C2).alloc C2) ∧ RawK 6 lgC (((w.alloc C1).alloc C2).alloc C2) A l ∧ B + 3 = (((w.alloc C1).alloc C2).alloc C2).heap.size) at H0
  change Calls _ _ _ (((w.alloc C1).alloc C2).alloc C2) _
  generalize ((w.alloc C1).alloc C2).alloc C2 = W at *
  refine (to_lgs A ca l W H0.out.2.2.2.2.1 (by omega)).mono ?_; rintro e w1 ⟨rfl, ho1, hb1⟩
  obtain ⟨g, hg⟩ : ∃ g, g = W.heap.size := ⟨_, rfl⟩
  rw [← hg] at ho1 ⊢
  have hgB : B + 3 ≤ g := by rw [hg]; exact Nat.le_of_eq H0.out.2.2.2.2.2
  have hz1 : g < w1.heap.size := by
    rcases ho1.2 with ⟨e, _⟩ | ⟨g', _, _, e, _, h, _⟩
    · cases e
    · cases e; exact (Array.getElem?_eq_some_iff.1 h).1
  have H1 := Lib.hid (And.intro (H0.out.1.below hb1) (And.intro (H0.out.2.1.below hb1) (And.intro (H0.out.2.2.1.below hb1) (And.intro (H0.out.2.2.2.1.trans (hb1.mono (by omega))) (OwnK.mono ho1 (show B ≤ g by omega))))))
  clear hb1 H0 ho1 hg
  obtain ⟨c0, c1, c2⟩ := H1.out.1.cells
  obtain ⟨d0, d1, d2⟩ := H1.out.2.2.1.cells
  obtain ⟨f0, f1, f2⟩ := H1.out.2.2.1.free
  go_wp2_with fail
  obtain ⟨W5, hW5⟩ : ∃ W5, W5 = w1.setCell ⟨B + 2, 0, none⟩ (.slice (some ⟨g, 0, none⟩) l.length l.length) := ⟨_, rfl⟩
  rw [← hW5]
  have hog : (Value.slice (some ⟨g, 0, none⟩) l.length l.length).ownBlock ≠ some (B + 2) := fun e => by have e' : g = B + 2 := Option.some.inj e; omega
  have H5 := Lib.hid (show Box3 75 W5 B (.slice A l.length ca) (.slice D zs.length cd) (.int .i64 x) ∧ Box3 39 W5 (B + 1) (.slice none 0 0) (.slice none 0 0) (.int .i64 0) ∧ Box3 39 W5 (B + 2) (.slice (some ⟨g, 0, none⟩) l.length l.length) (.slice none 0 0) (.int .i64 0) ∧ Below B w W5 ∧ OwnK 53 6 lgC W5 B (.slice (some ⟨g, 0, none⟩) l.length l.length) l ∧ g < W5.heap.size from by
    rw [hW5]
    exact ⟨H1.out.1.other (by omega), H1.out.2.1.other (by omega), H1.out.2.2.1.set0 _, H1.out.2.2.2.1.setCell (by dsimp only; omega) _, H1.out.2.2.2.2.set hog, by simpa [World.setCell] using hz1⟩)
  clear hW5 c0 c1 c2 d0 d1 d2 f0 f1 f2 H1 hog hz1
  refine (to_ints D cd zs W5 (HRW.out.below (by rw [HBE.out]; exact H5.out.2.2.2.1)) (by omega)).mono ?_; rintro e w6 ⟨rfl, ho6, hb6⟩
  obtain ⟨h, hh⟩ : ∃ h, h = W5.heap.size := ⟨_, rfl⟩
  rw [← hh] at ho6 ⊢
  have hgh : g < h := by rw [hh]; exact H5.out.2.2.2.2.2
  have H6 := Lib.hid (And.intro (H5.out.1.below hb6) (And.intro (H5.out.2.1.below hb6) (And.intro (H5.out.2.2.1.below hb6) (And.intro (H5.out.2.2.2.1.trans (hb6.mono (by omega))) (And.intro (H5.out.2.2.2.2.1.below hb6) (OwnI.mono ho6 (show B ≤ h by omega)))))))
  clear hb6 H5 hh ho6
  obtain ⟨c0, c1, c2⟩ := H6.out.1.cells
  obtain ⟨d0, d1, d2⟩ := H6.out.2.2.1.cells
  obtain ⟨f0, f1, f2⟩ := H6.out.2.2.1.free
  obtain ⟨m0, m1, m2⟩ := H6.out.2.1.cells
  obtain ⟨n0, n1, n2⟩ := H6.out.2.1.free
  have HG1 := Lib.hid (show (Value.slice (some ⟨g, 0, none⟩) l.length l.length).ownBlock ≠ some (B + 1) from fun e => by have e' : g = B + 1 := Option.some.inj e; omega)
  have HG2 := Lib.hid (show (Value.slice (some ⟨g, 0, none⟩) l.length l.length).ownBlock ≠ some (B + 2) from fun e => by have e' : g = B + 2 := Option.some.inj e; omega)
  have HH1 := Lib.hid (show (Value.slice (some ⟨h, 0, none⟩) zs.length zs.length).ownBlock ≠ some (B + 1) from fun e => by have e' : h = B + 1 := Option.some.inj e; omega)
  have HH2 := Lib.hid (show (Value.slice (some ⟨h, 0, none⟩) zs.length zs.length).ownBlock ≠ some (B + 2) from fun e => by have e' : h = B + 2 := Option.some.inj e; omega)
  go_wp2
  refine bodyPost_ret (v := .agg #[.slice (some ⟨g, 0, none⟩) l.length l.length, .slice (some ⟨h, 0, none⟩) zs.length zs.length, .int .i64 x]) (by simp [results, Try.results52, go_sem, m0, m1, m2]) rfl ⟨g, h, rfl, ⟨?_, ?_, by omega⟩, ?_⟩
  · rw [HBE.out]
    have hx := H6.out.2.2.2.2.1
    repeat (first | with_reducible exact hx | (with_reducible refine OwnK.set ?_ ?_; rotate_left; (first | with_reducible exact HG1.out | with_reducible exact HG2.out)))
  · rw [HBE.out]
    have hx := H6.out.2.2.2.2.2
    repeat (first | with_reducible exact hx | (with_reducible refine OwnI.set ?_ ?_; rotate_left; (first | with_reducible exact HH1.out | with_reducible exact HH2.out)))
  · rw [HBE.out]
    have hx := H6.out.2.2.2.1
    repeat (first | with_reducible exact hx | (with_reducible refine Below.setCell ?_ ?_ _; rotate_left; (dsimp only; omega)))
set_option maxRecDepth 100000 in
set_option maxHeartbeats 1000000 in
theorem eq_net (A A' : Option Addr) (ca ca' : Nat) (l : List Lg) (D D' : Option Addr) (cd cd' : Nat) (zs : List Int) (x : Int) (w : World) (hA : InK 6 lgC w A l) (hA' : InK 6 lgC w A' l) (hD : IntsIn w D zs) (hD' : IntsIn w D' zs) (hn : l.length ≤ 1048576) (hm : zs.length ≤ 1048576) :
    Calls Try.prog 55 #[.agg #[.slice A l.length ca, .slice D zs.length cd, .int .i64 x], .agg #[.slice A' l.length ca', .slice D' zs.length cd', .int .i64 x]] w fun e w' => e = .returned (.bool true) ∧ Below w.heap.size w w' := by
  have hb0 := ((Below.refl w.heap.size w).alloc (Nat.le_refl _) (.cells #[.slice A l.length ca, .slice D zs.length cd, .int .i64 x] 39)).alloc (by simp) (.cells #[.slice A' l.length ca', .slice D' zs.length cd', .int .i64 x] 39)
  have x1 : Box3 39 ((w.alloc (.cells #[.slice A l.length ca, .slice D zs.length cd, .int .i64 x] 39)).alloc (.cells #[.slice A' l.length ca', .slice D' zs.length cd', .int .i64 x] 39)) w.heap.size (.slice A l.length ca) (.slice D zs.length cd) (.int .i64 x) :=
    (Box3.new w).below ((Below.refl _ _).alloc (Nat.le_refl _) _)
  have x2 : Box3 39 ((w.alloc (.cells #[.slice A l.length ca, .slice D zs.length cd, .int .i64 x] 39)).alloc (.cells #[.slice A' l.length ca', .slice D' zs.length cd', .int .i64 x] 39)) (w.heap.size + 1) (.slice A' l.length ca') (.slice D' zs.length cd') (.int .i64 x) := by
    have h := Box3.new (T := 39) (v0 := .slice A' l.length ca') (v1 := .slice D' zs.length cd') (v2 := .int .i64 x) (w.alloc (.cells #[.slice A l.length ca, .slice D zs.length cd, .int .i64 x] 39))
    simpa using h
  have HA := Lib.hid (hA.below hb0); have HA' := Lib.hid (hA'.below hb0); have HD := Lib.hid (hD.below hb0); have HD' := Lib.hid (hD'.below hb0); clear hA hA' hD hD'
  have X1 := Lib.hid x1; have X2 := Lib.hid x2; clear x1 x2
  have h1 : (x != x) = false := by simp
  go_enter Try.func55, Try.ntmps55
  go_wp2_with fail
  generalize (w.alloc (.cells #[.slice A l.length ca, .slice D zs.length cd, .int .i64 x] 39)).alloc (.cells #[.slice A' l.length ca', .slice D' zs.length cd', .int .i64 x] 39) = W at *
  refine (eq_lgs A A' ca ca' l W HA.out HA'.out hn).mono ?_; rintro e w1 ⟨rfl, hb1⟩
  obtain ⟨c0, c1, c2⟩ := (X1.out.below hb1).cells
  obtain ⟨d0, d1, d2⟩ := (X2.out.below hb1).cells
  have Y1 := Lib.hid (X1.out.below hb1); have Y2 := Lib.hid (X2.out.below hb1)
  have HD1 := Lib.hid (HD.out.below hb1); have HE1 := Lib.hid (HD'.out.below hb1)
  replace hb1 := hb0.trans (hb1.mono hb0.size)
  go_wp2_with fail
  refine (eq_ints D D' cd cd' zs w1 HD1.out HE1.out (by omega)).mono ?_; rintro e w2 ⟨rfl, hb2⟩
  clear c0 c1 c2 d0 d1 d2
  obtain ⟨c0, c1, c2⟩ := (Y1.out.below hb2).cells
  obtain ⟨d0, d1, d2⟩ := (Y2.out.below hb2).cells
  go_wp2
  go_ret
  exact ⟨rfl, hb1.trans (hb2.mono hb1.size)⟩
end Go.Proofs.Ytbdnbchleoahgaa

/- A belief's size, its copy, that copies are alike, and Doubt. -/
import Derived.Test.YtinijleelhbpoaaOpenBel
namespace Go.Proofs.Ytinijleelhbpoaa
open Go.RowKit
theorem Box2.set0 {T : TypeId} {W : World} {B : Nat} {v0 v1 : Value} (h : Box2 T W B v0 v1) (x : Value) : Box2 T (W.setCell ⟨B, 0, none⟩ x) B x v1 := heap_set h 0 x
theorem st_set {w : World} {b B i : Nat} {x v : Value} {l : List ByteArray} (h : OwnStr w b v l) (hn : v.ownBlock ≠ some B) : OwnStr (w.setCell ⟨B, i, none⟩ x) b v l := World.ownsRow.kept h (only_set w B i x) (.inr hn)
theorem tp_set {w : World} {b B i : Nat} {x v : Value} {l : List Tp} (h : OwnK 41 2 tpC w b v l) (hn : v.ownBlock ≠ some B) : OwnK 41 2 tpC (w.setCell ⟨B, i, none⟩ x) b v l := World.ownsRow.kept h (only_set w B i x) (.inr hn)
theorem st_mono {w : World} {base base' : Nat} {v : Value} {l : List ByteArray} (h : OwnStr w base v l) (hb : base' ≤ base) : OwnStr w base' v l := by
  refine ⟨h.1, ?_⟩
  rcases h.2 with ⟨a, b⟩ | ⟨g, cap, cur, a, b, c⟩
  · exact .inl ⟨a, b⟩
  · exact .inr ⟨g, cap, cur, a, Nat.le_trans hb b, c⟩
/-- what szBelief answers -/
def Sz3 (left : Int) (n m : Nat) (e : Ending) : Prop := ∃ r : Int, e = .returned (.int .i64 r) ∧ (r = -1 ∨ (0 ≤ r ∧ r ≤ left ∧ (n : Int) ≤ left ∧ (m : Int) ≤ left))
set_option maxRecDepth 100000 in
theorem sz_bel (A D : Option Addr) (ca cd : Nat) (l : List ByteArray) (m : Nat) (left : Int) (w : World) (hA : RawK 1 stC w A l) (hs : ∀ z ∈ l, z.size ≤ maxLen) (hn : l.length ≤ maxLen) (hm : m ≤ maxLen) (hl : 0 ≤ left ∧ left ≤ 1048576) :
    Calls Try.prog 4 #[.agg #[.slice A l.length ca, .slice D m cd], .int .i64 left] w fun e w' => Sz3 left l.length m e ∧ Below w.heap.size w w' := by
  have hB := Box2.new (T := 25) (v0 := .slice A l.length ca) (v1 := .slice D m cd) w
  have hb0 := (Below.refl w.heap.size w).alloc (Nat.le_refl _) (.cells #[.slice A l.length ca, .slice D m cd] 25)
  have HA := Lib.hid (hA.below hb0); clear hA
  have HS := Lib.hid hs; have HN := Lib.hid hn; have HM := Lib.hid hm; clear hs hn hm
  obtain ⟨hl0, hl1⟩ := hl
  go_enter Try.func4, Try.ntmps4
  go_wp2_with fail
  generalize w.alloc (.cells #[.slice A l.length ca, .slice D m cd] 25) = W at *
  refine (sz_sts A ca l left W HA.out HS.out HN.out (by omega)).mono ?_; rintro e w1 ⟨⟨r, rfl, hr⟩, hb1⟩
  replace hB := hB.below hb1
  replace hb1 := hb0.trans (hb1.mono hb0.size)
  obtain ⟨c0, c1⟩ := hB.cells
  have HB := Lib.hid hB; clear hB hb0
  rcases hr with rfl | ⟨hr0, hr1, hr2⟩
  · go_wp2
    go_ret
    exact ⟨⟨-1, rfl, .inl rfl⟩, hb1⟩
  · have hrn : ¬ r < 0 := by omega
    go_wp2_with fail
    refine (sz_tps D cd m r w1 HM.out (by omega)).mono ?_; rintro e w2 ⟨⟨q, rfl, hq⟩, hb2⟩
    replace hb2 := hb1.trans (hb2.mono hb1.size)
    rcases hq with rfl | ⟨hq0, hq1, hq2⟩
    · go_wp2
      go_ret
      exact ⟨⟨-1, rfl, .inl rfl⟩, hb2⟩
    · have hqn : ¬ q < 0 := by omega
      go_wp2
      go_ret
      exact ⟨⟨_, rfl, .inr ⟨by omega, by omega, by omega, by omega⟩⟩, hb2⟩
set_option maxRecDepth 100000 in
theorem to_bel (A D : Option Addr) (ca cd : Nat) (l : List ByteArray) (ts : List Tp) (w : World) (hA : RawK 1 stC w A l) (hD : RawK 2 tpC w D ts) (hn : l.length ≤ 1048576) (hm : ts.length ≤ 1048576) :
    Calls Try.prog 6 #[.agg #[.slice A l.length ca, .slice D ts.length cd]] w fun e w' => ∃ g h, e = .returned (.agg #[.slice (some ⟨g, 0, none⟩) l.length l.length, .slice (some ⟨h, 0, none⟩) ts.length ts.length]) ∧
      (OwnStr w' w.heap.size (.slice (some ⟨g, 0, none⟩) l.length l.length) l ∧ OwnK 41 2 tpC w' w.heap.size (.slice (some ⟨h, 0, none⟩) ts.length ts.length) ts) ∧ Below w.heap.size w w' := by
  let C1 : Obj := .cells #[.slice A l.length ca, .slice D ts.length cd] 25
  let C2 : Obj := .cells #[.slice none 0 0, .slice none 0 0] 30
  have e1 : (w.alloc C1).heap.size = w.heap.size + 1 := by simp
  have e2 : ((w.alloc C1).alloc C2).heap.size = w.heap.size + 2 := by simp
  have x1 : Box2 25 (((w.alloc C1).alloc C2).alloc C2) w.heap.size (.slice A l.length ca) (.slice D ts.length cd) :=
    ((Box2.new w).below ((Below.refl _ _).alloc (Nat.le_refl _) C2)).below ((Below.refl _ _).alloc (Nat.le_refl _) C2)
  have x2 : Box2 30 (((w.alloc C1).alloc C2).alloc C2) (w.heap.size + 1) (.slice none 0 0) (.slice none 0 0) := by
    rw [← e1]; exact (Box2.new (w.alloc C1)).below ((Below.refl _ _).alloc (Nat.le_refl _) C2)
  have x3 : Box2 30 (((w.alloc C1).alloc C2).alloc C2) (w.heap.size + 2) (.slice none 0 0) (.slice none 0 0) := by
    rw [← e2]; exact Box2.new ((w.alloc C1).alloc C2)
  have hb0 : Below w.heap.size w (((w.alloc C1).alloc C2).alloc C2) := (((Below.refl _ _).alloc (Nat.le_refl _) C1).alloc (by simp) C2).alloc (by simp; omega) C2
  have hz0 : w.heap.size + 3 = (((w.alloc C1).alloc C2).alloc C2).heap.size := by simp
  have HRW := Lib.hid hD
  have H0 := Lib.hid (And.intro x1 (And.intro x2 (And.intro x3 (And.intro hb0 (And.intro (hA.below hb0) hz0)))))
  clear x1 x2 x3 hb0 hz0 hA hD e1 e2
  go_enter Try.func6, Try.ntmps6
  go_wp2_with fail
  generalize hB : w.heap.size = B at *
  have HBE := Lib.hid hB; clear hB
  change Hid (Box2 25 (((w.alloc C1).alloc C2).alloc C2) B (.slice A l.length ca) (.slice D ts.length cd) ∧ Box2 30 (((w.alloc C1).alloc C2).alloc C2) (B + 1) (.slice none 0 0) (.slice none 0 0) ∧ Box2 30 (((w.alloc C1).alloc C2).alloc C2) (B + 2) (.slice none 0 0) (.slice none 0 0) ∧ Below B w (((w.alloc C1).alloc C2).alloc C2) ∧ RawK 1 stC (((w.alloc C1).alloc C2).alloc C2) A l ∧ B + 3 = (((w.alloc C1).alloc C2).alloc C2).heap.size) at H0
  change Calls _ _ _ (((w.alloc C1).alloc C2).alloc C2) _
  generalize ((w.alloc C1).alloc C2).alloc C2 = W at *
  refine (to_sts A ca l W H0.out.2.2.2.2.1 (by omega)).mono ?_; rintro e w1 ⟨rfl, ho1, hb1⟩
  obtain ⟨g, hg⟩ : ∃ g, g = W.heap.size := ⟨_, rfl⟩
  rw [← hg] at ho1 ⊢
  have hgB : B + 3 ≤ g := by rw [hg]; exact Nat.le_of_eq H0.out.2.2.2.2.2
  have hz1 : g < w1.heap.size := (World.ownsRow.lt ho1 g rfl).2
  have H1 := Lib.hid (And.intro (H0.out.1.below hb1) (And.intro (H0.out.2.1.below hb1) (And.intro (H0.out.2.2.1.below hb1) (And.intro (H0.out.2.2.2.1.trans (hb1.mono (by omega))) (show OwnStr w1 B _ l from st_mono ho1 (show B ≤ g by omega))))))
  clear hb1 H0 ho1 hg
  obtain ⟨c0, c1⟩ := H1.out.1.cells
  obtain ⟨d0, d1⟩ := H1.out.2.2.1.cells
  obtain ⟨f0, f1⟩ := H1.out.2.2.1.free
  go_wp2_with fail
  obtain ⟨W5, hW5⟩ : ∃ W5, W5 = w1.setCell ⟨B + 2, 0, none⟩ (.slice (some ⟨g, 0, none⟩) l.length l.length) := ⟨_, rfl⟩
  rw [← hW5]
  have hog : (Value.slice (some ⟨g, 0, none⟩) l.length l.length).ownBlock ≠ some (B + 2) := fun e => by have e' : g = B + 2 := Option.some.inj e; omega
  have H5 := Lib.hid (show Box2 25 W5 B (.slice A l.length ca) (.slice D ts.length cd) ∧ Box2 30 W5 (B + 1) (.slice none 0 0) (.slice none 0 0) ∧ Box2 30 W5 (B + 2) (.slice (some ⟨g, 0, none⟩) l.length l.length) (.slice none 0 0) ∧ Below B w W5 ∧ OwnStr W5 B (.slice (some ⟨g, 0, none⟩) l.length l.length) l ∧ g < W5.heap.size by
    rw [hW5]
    exact ⟨H1.out.1.other (by omega), H1.out.2.1.other (by omega), H1.out.2.2.1.set0 _, H1.out.2.2.2.1.setCell (by dsimp only; omega) _, st_set H1.out.2.2.2.2 hog, by simpa [World.setCell] using hz1⟩)
  clear hW5 c0 c1 d0 d1 f0 f1 H1 hog hz1
  refine (to_tps D cd ts W5 (HRW.out.below (by rw [HBE.out]; exact H5.out.2.2.2.1)) (by omega)).mono ?_; rintro e w6 ⟨rfl, ho6, hb6⟩
  obtain ⟨h, hh⟩ : ∃ h, h = W5.heap.size := ⟨_, rfl⟩
  rw [← hh] at ho6 ⊢
  have hgh : g < h := by rw [hh]; exact H5.out.2.2.2.2.2
  have H6 := Lib.hid (And.intro (H5.out.1.below hb6) (And.intro (H5.out.2.1.below hb6) (And.intro (H5.out.2.2.1.below hb6) (And.intro (H5.out.2.2.2.1.trans (hb6.mono (by omega))) (And.intro (show OwnStr w6 B _ l from own_below H5.out.2.2.2.2.1 hb6) (OwnK.mono ho6 (show B ≤ h by omega)))))))
  clear hb6 H5 hh ho6
  obtain ⟨c0, c1⟩ := H6.out.1.cells
  obtain ⟨d0, d1⟩ := H6.out.2.2.1.cells
  obtain ⟨f0, f1⟩ := H6.out.2.2.1.free
  obtain ⟨m0, m1⟩ := H6.out.2.1.cells
  obtain ⟨n0, n1⟩ := H6.out.2.1.free
  have HG1 := Lib.hid (show (Value.slice (some ⟨g, 0, none⟩) l.length l.length).ownBlock ≠ some (B + 1) from fun e => by have e' : g = B + 1 := Option.some.inj e; omega)
  have HG2 := Lib.hid (show (Value.slice (some ⟨g, 0, none⟩) l.length l.length).ownBlock ≠ some (B + 2) from fun e => by have e' : g = B + 2 := Option.some.inj e; omega)
  have HH1 := Lib.hid (show (Value.slice (some ⟨h, 0, none⟩) ts.length ts.length).ownBlock ≠ some (B + 1) from fun e => by have e' : h = B + 1 := Option.some.inj e; omega)
  have HH2 := Lib.hid (show (Value.slice (some ⟨h, 0, none⟩) ts.length ts.length).ownBlock ≠ some (B + 2) from fun e => by have e' : h = B + 2 := Option.some.inj e; omega)
  go_wp2
  refine bodyPost_ret (v := .agg #[.slice (some ⟨g, 0, none⟩) l.length l.length, .slice (some ⟨h, 0, none⟩) ts.length ts.length]) (by simp [results, Try.results6, go_sem, m0, m1]) rfl ⟨g, h, rfl, ⟨?_, ?_⟩, ?_⟩
  · rw [HBE.out]
    have hx := H6.out.2.2.2.2.1
    repeat (first | with_reducible exact hx | (with_reducible refine st_set ?_ ?_; rotate_left; (first | with_reducible exact HG1.out | with_reducible exact HG2.out)))
  · rw [HBE.out]
    have hx := H6.out.2.2.2.2.2
    repeat (first | with_reducible exact hx | (with_reducible refine tp_set ?_ ?_; rotate_left; (first | with_reducible exact HH1.out | with_reducible exact HH2.out)))
  · rw [HBE.out]
    have hx := H6.out.2.2.2.1
    repeat (first | with_reducible exact hx | (with_reducible refine Below.setCell ?_ ?_ _; rotate_left; (dsimp only; omega)))
theorem doubt_impl2 (A1 A2 : Option Addr) (n1 c1 n2 c2 : Nat) (w : World) (h1 : n1 ≤ 4000000) (h2 : n2 ≤ 4000000) :
    Calls Try.prog 7 #[.agg #[.slice A1 n1 c1, .slice A2 n2 c2]] w fun e w' => e = .returned (.int .i64 ((n1 + n2 : Nat) : Int)) ∧ Below w.heap.size w w' := by
  have hb0 := (Below.refl w.heap.size w).alloc (Nat.le_refl _) (.cells #[.slice A1 n1 c1, .slice A2 n2 c2] 30)
  go_enter Try.func7, Try.ntmps7
  go_wp2
  go_ret
  exact ⟨by go_num, hb0⟩
theorem doubt_spec2 (A1 A2 : Option Addr) (n1 c1 n2 c2 : Nat) (w : World) (h1 : n1 ≤ 4000000) (h2 : n2 ≤ 4000000) :
    Calls Try.prog 5 #[.agg #[.slice A1 n1 c1, .slice A2 n2 c2]] w fun e w' => e = .returned (.int .i64 ((n1 + n2 : Nat) : Int)) ∧ Below w.heap.size w w' := by
  have hb0 := (Below.refl w.heap.size w).alloc (Nat.le_refl _) (.cells #[.slice A1 n1 c1, .slice A2 n2 c2] 30)
  go_enter Try.func5, Try.ntmps5
  go_wp2
  go_ret
  exact ⟨by go_num, hb0⟩
set_option maxRecDepth 100000 in
theorem eq_bel2 (A1 A2 B1 B2 : Option Addr) (n1 n2 m1 m2 : Nat) (l : List ByteArray) (ts : List Tp) (b1 b2 c1 c2 : Nat) (w : World) (h1 : OwnStr w b1 (.slice A1 l.length n1) l) (h2 : OwnStr w c1 (.slice B1 l.length m1) l) (h3 : OwnK 41 2 tpC w b2 (.slice A2 ts.length n2) ts) (h4 : OwnK 41 2 tpC w c2 (.slice B2 ts.length m2) ts) (hl : l.length ≤ 1048576) (ht : ts.length ≤ 1048576) :
    Calls Try.prog 8 #[.agg #[.slice A1 l.length n1, .slice A2 ts.length n2], .agg #[.slice B1 l.length m1, .slice B2 ts.length m2]] w fun e w' => e = .returned (.bool true) ∧ Below w.heap.size w w' := by
  let C1 : Obj := .cells #[.slice A1 l.length n1, .slice A2 ts.length n2] 30
  let C2 : Obj := .cells #[.slice B1 l.length m1, .slice B2 ts.length m2] 30
  have e1 : (w.alloc C1).heap.size = w.heap.size + 1 := by simp
  have hb0 : Below w.heap.size w ((w.alloc C1).alloc C2) := ((Below.refl _ _).alloc (Nat.le_refl _) C1).alloc (by simp) C2
  have FA := Lib.hid (show Box2 30 ((w.alloc C1).alloc C2) w.heap.size _ _ from (Box2.new w).below ((Below.refl _ _).alloc (Nat.le_refl _) C2))
  have FB := Lib.hid (show Box2 30 ((w.alloc C1).alloc C2) (w.heap.size + 1) _ _ by rw [← e1]; exact Box2.new (w.alloc C1))
  have HE1 := Lib.hid (eq_strs _ _ l b1 c1 _ (own_below h1 hb0) (own_below h2 hb0) (by omega))
  have HO3 := Lib.hid (OwnK.below h3 hb0); have HO4 := Lib.hid (OwnK.below h4 hb0)
  have HB := Lib.hid hb0; have HL := Lib.hid hb0.size
  clear h1 h2 h3 h4 hb0 e1
  generalize hB : w.heap.size = B at *
  go_enter Try.func8, Try.ntmps8
  go_wp2_with fail
  clear hB
  change Calls _ _ _ ((w.alloc C1).alloc C2) _
  generalize (w.alloc C1).alloc C2 = w0 at *
  refine HE1.out.mono ?_; rintro e w1 ⟨rfl, hb⟩
  have HE2 := Lib.hid (eq_tps A2 B2 n2 m2 ts w1 ((OwnK.below HO3.out hb).ins tpC_len).2 ((OwnK.below HO4.out hb).ins tpC_len).2 ht)
  replace FA := Lib.hid (FA.out.below hb); replace FB := Lib.hid (FB.out.below hb); replace HB := Lib.hid (HB.out.trans (hb.mono HL.out)); replace HL := Lib.hid (Nat.le_trans HL.out hb.size)
  clear hb HE1 HO3 HO4
  obtain ⟨x0, x1⟩ := FA.out.cells
  obtain ⟨y0, y1⟩ := FB.out.cells
  go_wp2_with fail
  refine HE2.out.mono ?_; rintro e w2 ⟨rfl, hb⟩
  go_wp2
  go_ret
  exact ⟨rfl, HB.out.trans (hb.mono HL.out)⟩
end Go.Proofs.Ytinijleelhbpoaa

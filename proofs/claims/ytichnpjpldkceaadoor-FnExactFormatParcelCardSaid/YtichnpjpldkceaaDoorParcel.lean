/- Parcels: what the exact laws make, measure and compare. -/
import Derived.Test.YtichnpjpldkceaaDoorIsLab
import Derived.Test.YtichnpjpldkceaaDoorThree
import Derived.Test.YtichnpjpldkceaaDoorSz
import Derived.Test.YtichnpjpldkceaaDoorOwnK
namespace Go.Proofs.YtichnpjpldkceaaDoor
open Go.RowKit
def pC (a b : Int) (t f : ByteArray) (wt : Int) (S : Value) (v : Int) : Array Value := #[.int .i64 a, .int .i64 b, .string t, .string f, .int .i64 wt, S, .int .i64 v]
/-- a parcel in a block of the call's own -/
def BoxP (T : TypeId) (W : World) (B : Nat) (a b : Int) (t f : ByteArray) (wt : Int) (S : Value) (v : Int) : Prop := W.heap[B]? = some (.cells (pC a b t f wt S v) T (0, 0))
section
variable {T : TypeId} {W W' : World} {B : Nat} {a b : Int} {t f : ByteArray} {wt : Int} {S : Value} {v : Int}
theorem BoxP.lt (h : BoxP T W B a b t f wt S v) : B < W.heap.size := (Array.getElem?_eq_some_iff.1 h).1
theorem BoxP.below (h : BoxP T W B a b t f wt S v) (hb : Below W.heap.size W W') : BoxP T W' B a b t f wt S v := (hb.block B h.lt).trans h
theorem BoxP.cells (h : BoxP T W B a b t f wt S v) : W.cell? ⟨B, 0, none⟩ = some (.int .i64 a) ∧ W.cell? ⟨B, 1, none⟩ = some (.int .i64 b) ∧ W.cell? ⟨B, 2, none⟩ = some (.string t) ∧ W.cell? ⟨B, 3, none⟩ = some (.string f) ∧ W.cell? ⟨B, 4, none⟩ = some (.int .i64 wt) ∧ W.cell? ⟨B, 5, none⟩ = some S ∧ W.cell? ⟨B, 6, none⟩ = some (.int .i64 v) := by
  refine ⟨?_, ?_, ?_, ?_, ?_, ?_, ?_⟩ <;> (rw [cell_of_row W B _ _ _ _ h]; rfl)
theorem BoxP.free (h : BoxP T W B a b t f wt S v) (i : Nat) : W.frozen? ⟨B, i, none⟩ = false := frozen_of_row W B i _ _ h
theorem BoxP.new (w : World) : BoxP T (w.alloc (.cells #[.int .i64 a, .int .i64 b, .string t, .string f, .int .i64 wt, S, .int .i64 v] T)) w.heap.size a b t f wt S v := heap_alloc_new w _
end
theorem sz_label_any (a b : Int) (s : ByteArray) (left : Int) (w : World) (hs : s.size ≤ maxLen) (hl : 0 ≤ left ∧ left ≤ 1048576) :
    Calls Tryd.prog 24 #[.agg #[.int .i64 a, .int .i64 b, .string s], .int .i64 left] w fun e w' => SzPost left s.size e ∧ Below w.heap.size w w' := by
  by_cases h : left < s.size
  · exact (sz_big a b s left w hs hl h).mono fun e w' ⟨h1, h2⟩ => ⟨⟨_, h1, .inl rfl⟩, h2⟩
  · exact (sz_ok a b s left w hs hl (by omega)).mono fun e w' ⟨h1, h2⟩ => ⟨⟨_, h1, .inr ⟨by omega, by omega, by omega⟩⟩, h2⟩
def SzParcel (left : Int) (t f n : Nat) (e : Ending) : Prop := ∃ r : Int, e = .returned (.int .i64 r) ∧ (r = -1 ∨ (0 ≤ r ∧ r ≤ left ∧ (t : Int) ≤ left ∧ (f : Int) ≤ left ∧ (n : Int) ≤ left))
set_option maxRecDepth 100000 in
set_option maxHeartbeats 1000000 in
theorem sz_parcel (a b : Int) (t f : ByteArray) (wt : Int) (A : Option Addr) (n cap : Nat) (v left : Int) (w : World) (ht : t.size ≤ maxLen) (hf : f.size ≤ maxLen) (hn : n ≤ maxLen) (hl : 0 ≤ left ∧ left ≤ 1048576) :
    Calls Tryd.prog 8 #[.agg #[.int .i64 a, .int .i64 b, .string t, .string f, .int .i64 wt, .slice A n cap, .int .i64 v], .int .i64 left] w fun e w' => SzParcel left t.size f.size n e ∧ Below w.heap.size w w' := by
  have HT := Lib.hid ht; have HN := Lib.hid hn; clear ht hn
  have hfm := hf
  unfold maxLen at hfm
  clear hf
  obtain ⟨hl0, hl1⟩ := hl
  have hB := BoxP.new (T := 26) (a := a) (b := b) (t := t) (f := f) (wt := wt) (S := .slice A n cap) (v := v) w
  have hb0 := (Below.refl w.heap.size w).alloc (Nat.le_refl _) (.cells #[.int .i64 a, .int .i64 b, .string t, .string f, .int .i64 wt, .slice A n cap, .int .i64 v] 26)
  go_enter Tryd.func8, Tryd.ntmps8
  go_wp2_with fail
  generalize w.alloc (.cells #[.int .i64 a, .int .i64 b, .string t, .string f, .int .i64 wt, .slice A n cap, .int .i64 v] 26) = W at *
  refine (sz_label_any a b t left W HT.out (by omega)).mono ?_; rintro e w1 ⟨⟨r, rfl, hr⟩, hb1⟩
  replace hB := hB.below hb1
  replace hb1 := hb0.trans (hb1.mono hb0.size)
  obtain ⟨c0, c1, c2, c3, c4, c5, c6⟩ := hB.cells
  have HB := Lib.hid hB; clear hB hb0
  rcases hr with rfl | ⟨hr0, hr1, hr2⟩
  · go_wp2
    go_ret
    exact ⟨⟨-1, rfl, .inl rfl⟩, hb1⟩
  · have hrn : ¬ r < 0 := by omega
    by_cases h2 : r - (f.size : Int) < 0
    · go_wp2
      go_ret
      exact ⟨⟨-1, rfl, .inl rfl⟩, hb1⟩
    · go_wp2_with fail
      refine (sz_ints A cap n (r - (f.size : Int)) w1 HN.out (by omega)).mono ?_; rintro e w2 ⟨⟨q, rfl, hq⟩, hb2⟩
      replace hb2 := hb1.trans (hb2.mono hb1.size)
      rcases hq with rfl | ⟨hq0, hq1, hq2⟩
      · go_wp2
        go_ret
        exact ⟨⟨-1, rfl, .inl rfl⟩, hb2⟩
      · have hqn : ¬ q < 0 := by omega
        go_wp2
        go_ret
        exact ⟨⟨_, rfl, .inr ⟨by omega, by omega, by omega, by omega, by omega⟩⟩, hb2⟩
set_option maxHeartbeats 400000 in
theorem eq_label (a b : Int) (s : ByteArray) (w : World) :
    Calls Tryd.prog 36 #[.agg #[.int .i64 a, .int .i64 b, .string s], .agg #[.int .i64 a, .int .i64 b, .string s]] w fun e w' => e = .returned (.bool true) ∧ Below w.heap.size w w' := by
  have h1 : (a != a) = false := by simp
  have h2 : (b != b) = false := by simp
  have h3 : (s.toList != s.toList) = false := by simp
  go_enter Tryd.func36, Tryd.ntmps36
  go_wp2
  go_ret
  exact ⟨rfl, ((Below.refl _ _).alloc (Nat.le_refl _) _).alloc (by simp) _⟩
set_option maxRecDepth 100000 in
set_option maxHeartbeats 1000000 in
theorem eq_parcel (a b : Int) (t f : ByteArray) (wt : Int) (A B : Option Addr) (ca cb : Nat) (zs : List Int) (v : Int) (w : World) (hA : IntsIn w A zs) (hB : IntsIn w B zs) (hn : zs.length ≤ 1048576) :
    Calls Tryd.prog 12 #[.agg #[.int .i64 a, .int .i64 b, .string t, .string f, .int .i64 wt, .slice A zs.length ca, .int .i64 v], .agg #[.int .i64 a, .int .i64 b, .string t, .string f, .int .i64 wt, .slice B zs.length cb, .int .i64 v]] w fun e w' => e = .returned (.bool true) ∧ Below w.heap.size w w' := by
  have x1 := BoxP.new (T := 31) (a := a) (b := b) (t := t) (f := f) (wt := wt) (S := .slice A zs.length ca) (v := v) w
  have x2 := BoxP.new (T := 31) (a := a) (b := b) (t := t) (f := f) (wt := wt) (S := .slice B zs.length cb) (v := v) (w.alloc (.cells #[.int .i64 a, .int .i64 b, .string t, .string f, .int .i64 wt, .slice A zs.length ca, .int .i64 v] 31))
  replace x1 := x1.below ((Below.refl _ _).alloc (Nat.le_refl _) (.cells #[.int .i64 a, .int .i64 b, .string t, .string f, .int .i64 wt, .slice B zs.length cb, .int .i64 v] 31))
  rw [show (w.alloc (.cells #[.int .i64 a, .int .i64 b, .string t, .string f, .int .i64 wt, .slice A zs.length ca, .int .i64 v] 31)).heap.size = w.heap.size + 1 from by simp] at x2
  have hb0 := ((Below.refl w.heap.size w).alloc (Nat.le_refl _) (.cells #[.int .i64 a, .int .i64 b, .string t, .string f, .int .i64 wt, .slice A zs.length ca, .int .i64 v] 31)).alloc (by simp) (.cells #[.int .i64 a, .int .i64 b, .string t, .string f, .int .i64 wt, .slice B zs.length cb, .int .i64 v] 31)
  have HA := Lib.hid (hA.below hb0); have HBB := Lib.hid (hB.below hb0); clear hA hB
  have X1 := Lib.hid x1; have X2 := Lib.hid x2; clear x1 x2
  have h1 : (wt != wt) = false := by simp
  have h2 : (v != v) = false := by simp
  have h3 : (f.toList != f.toList) = false := by simp
  go_enter Tryd.func12, Tryd.ntmps12
  go_wp2_with fail
  generalize (w.alloc (.cells #[.int .i64 a, .int .i64 b, .string t, .string f, .int .i64 wt, .slice A zs.length ca, .int .i64 v] 31)).alloc (.cells #[.int .i64 a, .int .i64 b, .string t, .string f, .int .i64 wt, .slice B zs.length cb, .int .i64 v] 31) = W at *
  refine (eq_label a b t W).mono ?_; rintro e w1 ⟨rfl, hb1⟩
  obtain ⟨c0, c1, c2, c3, c4, c5, c6⟩ := (X1.out.below hb1).cells
  obtain ⟨d0, d1, d2, d3, d4, d5, d6⟩ := (X2.out.below hb1).cells
  have Y1 := Lib.hid (X1.out.below hb1); have Y2 := Lib.hid (X2.out.below hb1)
  have HA1 := Lib.hid (HA.out.below hb1); have HB1 := Lib.hid (HBB.out.below hb1)
  replace hb1 := hb0.trans (hb1.mono hb0.size)
  go_wp2_with fail
  refine (eq_ints A B ca cb zs w1 HA1.out HB1.out (by omega)).mono ?_; rintro e w2 ⟨rfl, hb2⟩
  clear c0 c1 c2 c3 c4 c5 c6 d0 d1 d2 d3 d4 d5 d6
  obtain ⟨c0, c1, c2, c3, c4, c5, c6⟩ := (Y1.out.below hb2).cells
  obtain ⟨d0, d1, d2, d3, d4, d5, d6⟩ := (Y2.out.below hb2).cells
  go_wp2
  go_ret
  exact ⟨rfl, hb1.trans (hb2.mono hb1.size)⟩
end Go.Proofs.YtichnpjpldkceaaDoor

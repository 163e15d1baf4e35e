/- Boxes of any cells, exact sizes, and items read wherever they lie. -/
import Derived.Test.YtiplbfpkfhlhcaaItems
import Derived.Test.YtiplbfpkfhlhcaaBa
import Derived.Deep.RegionHeld3
namespace Go.Proofs.Ytiplbfpkfhlhcaa
open Go.RowKit
/-- cells in a block of the call's own -/
def Bx (T : TypeId) (W : World) (B : Nat) (vs : List Value) : Prop := W.heap[B]? = some (.cells ⟨vs⟩ T (0, 0))
section
variable {T : TypeId} {W W' : World} {B : Nat} {vs : List Value}
theorem Bx.lt (h : Bx T W B vs) : B < W.heap.size := (Array.getElem?_eq_some_iff.1 h).1
theorem Bx.below (h : Bx T W B vs) (hb : Below W.heap.size W W') : Bx T W' B vs := (hb.block B h.lt).trans h
theorem Bx.apart {r : Option Nat} (h : Bx T W B vs) (hg : W.grownBy W' r) (hn : some B ≠ r) : Bx T W' B vs := (hg.block B h.lt hn).trans h
theorem Bx.cell (h : Bx T W B vs) (i : Nat) (v : Value) (e : vs[i]? = some v) : W.cell? ⟨B, i, none⟩ = some v := by
  rw [cell_of_row W B _ _ _ _ h]; simpa using e
theorem Bx.c2 {a b : Value} (h : Bx T W B [a, b]) : W.cell? ⟨B, 0, none⟩ = some a ∧ W.cell? ⟨B, 1, none⟩ = some b := ⟨h.cell 0 _ rfl, h.cell 1 _ rfl⟩
theorem Bx.c3 {a b c : Value} (h : Bx T W B [a, b, c]) : W.cell? ⟨B, 0, none⟩ = some a ∧ W.cell? ⟨B, 1, none⟩ = some b ∧ W.cell? ⟨B, 2, none⟩ = some c := ⟨h.cell 0 _ rfl, h.cell 1 _ rfl, h.cell 2 _ rfl⟩
theorem Bx.c5 {a b c d f : Value} (h : Bx T W B [a, b, c, d, f]) : W.cell? ⟨B, 0, none⟩ = some a ∧ W.cell? ⟨B, 1, none⟩ = some b ∧ W.cell? ⟨B, 2, none⟩ = some c ∧ W.cell? ⟨B, 3, none⟩ = some d ∧ W.cell? ⟨B, 4, none⟩ = some f := ⟨h.cell 0 _ rfl, h.cell 1 _ rfl, h.cell 2 _ rfl, h.cell 3 _ rfl, h.cell 4 _ rfl⟩
theorem Bx.free (h : Bx T W B vs) (o : Nat) : W.frozen? ⟨B, o, none⟩ = false := frozen_of_row W B o _ _ h
theorem Bx.new (w : World) (vs : List Value) : Bx T (w.alloc (.cells ⟨vs⟩ T)) w.heap.size vs := heap_alloc_new w _
theorem Bx.alloc (h : Bx T W B vs) (o : Obj) : Bx T (W.alloc o) B vs := h.below ((Below.refl _ _).alloc (Nat.le_refl _) o)
theorem Bx.other (h : Bx T W B vs) {C o : Nat} {x : Value} (hn : B ≠ C) : Bx T (W.setCell ⟨C, o, none⟩ x) B vs := (Below.heap_setCell W ⟨C, o, none⟩ x B hn).trans h
theorem Bx.set (h : Bx T W B vs) (i : Nat) (x : Value) : Bx T (W.setCell ⟨B, i, none⟩ x) B (vs.set i x) := by
  have := heap_set h i x
  unfold Bx
  rw [this]
  congr 2; simp
end
theorem RawK.of_in {α : Type} {enc : α → List Value} {k : Nat} {w : World} {A : Option Addr} {l : List α} (h : InK k enc w A l) : RawK k enc w A l := by
  intro j hj
  obtain ⟨g, h1, h2, h3⟩ := h j hj
  exact ⟨g, 0, h1, h2, fun i hi => by rw [Nat.zero_add]; exact h3 i hi⟩
theorem OwnK.st {α : Type} {enc : α → List Value} {n : Nat} {T : TypeId} {w : World} {base g k : Nat} {v x : Value} {l : List α} (h : OwnK T n enc w base v l) (hn : v.ownBlock ≠ some g) : OwnK T n enc (w.setCell ⟨g, k, none⟩ x) base v l :=
  World.ownsRow.kept h (row := some g) (only_set w g k x) (.inr hn)
theorem OwnI.st {w : World} {base g k : Nat} {v x : Value} {l : List Int} (h : OwnI w base v l) (hn : v.ownBlock ≠ some g) : OwnI (w.setCell ⟨g, k, none⟩ x) base v l :=
  World.ownsRow.kept h (row := some g) (only_set w g k x) (.inr hn)
theorem Made.swap {α : Type} {enc : α → List Value} {k g j : Nat} {T : TypeId} {w : World} {l l' : List α} (h : Made T k enc w g l j) (hl : l.length = l'.length) (ht : l.take j = l'.take j) : Made T k enc w g l' j := by
  obtain ⟨cs, h1, h2, h3⟩ := h
  exact ⟨cs, h1, by rw [← hl]; exact h2, by rw [← ht]; exact h3⟩
theorem own_blk_ne {a : Addr} {n k g : Nat} (h : a.block ≠ g) : (Value.slice (some a) n k).ownBlock ≠ some g := fun e => h (Option.some.inj e)
/-- a count taken off what is left, exactly -/
def SzE (left : Int) (n : Nat) (e : Ending) : Prop := ∃ r : Int, e = .returned (.int .i64 r) ∧ (r = -1 ∨ (0 ≤ r ∧ r + n = left))
theorem sz_itsE (A : Option Addr) (cap n : Nat) (left : Int) (w : World) (hn : n ≤ maxLen) (hl : 0 ≤ left ∧ left ≤ 1048576) :
    Calls Try.prog 75 #[.slice A n cap, .int .i64 left] w fun e w' => SzE left n e ∧ Below w.heap.size w w' := by
  unfold maxLen at hn
  obtain ⟨hl0, hl1⟩ := hl
  by_cases h1 : left - (n : Int) < 0
  · go_enter Try.func75, Try.ntmps75
    go_wp2
    go_ret
    exact ⟨⟨-1, rfl, .inl rfl⟩, Below.refl _ _⟩
  · go_enter Try.func75, Try.ntmps75
    go_wp2
    go_ret
    exact ⟨⟨_, rfl, .inr ⟨by omega, by omega⟩⟩, Below.refl _ _⟩
theorem sz_intsE (A : Option Addr) (cap n : Nat) (left : Int) (w : World) (hn : n ≤ maxLen) (hl : 0 ≤ left ∧ left ≤ 1048576) :
    Calls Try.prog 78 #[.slice A n cap, .int .i64 left] w fun e w' => SzE left n e ∧ Below w.heap.size w w' := by
  unfold maxLen at hn
  obtain ⟨hl0, hl1⟩ := hl
  by_cases h1 : left - (n : Int) < 0
  · go_enter Try.func78, Try.ntmps78
    go_wp2
    go_ret
    exact ⟨⟨-1, rfl, .inl rfl⟩, Below.refl _ _⟩
  · go_enter Try.func78, Try.ntmps78
    go_wp2
    go_ret
    exact ⟨⟨_, rfl, .inr ⟨by omega, by omega⟩⟩, Below.refl _ _⟩
set_option maxRecDepth 100000 in
set_option maxHeartbeats 1000000 in
theorem eq_itsR (A B : Option Addr) (ca cb : Nat) (l : List It) (w : World) (hA : RawK 2 itC w A l) (hB : RawK 2 itC w B l) (hn : l.length ≤ 1048576) :
    Calls Try.prog 54 #[.slice A l.length ca, .slice B l.length cb] w fun e w' => e = .returned (.bool true) ∧ Below w.heap.size w w' := by
  have HA := Lib.hid hA; have HB := Lib.hid hB; clear hA hB
  have hlb : ((l.length : Int) != (l.length : Int)) = false := by simp
  go_enter Try.func54, Try.ntmps54
  go_wp2
  go_loopw [5] (fun i wr => ∃ j : Nat, j ≤ l.length ∧ i = .int .i64 j ∧ Below w.heap.size w wr) (fun i _ => l.length - (intOf i).toNat)
  case atStart => exact ⟨0, Nat.zero_le _, rfl, Below.refl _ _⟩
  case round =>
    obtain ⟨j, hj, rfl, hb⟩ := hrel
    by_cases hlt : (j : Int) < (l.length : Int)
    · have hjn : j < l.length := by omega
      obtain ⟨g, o, rfl, hg, k0, k1⟩ := (HA.out.below hb).it j hjn
      obtain ⟨g', o', rfl, hg', m0, m1⟩ := (HB.out.below hb).it j hjn
      obtain ⟨x0, hx0⟩ : ∃ x, x = l[j].i := ⟨_, rfl⟩
      rw [← hx0] at k0 m0; clear hx0
      obtain ⟨x1, hx1⟩ : ∃ x, x = l[j].d := ⟨_, rfl⟩
      rw [← hx1] at k1 m1; clear hx1
      have hbz := hb.size
      obtain ⟨W, hW⟩ : ∃ W : World, W = wr := ⟨_, rfl⟩
      subst hW
      go_wp2_with fail
      go_region_held3 (fun w' => w'.cell? ⟨g, o + j * 2, none⟩ = some (.int .i64 x0) ∧ w'.cell? ⟨g, o + j * 2 + 1, none⟩ = some (.int .i64 x1) ∧ w'.cell? ⟨g', o' + j * 2, none⟩ = some (.int .i64 x0) ∧ w'.cell? ⟨g', o' + j * 2 + 1, none⟩ = some (.int .i64 x1))
        (go_keep)
        (first
          | (go_at_call 109; refine (eq_it x0 x1 _).mono ?_; (rintro e u ⟨rfl, hu⟩; (first | (have hb1 : Below W.heap.size W u := below_undrew hu) | (have hb1 : Below W.heap.size W u := hu)); have ek0 := (hb1.cell (p := ⟨g, o + j * 2, none⟩) hg).trans k0; have ek1 := (hb1.cell (p := ⟨g, o + j * 2 + 1, none⟩) hg).trans k1; have em0 := (hb1.cell (p := ⟨g', o' + j * 2, none⟩) hg').trans m0; have em1 := (hb1.cell (p := ⟨g', o' + j * 2 + 1, none⟩) hg').trans m1)))
      all_goals
        go_wp2
        go_roundw
        case rel => exact ⟨j + 1, by omega, by go_num, hb.trans (hb1.mono hbz)⟩
        case measure => simp [intOf]; omega
    · go_wp2
      go_ret
      exact ⟨rfl, hb⟩
end Go.Proofs.Ytiplbfpkfhlhcaa

/- The contract of impl.SortSides: the clone, sorted by the library. -/
import Derived.Test.YtichnpjpldkceaaDoorInts
import Derived.Test.YtichnpjpldkceaaDoorShelfB
import Derived.Sort.OwnSortedInts
import Derived.WalkKit
namespace Go.Proofs.YtichnpjpldkceaaDoor
open Go.RowKit Go.Shelf Go.Lib Go.Sort
def cfD (x y : Int) : Int := Lib.compareInt y x
theorem ltD (x y : Int) : ltOf cfD x y = decide (y < x) := by
  unfold ltOf cfD Lib.compareInt
  by_cases h1 : y < x
  · simp [h1]
  · by_cases h2 : x < y <;> simp [h1, h2]
theorem swoD : SWO (ltOf cfD) where
  irrefl x := by rw [ltD]; simp
  trans x y z h1 h2 := by rw [ltD] at *; simp at *; omega
  ntrans x y z h1 h2 := by rw [ltD] at *; simp at *; omega
theorem totD (x y : Int) (h1 : ltOf cfD x y = false) (h2 : ltOf cfD y x = false) : x = y := by rw [ltD] at *; simp at *; omega
theorem geD : (fun x y : Int => !ltOf cfD y x) = fun x y => decide (y ≤ x) := by
  funext x y
  rw [ltD]
  by_cases h : y ≤ x
  · have h' : ¬ x < y := by omega
    simp [h, h']
  · have h' : x < y := by omega
    simp [h, h']
set_option maxHeartbeats 1000000 in
theorem longest (x y : Int) (W : World) : Calls Tryd.prog 93 #[.int .i64 x, .int .i64 y] W fun e w' => e = .returned (.int .i64 (cfD x y)) ∧ ∃ q, w' = W.drewN q := by
  have hcon := Tryd.cmp_Compare_int y x W
  unfold cfD
  generalize Lib.compareInt y x = r at hcon ⊢
  go_enter Tryd.func93, Tryd.ntmps93
  go_wp2_with (go_at_call 111; refine hcon.mono ?_; rintro e w' ⟨rfl, rfl⟩)
  go_ret
  exact ⟨rfl, 0, rfl⟩
theorem longest_reads (blk off size : Nat) (w : World) : CmpReads Tryd.prog 93 #[] (Value.int .i64) cfD blk off size w := fun _ _ _ _ x y => longest x y _
theorem sort_own {w : World} {base g cap : Nat} {zs : List Int} (h : OwnI w base (.slice (some ⟨g, 0, none⟩) zs.length cap) zs) (hn : zs.length ≤ 17592186044415) :
    Calls Tryd.prog 92 #[.slice (some ⟨g, 0, none⟩) zs.length cap, .func (.func 93) #[] #[]] w fun e w' => e = .returned (.tuple #[]) ∧ OwnI w' base (.slice (some ⟨g, 0, none⟩) zs.length cap) (sortD zs) ∧ w.grownBy w' (some g) := by
  rcases h.2 with ⟨e, _⟩ | ⟨g', c, cur, e, hb, hblk, h1, h2, h3, h4⟩
  · cases e
  cases e
  rw [Nat.mul_one] at h4
  have hH := holds_of_blockI hblk h4
  have eg : ∀ args w, (callFunc 93 args).run Tryd.prog w = .ok (.enter 93 args) w := enters_of Tryd.func93 (by kernel_rfl) rfl
  have hS := Tryd.slices_SortFunc_total (Value.int .i64) (fun _ => rfl) cfD swoD 93 #[] g 0 cap zs.toArray w eg (longest_reads g 0 zs.toArray.size w).lays hH (Array.getElem?_eq_some_iff.1 hblk).1 (by simp; omega) totD
  rw [geD] at hS
  simp only [List.size_toArray] at hS
  refine hS.mono ?_
  rintro e w' ⟨rfl, n, os, rfl⟩
  refine ⟨rfl, ?_, grownBy_sortedI _⟩
  have := ownsRow_sortedI (n := n) (os := os) (ts := sortD zs) (ss := zs) (sortD_len zs) hb hblk h1 h2 (by rw [h3])
  unfold OwnI
  rw [sortD_len]
  exact this
set_option maxRecDepth 100000 in
set_option maxHeartbeats 400000 in
theorem sort_impl (A : Option Addr) (cap : Nat) (zs : List Int) (w : World) (hI : IntsIn w A zs) (hn : zs.length ≤ 17592186044415) :
    Calls Tryd.prog 78 #[.slice A zs.length cap] w fun e w' => ∃ v, e = .returned v ∧ OwnI w' w.heap.size v (sortD zs) ∧ Below w.heap.size w w' := by
  by_cases h0 : zs = []
  · subst h0
    rw [sortD_nil]
    rw [show ([] : List Int).length = 0 from rfl]
    clear hI hn
    cases A with
    | none =>
      have h1 := Tryd.slices_Clone_int_nil 0 cap
      have h2 := fun W => Tryd.slices_SortFunc_none (α := Int) none 0 (.func (.func 93) #[] #[]) W
      go_enter Tryd.func78, Tryd.ntmps78
      go_wp2_with fail
      refine (h1 _).mono ?_; rintro e w' ⟨rfl, rfl⟩
      go_wp2_with fail
      refine (h2 _).mono ?_; rintro e w' ⟨rfl, rfl⟩
      go_wp2
      go_ret
      exact ⟨_, rfl, World.ownsRow_nil _ _ _ _, Below.refl _ _⟩
    | some a =>
      have h1 := Tryd.slices_Clone_int_zero a cap
      have h2 := fun p c W => Tryd.slices_SortFunc_none (α := Int) p c (.func (.func 93) #[] #[]) W
      go_enter Tryd.func78, Tryd.ntmps78
      go_wp2_with fail
      refine (h1 _).mono ?_; rintro e w1 ⟨v, rfl, ho, _, hb⟩
      have ho' : OwnI w1 w.heap.size v [] := ho
      obtain ⟨B, c, rfl⟩ := ho'.opens
      have HO := Lib.hid ho'; clear ho ho'
      go_wp2_with fail
      refine (h2 _ _ _).mono ?_; rintro e w' ⟨rfl, rfl⟩
      go_wp2
      go_ret
      exact ⟨_, rfl, HO.out, hb⟩
  · have hpos : 0 < zs.length := List.length_pos_iff.2 h0
    obtain ⟨g, rfl, _, _⟩ := hI 0 hpos
    have h1 := Tryd.slices_Clone_int g 0 zs.length cap zs w (Nat.le_refl _) (by omega) (fun j hj => by
      obtain ⟨g', e, _, hc⟩ := hI j hj
      cases e
      rw [Nat.zero_add, hc]
      simp [List.getD, hj])
    rw [List.take_length] at h1
    clear hI
    go_enter Tryd.func78, Tryd.ntmps78
    go_wp2_with fail
    refine h1.mono ?_; rintro e w1 ⟨v, rfl, ho, _, hb⟩
    have ho' : OwnI w1 w.heap.size v zs := ho
    obtain ⟨g1, c1, rfl, hg, hg1⟩ := ho'.row h0
    have HO := Lib.hid ho'; clear ho ho' h1
    go_wp2_with fail
    refine (sort_own HO.out hn).mono ?_; rintro e w2 ⟨rfl, ho2, hgr⟩
    have HO2 := Lib.hid ho2; clear ho2
    go_wp2
    go_ret
    exact ⟨_, rfl, HO2.out, hb.grown hgr hb.size (fun k h => by cases h; exact hg)⟩
end Go.Proofs.YtichnpjpldkceaaDoor

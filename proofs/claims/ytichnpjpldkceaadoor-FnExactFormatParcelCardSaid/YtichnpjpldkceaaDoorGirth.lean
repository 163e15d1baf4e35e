/- Contracts of the two texts of GirthOf, and of the two of FitsIn. -/
import Derived.Test.YtichnpjpldkceaaDoorThree
import Derived.Test.YtichnpjpldkceaaDoorSort
import Derived.Test.YtichnpjpldkceaaDoorSort2
namespace Go.Proofs.YtichnpjpldkceaaDoor
open Go.RowKit
theorem thr_sort {zs : List Int} (h : thrB zs = true) : ∃ a b c : Int, sortD zs = [a, b, c] ∧ (1 ≤ a ∧ a ≤ 2000) ∧ (1 ≤ b ∧ b ≤ 2000) ∧ (1 ≤ c ∧ c ≤ 2000) := thrB_sorted h
set_option maxRecDepth 100000 in
set_option maxHeartbeats 400000 in
theorem gir_impl (A : Option Addr) (cap : Nat) (zs : List Int) (w : World) (hA : IntsIn w A zs) (hn : zs.length ≤ 17592186044415) :
    Calls Tryd.prog 64 #[.slice A zs.length cap] w fun e w' => e = .returned (.int .i64 (girth zs)) ∧ Below w.heap.size w w' := by
  have HA := Lib.hid hA; clear hA
  by_cases h : thrB zs = true
  · obtain ⟨a, b, c, hs, ha, hb, hc⟩ := thr_sort h
    have hv : girth zs = a + 2 * b + 2 * c := by unfold girth; rw [if_pos h, hs]; rfl
    rw [hv]; clear hv
    have HS := Lib.hid hs; clear hs
    go_enter Tryd.func64, Tryd.ntmps64
    go_wp2_with fail
    refine (three_impl A cap zs _ HA.out hn).mono ?_; rintro e w' ⟨rfl, rfl⟩
    go_wp2_with fail
    refine (sort_impl A cap zs _ HA.out hn).mono ?_; rintro e w1 ⟨v, rfl, ho, hb1⟩
    rw [HS.out] at ho
    obtain ⟨g, c1, rfl, _, _⟩ := ho.row (by simp)
    have k0 := ho.cell 0 (by simp)
    have k1 := ho.cell 1 (by simp)
    have k2 := ho.cell 2 (by simp)
    simp only [List.getElem_cons_zero, List.getElem_cons_succ] at k0 k1 k2
    rw [show [a, b, c].length = 3 from rfl]
    clear ho
    go_wp2
    go_quiet (fail)
    go_wp2
    go_ret
    exact ⟨rfl, below_drewN hb1 _⟩
  · have hv : girth zs = 0 := by unfold girth; rw [if_neg h]
    rw [hv]; clear hv
    have h' : thrB zs = false := by simpa using h
    clear h
    go_enter Tryd.func64, Tryd.ntmps64
    go_wp2_with fail
    refine (three_impl A cap zs _ HA.out hn).mono ?_; rintro e w' ⟨rfl, rfl⟩
    go_wp2
    go_ret
    exact ⟨rfl, Below.refl _ _⟩
set_option maxRecDepth 100000 in
set_option maxHeartbeats 400000 in
theorem gir_spec (A : Option Addr) (cap : Nat) (zs : List Int) (w : World) (hA : IntsIn w A zs) (hn : zs.length ≤ 17592186044415) :
    Calls Tryd.prog 57 #[.slice A zs.length cap] w fun e w' => e = .returned (.int .i64 (girth zs)) ∧ Below w.heap.size w w' := by
  have HA := Lib.hid hA; clear hA
  by_cases h : thrB zs = true
  · obtain ⟨a, b, c, hs, ha, hb, hc⟩ := thr_sort h
    have hv : girth zs = a + 2 * b + 2 * c := by unfold girth; rw [if_pos h, hs]; rfl
    rw [hv]; clear hv
    have hl3 : zs.length ≤ 1048576 := by have := sortD_len zs; rw [hs] at this; simp at this; omega
    have HS := Lib.hid hs; clear hs
    go_enter Tryd.func57, Tryd.ntmps57
    go_wp2_with fail
    refine (three_spec A cap zs _ HA.out hn).mono ?_; rintro e w' ⟨rfl, rfl⟩
    go_wp2_with fail
    refine (sort_spec A cap zs _ HA.out hl3).mono ?_; rintro e w1 ⟨v, rfl, ho, hb1⟩
    rw [HS.out] at ho
    obtain ⟨g, c1, rfl, _, _⟩ := ho.row (by simp)
    have k0 := ho.cell 0 (by simp)
    have k1 := ho.cell 1 (by simp)
    have k2 := ho.cell 2 (by simp)
    simp only [List.getElem_cons_zero, List.getElem_cons_succ] at k0 k1 k2
    rw [show [a, b, c].length = 3 from rfl]
    clear ho
    go_wp2
    go_quiet (fail)
    go_wp2
    go_ret
    exact ⟨rfl, below_drewN hb1 _⟩
  · have hv : girth zs = 0 := by unfold girth; rw [if_neg h]
    rw [hv]; clear hv
    have h' : thrB zs = false := by simpa using h
    clear h
    go_enter Tryd.func57, Tryd.ntmps57
    go_wp2_with fail
    refine (three_spec A cap zs _ HA.out hn).mono ?_; rintro e w' ⟨rfl, rfl⟩
    go_wp2
    go_ret
    exact ⟨rfl, Below.refl _ _⟩
end Go.Proofs.YtichnpjpldkceaaDoor

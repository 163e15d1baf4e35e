/- What is given back, as mathematics: never below 0, never above the charge, and more for what is later. -/
import Derived.Test.YtadcmngooobeiaaRefd
namespace Go.Proofs.Ytadcmngooobeiaa
open Go.RowKit
theorem refOk_iff {c u e : Int} {l : List Int} : refOk c u e l = true ↔ percB l = true ∧ (0 ≤ c ∧ c ≤ 100000) ∧ (0 ≤ u ∧ u ≤ 200000) ∧ (0 ≤ e ∧ e ≤ 200000) ∧ u < e := by
  unfold refOk
  simp only [Bool.and_eq_true, inB_iff, decide_eq_true_eq]
theorem dayP_lt {u e : Int} {l : List Int} (h : 1 ≤ l.length) : dayP u e l < l.length := by unfold dayP; omega
theorem ref_bd (c u e : Int) (l : List Int) : 0 ≤ refB c u e l := by
  cases h : refOk c u e l with
  | false => rw [refB_no h]; exact Int.le_refl _
  | true =>
    rw [refB_yes h]
    obtain ⟨hp, hc, _⟩ := refOk_iff.1 h
    obtain ⟨hl, ha⟩ := perc_at hp
    have hk := ha _ (dayP_lt (u := u) (e := e) hl.1)
    exact Int.ediv_nonneg (Int.mul_nonneg hc.1 hk.1) (by omega)
theorem ref_pos {c u e : Int} {l : List Int} (h : 0 < refB c u e l) : refB c u e l ≤ c ∧ u < e := by
  cases ho : refOk c u e l with
  | false => rw [refB_no ho] at h; omega
  | true =>
    rw [refB_yes ho]
    obtain ⟨hp, hc, _, _, hlt⟩ := refOk_iff.1 ho
    obtain ⟨hl, ha⟩ := perc_at hp
    have hk := ha _ (dayP_lt (u := u) (e := e) hl.1)
    refine ⟨?_, hlt⟩
    have h1 : c * l.getD (dayP u e l) 0 ≤ c * 100 := Int.mul_le_mul_of_nonneg_left hk.2 hc.1
    omega
theorem ref_mono {c u e v : Int} {l : List Int} (h1 : e ≤ 150000) (h2 : 0 ≤ v ∧ v ≤ 255) : refB c u e l ≤ refB c u (e + 10 * v) l := by
  cases ho : refOk c u e l with
  | false => rw [refB_no ho]; exact ref_bd _ _ _ _
  | true =>
    obtain ⟨hp, hc, hu, he, hlt⟩ := refOk_iff.1 ho
    have ho' : refOk c u (e + 10 * v) l = true := refOk_iff.2 ⟨hp, hc, hu, by omega, by omega⟩
    rw [refB_yes ho, refB_yes ho']
    obtain ⟨hl, ha⟩ := perc_at hp
    have hK : dayP u e l ≤ dayP u (e + 10 * v) l := by unfold dayP; omega
    have hL := dayP_lt (u := u) (e := e + 10 * v) hl.1
    have hup : upB l = true := by
      have h := perc_eq l
      rw [hp] at h
      have h' := h.symm
      simp only [Bool.and_eq_true] at h'
      exact h'.2.2.1
    have hg : ∀ i (_ : i < l.length), l.getD i 0 = l[i] := fun i hi => by unfold List.getD; rw [List.getElem?_eq_getElem hi]; rfl
    have hle : l.getD (dayP u e l) 0 ≤ l.getD (dayP u (e + 10 * v) l) 0 := by
      rw [hg _ (by omega), hg _ hL]; exact up_le hup _ _ hL hK
    exact Int.ediv_le_ediv (by omega) (Int.mul_le_mul_of_nonneg_left hle hc.1)
end Go.Proofs.Ytadcmngooobeiaa

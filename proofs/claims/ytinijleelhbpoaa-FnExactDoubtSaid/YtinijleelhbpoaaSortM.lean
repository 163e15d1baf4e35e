/- The plain mathematics of sorted sides. No program. -/
import Derived.Test.YtinijleelhbpoaaMath
namespace Go.Proofs.Ytinijleelhbpoaa
open Go.RowKit

def geB (x y : Int) : Bool := decide (y ≤ x)
def sortD (l : List Int) : List Int := l.mergeSort geB
theorem geB_iff {x y : Int} : geB x y = true ↔ y ≤ x := by simp [geB]
theorem sortD_perm (l : List Int) : (sortD l).Perm l := List.mergeSort_perm _ _
theorem sortD_len (l : List Int) : (sortD l).length = l.length := (sortD_perm l).length_eq
theorem sortD_mem {l : List Int} {x : Int} : x ∈ sortD l ↔ x ∈ l := (sortD_perm l).mem_iff
theorem sortD_down (l : List Int) : (sortD l).Pairwise fun x y => geB x y = true :=
  List.pairwise_mergeSort (fun a b c h1 h2 => by rw [geB_iff] at *; omega) (fun a b => by simp only [Bool.or_eq_true, geB_iff]; omega) l
theorem sortD_uniq {l m : List Int} (h : m.Pairwise fun x y => geB x y = true) (hp : m.Perm l) : m = sortD l :=
  List.Perm.eq_of_pairwise (le := fun x y => geB x y = true) (fun a b _ _ h1 h2 => by rw [geB_iff] at h1 h2; omega) h (sortD_down l) (hp.trans (sortD_perm l).symm)
theorem sortD_nil : sortD [] = [] := by simp [sortD]
theorem sortD_ins (l : List Int) (x : Int) (k : Nat) (h1 : ∀ j (_ : j < k) (hj : j < (sortD l).length), x ≤ (sortD l)[j]) (h2 : ∀ h : k < (sortD l).length, (sortD l)[k] < x) :
    (sortD l).take k ++ x :: (sortD l).drop k = sortD (l ++ [x]) := by
  have hs := sortD_down l
  have hp := sortD_perm l
  generalize sortD l = m at *
  refine sortD_uniq ?_ ?_
  · rw [List.pairwise_append]
    rw [List.pairwise_iff_getElem] at hs
    refine ⟨?_, ?_, ?_⟩
    · rw [List.pairwise_iff_getElem]
      intro i j hi hj hij
      simp only [List.getElem_take]
      exact hs i j _ _ hij
    · rw [List.pairwise_cons]
      refine ⟨?_, ?_⟩
      · intro y hy
        obtain ⟨i, hi, rfl⟩ := List.getElem_of_mem hy
        simp only [List.getElem_drop, geB_iff]
        simp only [List.length_drop] at hi
        have hk : k < m.length := by omega
        have := h2 hk
        by_cases h0 : i = 0
        · subst h0; simp; omega
        · have := hs k (k + i) hk (by omega) (by omega)
          rw [geB_iff] at this; omega
      · rw [List.pairwise_iff_getElem]
        intro i j hi hj hij
        simp only [List.getElem_drop]
        exact hs _ _ _ _ (by omega)
    · intro a ha b hb
      obtain ⟨i, hi, rfl⟩ := List.getElem_of_mem ha
      simp only [List.length_take] at hi
      simp only [List.getElem_take, geB_iff]
      have hx := h1 i (by omega) (by omega)
      rcases List.mem_cons.1 hb with rfl | hb
      · exact hx
      · obtain ⟨j, hj, rfl⟩ := List.getElem_of_mem hb
        simp only [List.length_drop] at hj
        simp only [List.getElem_drop]
        have := hs i (k + j) (by omega) (by omega) (by omega)
        rw [geB_iff] at this; omega
  · have e : (m.take k ++ x :: m.drop k).Perm (x :: m) := by
      have := List.perm_middle (a := x) (l₁ := m.take k) (l₂ := m.drop k)
      rwa [List.take_append_drop] at this
    exact e.trans ((hp.cons x).trans (by simpa using (List.perm_append_comm (l₁ := [x]) (l₂ := l))))
theorem sortD_merge (l : List Int) (f : Int → Int → Bool) (h : f = fun x y => decide (y ≤ x)) : l.mergeSort f = sortD l := by rw [h]; rfl
theorem sortD_snoc (zs : List Int) (i : Nat) (hi : i < zs.length) : sortD (zs.take i ++ [zs[i]]) = sortD (zs.take (i + 1)) := by
  rw [List.take_succ_eq_append_getElem hi]

/-! ### Three sides -/
def sideB (x : Int) : Bool := inB x 1 2000
def thrB (l : List Int) : Bool := l.length == 3 && l.all sideB
theorem thrB_no {l : List Int} (k : Nat) (h : k < l.length) (hc : sideB l[k] = false) : thrB l = false := by
  unfold thrB
  have : l.all sideB = false := by rw [List.all_eq_false]; exact ⟨_, List.getElem_mem h, by simp [hc]⟩
  simp [this]
theorem thrB_len {l : List Int} (h : l.length ≠ 3) : thrB l = false := by
  unfold thrB; simp [h]
theorem thrB_three {l : List Int} (h : thrB l = true) : ∃ a b c : Int, l = [a, b, c] ∧ (1 ≤ a ∧ a ≤ 2000) ∧ (1 ≤ b ∧ b ≤ 2000) ∧ (1 ≤ c ∧ c ≤ 2000) := by
  unfold thrB at h
  simp only [Bool.and_eq_true, beq_iff_eq] at h
  obtain ⟨h1, h2⟩ := h
  match l, h1 with
  | [a, b, c], _ =>
    simp only [List.all_cons, List.all_nil, Bool.and_true, Bool.and_eq_true, sideB, inB_iff] at h2
    exact ⟨a, b, c, rfl, h2.1, h2.2.1, h2.2.2⟩
theorem thrB_sorted {l : List Int} (h : thrB l = true) : ∃ a b c : Int, sortD l = [a, b, c] ∧ (1 ≤ a ∧ a ≤ 2000) ∧ (1 ≤ b ∧ b ≤ 2000) ∧ (1 ≤ c ∧ c ≤ 2000) := by
  refine thrB_three ?_
  unfold thrB at h ⊢
  simp only [Bool.and_eq_true, beq_iff_eq] at h ⊢
  refine ⟨by rw [sortD_len]; exact h.1, ?_⟩
  rw [List.all_eq_true] at *
  exact fun x hx => h.2 x (sortD_mem.1 hx)
def girL (l : List Int) : Int := l.getD 0 0 + 2 * l.getD 1 0 + 2 * l.getD 2 0
def girth (l : List Int) : Int := if thrB l then girL (sortD l) else 0
def volL (l : List Int) : Int := l.getD 0 0 * l.getD 1 0 * l.getD 2 0
def vol (l : List Int) : Int := if thrB l then volL l else 0
def leL (a b : List Int) : Bool := decide (a.getD 0 0 ≤ b.getD 0 0) && (decide (a.getD 1 0 ≤ b.getD 1 0) && decide (a.getD 2 0 ≤ b.getD 2 0))
def fitB (a b : List Int) : Bool := thrB a && (thrB b && leL (sortD a) (sortD b))
theorem vol_bd {l : List Int} : 0 ≤ vol l ∧ vol l ≤ 8000000000 := by
  unfold vol
  split
  · next h =>
    obtain ⟨a, b, c, rfl, ha, hb, hc⟩ := thrB_three h
    show 0 ≤ a * b * c ∧ a * b * c ≤ 8000000000
    have h1 : 0 ≤ a * b := Int.mul_nonneg (by omega) (by omega)
    have h2 : a * b ≤ 2000 * 2000 := Int.mul_le_mul (by omega) (by omega) (by omega) (by omega)
    have h3 : 0 ≤ a * b * c := Int.mul_nonneg h1 (by omega)
    have h4 : a * b * c ≤ 2000 * 2000 * 2000 := Int.mul_le_mul h2 (by omega) (by omega) (by omega)
    omega
  · omega
theorem girth_bd {l : List Int} : 0 ≤ girth l ∧ girth l ≤ 10000 := by
  unfold girth
  split
  · next h =>
    obtain ⟨a, b, c, e, ha, hb, hc⟩ := thrB_sorted h
    rw [e]
    show 0 ≤ a + 2 * b + 2 * c ∧ a + 2 * b + 2 * c ≤ 10000
    omega
  · omega
end Go.Proofs.Ytinijleelhbpoaa

/- The orders that owe something, in order: the mathematics of OpenOrders. -/
import Derived.Test.YtadcmngooobeiaaLnM
namespace Go.Proofs.Ytadcmngooobeiaa
open Go.RowKit
def asc (z : List Int) : List Int := z.mergeSort fun x y => decide (x ≤ y)
theorem asc_len (z : List Int) : (asc z).length = z.length := List.length_mergeSort _
theorem asc_perm (z : List Int) : (asc z).Perm z := List.mergeSort_perm _ _
theorem asc_up (z : List Int) : (asc z).Pairwise fun x y => x ≤ y :=
  (List.pairwise_mergeSort (le := fun x y : Int => decide (x ≤ y)) (fun a b c h1 h2 => by simp only [decide_eq_true_iff] at *; omega) (fun a b => by simp only [Bool.or_eq_true, decide_eq_true_iff]; omega) z).imp (fun h => by simpa using h)
theorem strict_eq {a b : List Int} (ha : a.Pairwise fun x y => x < y) (hb : b.Pairwise fun x y => x < y) (h : ∀ y, y ∈ a ↔ y ∈ b) : a = b :=
  List.Perm.eq_of_pairwise (le := fun x y => x < y) (fun a b _ _ h1 h2 => by omega) ha hb ((List.perm_ext_iff_of_nodup (ha.imp (fun h => by omega)) (hb.imp (fun h => by omega))).2 h)
/-- the charges of orders that owe something -/
def opnF (l : List Ln) (x : Ln) : Bool := decide (x.k = 1) && decide (0 < owedB l x.o)
def opnL (l : List Ln) : List Int := (l.filter (opnF l)).map Ln.o
def openB (l : List Ln) : List Int := if linesB l then asc (opnL l) else []
theorem opnL_len (l : List Ln) : (opnL l).length ≤ l.length := by unfold opnL; rw [List.length_map]; exact List.length_filter_le _ _
theorem openB_len (l : List Ln) : (openB l).length ≤ l.length := by
  unfold openB; split
  · rw [asc_len]; exact opnL_len l
  · simp
section
variable {l : List Ln}
theorem take_valid (h : linesB l = true) (j : Nat) : (l.take j).length ≤ 200 ∧ ∀ x ∈ l.take j, lineB x = true := by
  obtain ⟨h1, h2⟩ := linesB_valid h
  exact ⟨by rw [List.length_take]; omega, fun x hx => h2 x (List.mem_of_mem_take hx)⟩
/-- an order is charged once -/
theorem charged_once (h : linesB l = true) {i j : Nat} (hij : i < j) (hj : j < l.length) (h1 : (l[i]'(by omega)).k = 1) (h2 : l[j].k = 1) (he : (l[i]'(by omega)).o = l[j].o) : False := by
  obtain ⟨_, _, hm⟩ := (linesB_iff.1 h).2 j hj
  unfold mayB at hm
  rw [if_pos h2, decide_eq_true_eq] at hm
  obtain ⟨v1, v2⟩ := take_valid h j
  have hc := (cnt_sum_all (l := l.take j) (o := l[j].o) (k := 1) v1 v2).1 (by
    unfold cntT
    have hmem : l[i]'(by omega) ∈ (l.take j).filter (hitL l[j].o 1) := by
      rw [List.mem_filter]
      refine ⟨List.mem_take_iff_getElem.2 ⟨i, by omega, rfl⟩, ?_⟩
      unfold hitL; simp [h1, he]
    exact List.length_pos_of_mem hmem)
  omega
theorem opnL_nodup (h : linesB l = true) : (opnL l).Nodup := by
  unfold opnL List.Nodup
  rw [List.pairwise_map, List.pairwise_filter, List.pairwise_iff_getElem]
  intro i j hi hj hij e1 e2 e3
  unfold opnF at e1 e2
  simp only [Bool.and_eq_true, decide_eq_true_eq] at e1 e2
  exact charged_once h hij hj e1.1 e2.1 e3
theorem opn_mem (h : linesB l = true) (y : Int) : y ∈ opnL l ↔ (∃ x ∈ l, x.o = y) ∧ 0 < owedB l y := by
  obtain ⟨v1, v2⟩ := linesB_valid h
  unfold opnL
  rw [List.mem_map]
  constructor
  · rintro ⟨x, hx, rfl⟩
    rw [List.mem_filter] at hx
    obtain ⟨hx1, hx2⟩ := hx
    unfold opnF at hx2
    simp only [Bool.and_eq_true, decide_eq_true_eq] at hx2
    exact ⟨⟨x, hx1, rfl⟩, hx2.2⟩
  · rintro ⟨_, ho⟩
    have hs : 0 < sumT l y 1 := by
      have := sum_nonneg (o := y) (k := 2) v1 v2
      unfold owedB at ho; rw [if_pos h] at ho; omega
    have hc := (cnt_sum_all v1 v2).2 hs
    unfold cntT at hc
    obtain ⟨x, hx⟩ := List.exists_mem_of_length_pos hc
    rw [List.mem_filter] at hx
    obtain ⟨hx1, hx2⟩ := hx
    unfold hitL at hx2
    rw [decide_eq_true_eq] at hx2
    refine ⟨x, List.mem_filter.2 ⟨hx1, ?_⟩, hx2.1⟩
    unfold opnF
    rw [hx2.1, decide_eq_true hx2.2, decide_eq_true ho]; rfl
theorem open_strict (h : linesB l = true) : (asc (opnL l)).Pairwise fun x y => x < y := by
  have h1 := asc_up (opnL l)
  have h2 : (asc (opnL l)).Nodup := (asc_perm (opnL l)).nodup_iff.2 (opnL_nodup h)
  unfold List.Nodup at h2
  exact (h1.and h2).imp (fun ⟨a, b⟩ => by omega)
/-- what the reference has after its first j lines -/
def opnAt (l : List Ln) (j : Nat) (outs : List Int) : Prop := (outs.Pairwise fun x y => x < y) ∧ ∀ y, y ∈ outs ↔ (∃ x ∈ l.take j, x.o = y) ∧ 0 < owedB l y
theorem opnAt_zero : opnAt l 0 [] := ⟨List.Pairwise.nil, fun y => by simp⟩
theorem opnAt_end (h : linesB l = true) {outs : List Int} (ho : opnAt l l.length outs) : outs = openB l := by
  unfold openB; rw [if_pos h]
  refine strict_eq ho.1 (open_strict h) (fun y => ?_)
  rw [ho.2 y, List.take_length, (asc_perm (opnL l)).mem_iff, opn_mem h]
theorem opnAt_skip {outs : List Int} {j : Nat} (hj : j < l.length) (ho : opnAt l j outs) (h : owedB l l[j].o ≤ 0 ∨ l[j].o ∈ outs) : opnAt l (j + 1) outs := by
  refine ⟨ho.1, fun y => ?_⟩
  rw [ho.2 y, List.take_succ_eq_append_getElem hj]
  constructor
  · rintro ⟨⟨x, hx, rfl⟩, h2⟩; exact ⟨⟨x, List.mem_append_left _ hx, rfl⟩, h2⟩
  · rintro ⟨⟨x, hx, rfl⟩, h2⟩
    rcases List.mem_append.1 hx with hx | hx
    · exact ⟨⟨x, hx, rfl⟩, h2⟩
    · obtain rfl := List.mem_singleton.1 hx
      rcases h with h | h
      · omega
      · exact (ho.2 _).1 h
theorem opnAt_ins {outs : List Int} {j k : Nat} (hj : j < l.length) (ho : opnAt l j outs) (h : 0 < owedB l l[j].o) (hk : k ≤ outs.length) (h1 : ∀ i (_ : i < k) (hi : i < outs.length), outs[i] < l[j].o) (h2 : ∀ h : k < outs.length, l[j].o < outs[k]) : opnAt l (j + 1) (outs.take k ++ l[j].o :: outs.drop k) := by
  have hsplit : outs.take k ++ outs.drop k = outs := List.take_append_drop _ _
  obtain ⟨hup, hm⟩ := ho
  refine ⟨?_, fun y => ?_⟩
  · have hup' := hup
    rw [← hsplit, List.pairwise_append] at hup'
    rw [List.pairwise_append]
    refine ⟨hup'.1, List.pairwise_cons.2 ⟨fun b hb => ?_, hup'.2.1⟩, fun a ha b hb => ?_⟩
    · obtain ⟨i, hi, rfl⟩ := List.getElem_of_mem hb
      rw [List.length_drop] at hi
      have h3 := h2 (by omega)
      rw [List.getElem_drop]
      by_cases hi0 : i = 0
      · subst hi0; simpa using h3
      · have h5 := List.pairwise_iff_getElem.1 hup k (k + i) (by omega) (by omega) (by omega)
        omega
    · obtain ⟨i, hi, rfl⟩ := List.mem_take_iff_getElem.1 ha
      have h3 := h1 i (by omega) (by omega)
      rcases List.mem_cons.1 hb with rfl | hb
      · exact h3
      · exact hup'.2.2 _ ha b hb
  · have hmem : y ∈ outs.take k ++ l[j].o :: outs.drop k ↔ y = l[j].o ∨ y ∈ outs := by
      conv => rhs; rw [← hsplit]
      simp only [List.mem_append, List.mem_cons]
      constructor
      · rintro (a | a | a)
        · exact .inr (.inl a)
        · exact .inl a
        · exact .inr (.inr a)
      · rintro (a | a | a)
        · exact .inr (.inl a)
        · exact .inl a
        · exact .inr (.inr a)
    rw [hmem, hm y, List.take_succ_eq_append_getElem hj]
    constructor
    · rintro (rfl | ⟨⟨x, hx, rfl⟩, h3⟩)
      · exact ⟨⟨l[j], List.mem_append_right _ (List.mem_singleton.2 rfl), rfl⟩, h⟩
      · exact ⟨⟨x, List.mem_append_left _ hx, rfl⟩, h3⟩
    · rintro ⟨⟨x, hx, rfl⟩, h3⟩
      rcases List.mem_append.1 hx with hx | hx
      · exact .inr ⟨⟨x, hx, rfl⟩, h3⟩
      · obtain rfl := List.mem_singleton.1 hx
        exact .inl rfl
end
end Go.Proofs.Ytadcmngooobeiaa

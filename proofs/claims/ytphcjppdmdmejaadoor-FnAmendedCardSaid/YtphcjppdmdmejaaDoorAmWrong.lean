/- What the list of a wrong label holds: the right one, and nothing that differs in more than one character. No program. -/
import Derived.Test.YtphcjppdmdmejaaDoorAmMath
namespace Go.Proofs.YtphcjppdmdmejaaDoor
open Go.RowKit
theorem mem_amTo {t u : ByteArray} : ∀ {i : Nat}, u ∈ amTo t i → ∃ k c, k < i ∧ u = changed t k c ∧ ValT u ∧ t.data.toList[k]? ≠ some c := by
  intro i h
  unfold amTo amRow at h
  simp only [List.mem_flatMap, List.mem_range] at h
  obtain ⟨k, hk, c, _, hc⟩ := h
  unfold cand at hc
  split at hc
  · rename_i hv
    obtain rfl : u = changed t k c := by simpa using hc
    exact ⟨k, c, hk, rfl, hv.1, hv.2⟩
  · simp at hc
theorem mem_amL {t u : ByteArray} (h : u ∈ amL t) : t.size = 15 ∧ ∃ k c, k < 15 ∧ u = changed t k c ∧ ValT u ∧ t.data.toList[k]? ≠ some c := by
  unfold amL at h
  split at h
  · exact ⟨by assumption, mem_amTo h⟩
  · simp at h
theorem changed_back (s : ByteArray) (k : Nat) (c : UInt8) (hk : k < 15) (h15 : s.size = 15) :
    changed (changed s k c) k (s.data.toList.getD k 0) = s := by
  have hlen : s.data.toList.length = 15 := by simpa using h15
  have htl : (s.data.toList.take k).length = k := by rw [List.length_take]; omega
  refine ba_ext ?_
  rw [changed_list, changed_list, List.take_append_of_le_length (by omega), List.drop_append]
  have e : s.data.toList = s.data.toList.take k ++ s.data.toList[k] :: s.data.toList.drop (k + 1) := by
    conv => lhs; rw [← List.take_append_drop k s.data.toList]
    rw [List.drop_eq_getElem_cons (by omega)]
  rw [htl, List.take_take, Nat.min_self, show k + 1 - k = 1 from by omega]
  conv => rhs; rw [e]
  have h2 : s.data.toList.getD k 0 = s.data.toList[k] := by simp [List.getD, hlen, hk]
  rw [h2, List.drop_of_length_le (by omega)]
  rfl
/-- the right label stands in the list of the wrong one -/
theorem right_mem {s : ByteArray} (hv : ValT s) (h15 : s.size = 15) (k : Nat) (hk : k < 15) (c : UInt8) (hne : changed s k c ≠ s) : s ∈ amL (changed s k c) := by
  have hz : (changed s k c).size = 15 := by
    have h1 := congrArg List.length (changed_list s k c)
    rw [List.length_append, List.length_cons, List.length_take, List.length_drop] at h1
    have h2 : (changed s k c).size = (changed s k c).data.toList.length := by simp
    have h3 : s.data.toList.length = 15 := by simpa using h15
    omega
  have hb := changed_back s k c hk h15
  unfold amL
  rw [if_pos hz]
  unfold amTo
  refine List.mem_flatMap.2 ⟨k, List.mem_range.2 hk, ?_⟩
  rw [← row_bytes _ k hk hz]
  refine List.mem_flatMap.2 ⟨s.data.toList.getD k 0, ?_, ?_⟩
  · unfold bytes256
    exact List.mem_map.2 ⟨(s.data.toList.getD k 0).toNat, List.mem_range.2 (UInt8.toNat_lt _), UInt8.ofNat_toNat⟩
  · rw [cand_yes]
    · rw [hb]; simp
    · rw [hb]; exact hv
    · intro h
      apply hne
      have hc : (changed s k c).data.toList[k]? = some c := by
        have hlen : s.data.toList.length = 15 := by simpa using h15
        have htl : (s.data.toList.take k).length = k := by rw [List.length_take]; omega
        rw [changed_list, List.getElem?_append_right (by omega), htl, Nat.sub_self]; rfl
      rw [hc] at h
      have hcc := Option.some.inj h
      rw [hcc]
      have hlen : s.data.toList.length = 15 := by simpa using h15
      refine ba_ext ?_
      rw [changed_list]
      conv => rhs; rw [← List.take_append_drop k s.data.toList]
      rw [List.drop_eq_getElem_cons (show k < s.data.toList.length by omega)]
      simp [List.getD, hlen, hk]
/-- a right label's list is empty -/
theorem right_none {s : ByteArray} (hv : ValT s) : amL s = [] := by
  refine List.eq_nil_iff_forall_not_mem.2 fun u hu => ?_
  obtain ⟨h15, k, c, hk, rfl, ⟨a', b', y', hl⟩, hn⟩ := mem_amL hu
  obtain ⟨a, b, y, hl0⟩ := hv
  obtain ⟨_, f2⟩ := change_facts hl0 k hk c
  have e := f2 a' b' y' hl
  apply hn
  have hlen : s.data.toList.length = 15 := by simpa using h15
  have htl : (s.data.toList.take k).length = k := by rw [List.length_take]; omega
  have h2 := changed_list s k c
  rw [e] at h2
  rw [h2, List.getElem?_append_right (by omega), htl, Nat.sub_self]; rfl
/-- how many of the first j characters differ -/
def diffs (u t : ByteArray) (j : Nat) : Nat := ((List.range j).filter fun i => u.data.toList.getD i 0 != t.data.toList.getD i 0).length
theorem diffs_succ (u t : ByteArray) (j : Nat) : diffs u t (j + 1) = diffs u t j + (if u.data.toList.getD j 0 != t.data.toList.getD j 0 then 1 else 0) := by
  unfold diffs
  rw [List.range_succ, List.filter_append, List.length_append]
  congr 1
  generalize hq : (fun i => u.data.toList.getD i 0 != t.data.toList.getD i 0) = q
  have e : (u.data.toList.getD j 0 != t.data.toList.getD j 0) = q j := by rw [← hq]
  rw [e]
  cases h : q j <;> simp [h]
theorem diffs_le (u t : ByteArray) (j : Nat) : diffs u t j ≤ j := by
  have := List.length_filter_le (fun i => u.data.toList.getD i 0 != t.data.toList.getD i 0) (List.range j)
  rw [List.length_range] at this
  exact this
theorem changed_getD (t : ByteArray) (k : Nat) (c : UInt8) (hk : k < 15) (h15 : t.size = 15) (j : Nat) : (changed t k c).data.toList.getD j 0 = if j = k then c else t.data.toList.getD j 0 := by
  have hlen : t.data.toList.length = 15 := by simpa using h15
  have h : (changed t k c).data.toList = t.data.toList.set k c := by
    rw [changed_list, List.set_eq_take_append_cons_drop, if_pos (by omega)]
  rw [h, List.getD_eq_getElem?_getD, List.getElem?_set]
  by_cases hjk : j = k
  · subst hjk; simp [hlen, hk]
  · rw [if_neg (fun e => hjk e.symm), if_neg hjk, List.getD_eq_getElem?_getD]
theorem diffs_one (t : ByteArray) (k : Nat) (c : UInt8) (hk : k < 15) (h15 : t.size = 15) (hn : t.data.toList[k]? ≠ some c) : ∀ j, diffs (changed t k c) t j = if k < j then 1 else 0
  | 0 => by simp [diffs]
  | j + 1 => by
    have hlen : t.data.toList.length = 15 := by simpa using h15
    rw [diffs_succ, diffs_one t k c hk h15 hn j, changed_getD t k c hk h15]
    by_cases hjk : j = k
    · subst hjk
      have hcn : (c != t.data.toList.getD j 0) = true := by
        have h2 : t.data.toList[j]? = some (t.data.toList.getD j 0) := by simp [List.getD, hlen, hk]
        rw [h2] at hn
        exact bne_iff_ne.2 (fun e => hn (by rw [e]))
      rw [if_pos rfl, if_pos hcn, if_neg (by omega), if_pos (by omega)]
    · have hz : (t.data.toList.getD j 0 != t.data.toList.getD j 0) = false := bne_self_eq_false _
      rw [if_neg hjk, hz]
      by_cases hkj : k < j
      · rw [if_pos hkj, if_pos (show k < j + 1 by omega)]; rfl
      · rw [if_neg hkj, if_neg (show ¬ k < j + 1 by omega)]; rfl
end Go.Proofs.YtphcjppdmdmejaaDoor

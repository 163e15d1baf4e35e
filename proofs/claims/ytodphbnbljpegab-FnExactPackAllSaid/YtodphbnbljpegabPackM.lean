/- PackAll: the mathematics. A list that is put into order by gross weight, and the boxes that are tried for each number. -/
import Derived.Test.YtodphbnbljpegabPutM
namespace Go.Proofs.Ytodphbnbljpegab
open Go.RowKit
theorem lisB_of {l : List Th} (h : Lis l) : lisB l = true := by
  refine lisB_iff.2 fun i hi => (lisAt_iff hi).2 ⟨h.ok _ (List.getElem_mem hi), fun h0 => h.up (i - 1) i hi (by omega), ?_⟩
  by_cases hn : l[i].n = 0
  · exact .inl hn
  · obtain ⟨j, hj, h1, h2, h3⟩ := h.pin l[i] (List.getElem_mem hi) hn
    exact .inr (by rw [boxB_hit hj h1]; exact h3)
theorem put_code_pos {l : List Th} {id box : Int} (h : putC l id box = 0) : ∃ (k b : Nat) (_ : k < l.length) (hb : b < l.length), thsB l = true ∧ fnd l box = b ∧ l[b].x = true ∧ l[b].d = box ∧ shaB (mov l k box) = true ∧ ligB (mov l k box) = true ∧ putL l id box = mov l k box := by
  unfold putC putL putB at *
  split at h
  · cases h
  · rename_i h1
    split at h
    · cases h
    · split at h
      · cases h
      · split at h
        · cases h
        · rename_i h4
          split at h
          · cases h
          · rename_i h2 h3 h5
            simp only [not_or] at h1
            obtain ⟨a1, a2, a3⟩ := h1
            rcases fnd_cases l id with ⟨e, _⟩ | ⟨k, hk, e, _, _⟩
            · exact absurd (by rw [e]; decide) a2
            · rcases fnd_cases l box with ⟨eb, _⟩ | ⟨b, hb, eb, hd, _⟩
              · exact absurd (boxB_miss (by rw [eb]; decide)) a3
              · refine ⟨k, b, hk, hb, by simpa using a1, eb, ?_, hd, ?_, ?_, ?_⟩
                · have := boxB_hit hb eb; rw [← this]; simpa using a3
                · rw [e, Int.toNat_natCast] at h4; simpa using h4
                · rw [e, Int.toNat_natCast] at h5; simpa using h5
                · rw [if_neg (by simp only [not_or]; exact ⟨a1, a2, a3⟩), if_neg h2, if_neg h3, if_neg h4, if_neg h5, e, Int.toNat_natCast]
theorem put_or (l : List Th) (id box : Int) : (putB l id box).1 = l ∨ (putB l id box).2 = 0 := by
  unfold putB
  split
  · exact .inl rfl
  · split
    · exact .inl rfl
    · split
      · exact .inl rfl
      · split
        · exact .inl rfl
        · split
          · exact .inl rfl
          · exact .inr rfl
theorem put_same {l : List Th} {id box : Int} (hc : ¬ putC l id box = 0) : putL l id box = l := by
  rcases put_or l id box with h | h
  · exact h
  · exact absurd h hc
/-- what is put is valid still -/
theorem put_valid {l : List Th} {id box : Int} (h : thsB l = true) : thsB (putL l id box) = true := by
  by_cases hc : putC l id box = 0
  · obtain ⟨k, b, hk, hb, _, hf, hx, hd, h4, h5, e⟩ := put_code_pos hc
    rw [e]
    have hl := mov_lis (ths_of h).lis hk hb hx hd
    have hlen := mov_len l k box
    have := (ths_of h).len
    unfold thsB
    rw [lisB_of hl, h4, h5, hlen, decide_eq_true this]; rfl
  · rw [put_same hc]; exact h
/-- the first box that takes it -/
def firB (l : List Th) (id : Int) : List Int → List Th × Bool
  | [] => (l, false)
  | b :: bs => if putC l id b = 0 then (putL l id b, true) else firB l id bs
theorem fir_len (l : List Th) (id : Int) (bs : List Int) : (firB l id bs).1.length = l.length := by
  induction bs with
  | nil => rfl
  | cons b bs ih => unfold firB; split; exact put_len _ _ _; exact ih
theorem fir_valid {l : List Th} (h : thsB l = true) (id : Int) (bs : List Int) : thsB (firB l id bs).1 = true := by
  induction bs with
  | nil => exact h
  | cons b bs ih => unfold firB; split; exact put_valid h; exact ih
/-- no box of the first j takes it -/
def NoFir (l : List Th) (id : Int) (bs : List Int) (j : Nat) : Prop := firB l id bs = firB l id (bs.drop j)
theorem noFir_hit {l : List Th} {id : Int} {bs : List Int} {j : Nat} (h : NoFir l id bs j) (hj : j < bs.length) (hc : putC l id bs[j] = 0) : firB l id bs = (putL l id bs[j], true) := by
  unfold NoFir at h; rw [h, List.drop_eq_getElem_cons hj]; unfold firB; rw [if_pos hc]
theorem noFir_next {l : List Th} {id : Int} {bs : List Int} {j : Nat} (h : NoFir l id bs j) (hj : j < bs.length) (hc : ¬ putC l id bs[j] = 0) : NoFir l id bs (j + 1) := by
  unfold NoFir at *; rw [h, List.drop_eq_getElem_cons hj]; conv => lhs; unfold firB
  rw [if_neg hc]
theorem noFir_end {l : List Th} {id : Int} {bs : List Int} (h : NoFir l id bs bs.length) : firB l id bs = (l, false) := by
  unfold NoFir at h; rw [h, List.drop_length]; rfl
/-- the things and what is left, behind the numbers so far -/
def pckS (bs : List Int) (s : List Th × List Int) (i : Int) : List Th × List Int := ((firB s.1 i bs).1, if (firB s.1 i bs).2 then s.2 else s.2 ++ [i])
def pckK (l : List Th) (bs os : List Int) (k : Nat) : List Th × List Int := (os.take k).foldl (pckS bs) (l, [])
theorem pckK_next (l : List Th) (bs : List Int) {os : List Int} {k : Nat} (h : k < os.length) : pckK l bs os (k + 1) = pckS bs (pckK l bs os k) os[k] := by
  unfold pckK; rw [List.take_succ_eq_append_getElem h, List.foldl_append]; rfl
theorem pckK_all (l : List Th) (bs os : List Int) : pckK l bs os os.length = os.foldl (pckS bs) (l, []) := by
  unfold pckK; rw [List.take_length]
theorem pck_valid {l : List Th} (h : thsB l = true) (bs os : List Int) (k : Nat) : thsB (pckK l bs os k).1 = true := by
  unfold pckK
  generalize os.take k = q
  suffices ∀ (q : List Int) (s : List Th × List Int), thsB s.1 = true → thsB (q.foldl (pckS bs) s).1 = true from this q (l, []) h
  intro q
  induction q with
  | nil => intro s hs; exact hs
  | cons a q ih => intro s hs; exact ih _ (fir_valid hs a bs)
theorem pck_len (l : List Th) (bs os : List Int) (k : Nat) : (pckK l bs os k).1.length = l.length ∧ (pckK l bs os k).2.length ≤ k := by
  have main : ∀ (q : List Int) (s : List Th × List Int), (q.foldl (pckS bs) s).1.length = s.1.length ∧ (q.foldl (pckS bs) s).2.length ≤ s.2.length + q.length := by
    intro q
    induction q with
    | nil => intro s; exact ⟨rfl, Nat.le_refl _⟩
    | cons a q ih =>
      intro s
      have h := ih (pckS bs s a)
      have h1 : (pckS bs s a).1.length = s.1.length := fir_len _ _ _
      have h2 : (pckS bs s a).2.length ≤ s.2.length + 1 := by unfold pckS; dsimp only; split <;> simp
      exact ⟨h.1.trans h1, by have := h.2; simp only [List.length_cons, List.foldl_cons]; omega⟩
  have h := main (os.take k) (l, [])
  refine ⟨h.1, Nat.le_trans h.2 ?_⟩
  have : (os.take k).length ≤ k := by rw [List.length_take]; exact Nat.min_le_left _ _
  simpa using this
/-- the heavier first, the smaller number first for one weight -/
def leH (l : List Th) (x y : Int) : Bool := decide (grsB l y < grsB l x ∨ grsB l x = grsB l y ∧ x ≤ y)
def heav (l : List Th) (ids : List Int) : List Int := ids.mergeSort (leH l)
theorem heav_len (l : List Th) (ids : List Int) : (heav l ids).length = ids.length := List.length_mergeSort _
def packB (l : List Th) (ids bs : List Int) : List Th × List Int :=
  if thsB l = true ∧ ids.length ≤ 40 ∧ bs.length ≤ 40 then pckK l bs (heav l ids) (heav l ids).length else (l, [])
theorem pack_no {l : List Th} {ids bs : List Int} (h : ¬ (thsB l = true ∧ ids.length ≤ 40 ∧ bs.length ≤ 40)) : packB l ids bs = (l, []) := if_neg h
theorem pack_yes {l : List Th} {ids bs : List Int} (h : thsB l = true ∧ ids.length ≤ 40 ∧ bs.length ≤ 40) : packB l ids bs = pckK l bs (heav l ids) (heav l ids).length := if_pos h
theorem pack_len (l : List Th) (ids bs : List Int) : (packB l ids bs).1.length = l.length ∧ (packB l ids bs).2.length ≤ 40 := by
  by_cases h : thsB l = true ∧ ids.length ≤ 40 ∧ bs.length ≤ 40
  · rw [pack_yes h]
    have := pck_len l bs (heav l ids) (heav l ids).length
    exact ⟨this.1, Nat.le_trans this.2 (by rw [heav_len]; exact h.2.1)⟩
  · rw [pack_no h]; exact ⟨rfl, Nat.zero_le _⟩
end Go.Proofs.Ytodphbnbljpegab

/- Texts in ascending order, each once. No program. -/
import Derived.Test.YtamlbiagjipedaaBa
import Derived.Lib.SlicesCompact
import Derived.Lib.RowBridge
namespace Go.Proofs.Ytamlbiagjipedaa
open Go.RowKit
abbrev Bs := List UInt8
def lt' (a b : Bs) : Prop := Op.bytesLess a b = true
theorem lt_iff : ∀ x y : Bs, Op.bytesLess x y = true ↔ x < y
  | [], [] => by simp [Op.bytesLess]
  | _ :: _, [] => by simp [Op.bytesLess]
  | [], _ :: _ => by simp [Op.bytesLess]
  | a :: x, b :: y => by rw [bl_cons, lt_iff x y, List.cons_lt_cons_iff]
def insU (p : Bs) : List Bs → List Bs
  | [] => [p]
  | x :: r => if Op.bytesLess x p then x :: insU p r else if x = p then x :: r else p :: x :: r
def placesL (l : List Bs) : List Bs := l.foldl (fun o p => insU p o) []
theorem placesL_snoc (l : List Bs) (p : Bs) : placesL (l ++ [p]) = insU p (placesL l) := by simp [placesL]
theorem ins_mem (p y : Bs) : ∀ l, y ∈ insU p l ↔ y = p ∨ y ∈ l
  | [] => by simp [insU]
  | x :: r => by
    unfold insU
    split
    · rw [List.mem_cons, ins_mem p y r, List.mem_cons]
      constructor
      · rintro (h | h | h)
        · exact .inr (.inl h)
        · exact .inl h
        · exact .inr (.inr h)
      · rintro (h | h | h)
        · exact .inr (.inl h)
        · exact .inl h
        · exact .inr (.inr h)
    · split
      · rename_i h
        subst h
        constructor
        · exact .inr
        · rintro (rfl | h)
          · exact List.mem_cons_self
          · exact h
      · simp
theorem ins_sorted (p : Bs) : ∀ l, l.Pairwise lt' → (insU p l).Pairwise lt'
  | [], _ => by simp [insU]
  | x :: r, h => by
    obtain ⟨h1, h2⟩ := List.pairwise_cons.1 h
    unfold insU
    split
    · rename_i hx
      refine List.pairwise_cons.2 ⟨fun y hy => ?_, ins_sorted p r h2⟩
      rcases (ins_mem p y r).1 hy with rfl | hy
      · exact hx
      · exact h1 y hy
    · rename_i hx
      split
      · exact h
      · rename_i hne
        have hp : lt' p x := by
          cases hh : Op.bytesLess p x with
          | true => exact hh
          | false => exact absurd (bl_total x p (by simpa using hx) hh) hne
        refine List.pairwise_cons.2 ⟨fun y hy => ?_, h⟩
        rcases List.mem_cons.1 hy with rfl | hy
        · exact hp
        · exact bl_trans _ _ _ hp (h1 y hy)
theorem pl_step (P : List Bs → Prop) (h0 : P []) (hs : ∀ o p, P o → P (insU p o)) : ∀ (l o : List Bs), P o → P (l.foldl (fun o p => insU p o) o)
  | [], _, h => h
  | p :: l, o, h => pl_step P h0 hs l _ (hs o p h)
theorem pl_sorted (l : List Bs) : (placesL l).Pairwise lt' := pl_step _ List.Pairwise.nil (fun o p h => ins_sorted p o h) l [] List.Pairwise.nil
theorem pl_mem_aux (y : Bs) : ∀ (l o : List Bs), y ∈ l.foldl (fun o p => insU p o) o ↔ y ∈ l ∨ y ∈ o
  | [], o => by simp
  | p :: l, o => by
    rw [List.foldl_cons, pl_mem_aux y l, ins_mem, List.mem_cons]
    constructor
    · rintro (h | h | h)
      · exact .inl (.inr h)
      · exact .inl (.inl h)
      · exact .inr h
    · rintro ((h | h) | h)
      · exact .inr (.inl h)
      · exact .inl h
      · exact .inr (.inr h)
theorem pl_mem (l : List Bs) (y : Bs) : y ∈ placesL l ↔ y ∈ l := by
  unfold placesL; rw [pl_mem_aux]; simp
/-- only one list is in order and has these members -/
theorem sorted_eq : ∀ a b : List Bs, a.Pairwise lt' → b.Pairwise lt' → (∀ y, y ∈ a ↔ y ∈ b) → a = b
  | [], b, _, _, h => by
    cases b with
    | nil => rfl
    | cons y r => exact absurd ((h y).2 List.mem_cons_self) (by simp)
  | x :: a, [], _, _, h => absurd ((h x).1 List.mem_cons_self) (by simp)
  | x :: a, y :: b, ha, hb, h => by
    obtain ⟨a1, a2⟩ := List.pairwise_cons.1 ha
    obtain ⟨b1, b2⟩ := List.pairwise_cons.1 hb
    have e : x = y := by
      rcases List.mem_cons.1 ((h x).1 List.mem_cons_self) with e | hx
      · exact e
      · rcases List.mem_cons.1 ((h y).2 List.mem_cons_self) with e | hy
        · exact e.symm
        · have h1 := b1 x hx
          have h2 := bl_asymm _ _ (a1 y hy)
          unfold lt' at h1
          rw [h1] at h2; cases h2
    subst e
    congr 1
    refine sorted_eq a b a2 b2 fun z => ?_
    constructor
    · intro hz
      rcases List.mem_cons.1 ((h z).1 (List.mem_cons_of_mem _ hz)) with e | hz'
      · subst e
        have h1 := a1 z hz
        unfold lt' at h1
        rw [bl_irrefl] at h1; cases h1
      · exact hz'
    · intro hz
      rcases List.mem_cons.1 ((h z).2 (List.mem_cons_of_mem _ hz)) with e | hz'
      · subst e
        have h1 := b1 z hz
        unfold lt' at h1
        rw [bl_irrefl] at h1; cases h1
      · exact hz'
/-- where a text is put in -/
theorem ins_at (p : Bs) : ∀ (l : List Bs) (k : Nat), k ≤ l.length → (∀ j (hj : j < l.length), j < k → Op.bytesLess l[j] p = true) → (∀ h : k < l.length, Op.bytesLess l[k] p = false) →
    insU p l = if ∃ h : k < l.length, l[k] = p then l else l.take k ++ p :: l.drop k
  | [], k, hk, _, _ => by simp [insU]
  | x :: r, 0, _, _, h2 => by
    have h := h2 (by simp)
    simp only [List.getElem_cons_zero] at h
    unfold insU
    rw [h]
    by_cases e : x = p
    · simp [e]
    · simp [e]
  | x :: r, k + 1, hk, h1, h2 => by
    have h := h1 0 (by simp) (by omega)
    simp only [List.getElem_cons_zero] at h
    unfold insU
    rw [if_pos h, ins_at p r k (by simpa using hk) (fun j hj hjk => by have := h1 (j + 1) (by simpa using hj) (by omega); simpa using this) (fun hh => by have := h2 (by simpa using hh); simpa using this)]
    by_cases e : ∃ h : k < r.length, r[k] = p
    · obtain ⟨e1, e2⟩ := e
      rw [if_pos ⟨e1, e2⟩, if_pos ⟨by simpa using e1, by simpa using e2⟩]
    · rw [if_neg e, if_neg (fun ⟨e1, e2⟩ => e ⟨by simpa using e1, by simpa using e2⟩)]
      simp
theorem ins_len (p : Bs) : ∀ l, (insU p l).length ≤ l.length + 1
  | [] => by simp [insU]
  | x :: r => by
    unfold insU
    split
    · have := ins_len p r; simp only [List.length_cons]; omega
    · split <;> simp
theorem pl_len (l : List Bs) : (placesL l).length ≤ l.length := by
  have aux : ∀ (l o : List Bs), (l.foldl (fun o p => insU p o) o).length ≤ o.length + l.length := by
    intro l
    induction l with
    | nil => intro o; simp
    | cons p l ih =>
      intro o
      have h1 := ih (insU p o)
      have h2 := ins_len p o
      simp only [List.foldl_cons, List.length_cons]
      omega
  simpa [placesL] using aux l []
theorem compact_of (d : Array Bs) (hd : ∀ i j, i < j → j < d.size → ¬ d[j]! < d[i]!) : ∀ m, m ≤ d.size → (∀ x, x ∈ Lib.compactUpTo d m ↔ ∃ j, j < m ∧ d[j]! = x) ∧ (Lib.compactUpTo d m).Pairwise lt'
  | 0, _ => by simp [Lib.compactUpTo]
  | m + 1, hm => by
    obtain ⟨h1, h2⟩ := compact_of d hd m (by omega)
    rw [Lib.compactUpTo_succ]
    cases hk : Lib.keeps d m with
    | true =>
      rw [if_pos rfl]
      refine ⟨fun x => ?_, List.pairwise_append.2 ⟨h2, List.pairwise_singleton _ _, fun a ha b hb => ?_⟩⟩
      · rw [List.mem_append, h1, List.mem_singleton]
        constructor
        · rintro (⟨j, hj, e⟩ | rfl)
          · exact ⟨j, by omega, e⟩
          · exact ⟨m, by omega, rfl⟩
        · rintro ⟨j, hj, e⟩
          by_cases hjm : j = m
          · subst hjm; exact .inr e.symm
          · exact .inl ⟨j, by omega, e⟩
      · rw [List.mem_singleton] at hb
        subst hb
        obtain ⟨j, hj, rfl⟩ := (h1 a).1 ha
        have h3 : m ≠ 0 := by omega
        have h4 : d[m]! ≠ d[m - 1]! := by
          simp only [Lib.keeps, decide_eq_true_eq] at hk
          rcases hk with hk | hk
          · exact absurd hk h3
          · exact hk
        have h5 := hd (m - 1) m (by omega) (by omega)
        have h6 : d[m - 1]! < d[m]! := by
          rw [← lt_iff]
          cases hh : Op.bytesLess d[m - 1]! d[m]! with
          | true => rfl
          | false => exact absurd (bl_total _ _ (by
              cases hq : Op.bytesLess d[m]! d[m - 1]! with
              | true => exact absurd ((lt_iff _ _).1 hq) h5
              | false => rfl) hh) h4
        by_cases hj1 : j = m - 1
        · subst hj1; exact (lt_iff _ _).2 h6
        · have h7 := hd j (m - 1) (by omega) (by omega)
          have h8 : Op.bytesLess d[j]! d[m - 1]! = true ∨ d[j]! = d[m - 1]! := by
            cases hh : Op.bytesLess d[j]! d[m - 1]! with
            | true => exact .inl rfl
            | false => exact .inr (bl_total _ _ hh (by
                cases hq : Op.bytesLess d[m - 1]! d[j]! with
                | true => exact absurd ((lt_iff _ _).1 hq) h7
                | false => rfl))
          rcases h8 with h8 | h8
          · exact bl_trans _ _ _ h8 ((lt_iff _ _).2 h6)
          · rw [h8]; exact (lt_iff _ _).2 h6
    | false =>
      have hmz : 0 < m := by
        rcases Nat.eq_zero_or_pos m with rfl | h
        · simp [Lib.keeps] at hk
        · exact h
      have e : d[m]! = d[m - 1]! := by
        simp only [Lib.keeps, decide_eq_false_iff_not, not_or, ne_eq, Decidable.not_not] at hk
        exact hk.2
      refine ⟨fun x => ?_, by simpa using h2⟩
      simp only [Bool.false_eq_true, if_false, List.append_nil]
      rw [h1]
      constructor
      · rintro ⟨j, hj, e'⟩; exact ⟨j, by omega, e'⟩
      · rintro ⟨j, hj, e'⟩
        by_cases hjm : j = m
        · subst hjm; exact ⟨j - 1, by omega, by rw [← e, e']⟩
        · exact ⟨j, by omega, e'⟩
/-- sorted, and compacted -/
theorem compact_sort (l : List Bs) : Lib.compact (l.mergeSort fun x y => decide (x ≤ y)) = placesL l := by
  have hp : (l.mergeSort fun x y => decide (x ≤ y)).Pairwise (fun a b => decide (a ≤ b) = true) := List.pairwise_mergeSort
    (fun a b c h1 h2 => by simp only [decide_eq_true_eq] at *; exact List.le_trans h1 h2)
    (fun a b => by simp only [Bool.or_eq_true, decide_eq_true_eq]; exact List.le_total a b) l
  have hm : ∀ y, y ∈ (l.mergeSort fun x y => decide (x ≤ y)) ↔ y ∈ l := fun y => (List.mergeSort_perm l _).mem_iff
  generalize (l.mergeSort fun x y => decide (x ≤ y)) = s at *
  have h := compact_of s.toArray (fun i j hij hj => by
    have hj' : j < s.length := by simpa using hj
    have := List.pairwise_iff_getElem.1 hp i j (by omega) hj' hij
    simp only [decide_eq_true_eq] at this
    simp only [List.getElem!_toArray, getElem!_pos s j hj', getElem!_pos s i (by omega)]
    exact List.not_lt.2 this) s.length (by simp)
  refine sorted_eq _ _ h.2 (pl_sorted l) fun y => ?_
  unfold Lib.compact
  rw [h.1 y, pl_mem, ← hm y]
  constructor
  · rintro ⟨j, hj, rfl⟩
    simp only [List.getElem!_toArray, getElem!_pos s j hj]
    exact List.getElem_mem hj
  · intro hy
    obtain ⟨j, hj, rfl⟩ := List.getElem_of_mem hy
    exact ⟨j, hj, by simp only [List.getElem!_toArray, getElem!_pos s j hj]⟩
end Go.Proofs.Ytamlbiagjipedaa

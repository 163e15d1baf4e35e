/- Lines of money: what they sum to, and which are valid, as mathematics. -/
import Derived.Test.YtadcmngooobeiaaLines
import Derived.Test.YtadcmngooobeiaaApp
namespace Go.Proofs.Ytadcmngooobeiaa
open Go.RowKit
def w64 (x : Int) : Int := wrap64 x
/-- the line is of this order and of this kind -/
def hitL (o k : Int) (x : Ln) : Bool := decide (x.o = o ∧ x.k = k)
def valL (o k : Int) (x : Ln) : Int := if hitL o k x then x.a else 0
def cashV (x : Ln) : Int := if x.k = 2 then x.a else if x.k = 3 then wrap64 (-x.a) else 0
/-- what a rule counts for the first k lines -/
def foldN (f : Ln → Int) (l : List Ln) (k : Nat) : Int := (l.take k).foldl (fun n x => wrap64 (n + f x)) 0
def foldA (f : Ln → Int) (l : List Ln) : Int := l.foldl (fun n x => wrap64 (n + f x)) 0
def sumT (l : List Ln) (o k : Int) : Int := foldA (valL o k) l
def cntT (l : List Ln) (o k : Int) : Nat := (l.filter (hitL o k)).length
section
variable {l : List Ln} {f : Ln → Int} {o k : Int}
theorem foldN_all : foldN f l l.length = foldA f l := by unfold foldN foldA; rw [List.take_length]
theorem foldN_take (j : Nat) : foldA f (l.take j) = foldN f l j := rfl
theorem foldN_next {j : Nat} (h : j < l.length) : foldN f l (j + 1) = wrap64 (foldN f l j + f l[j]) := by
  unfold foldN; rw [List.take_succ_eq_append_getElem h, List.foldl_append]; rfl
theorem foldN_zero : foldN f l 0 = 0 := rfl
theorem wrap_id {x : Int} (h : -9223372036854775808 ≤ x ∧ x ≤ 9223372036854775807) : wrap64 x = x := by unfold wrap64; omega
theorem wrap_bd (x : Int) : -9223372036854775808 ≤ wrap64 x ∧ wrap64 x ≤ 9223372036854775807 := by unfold wrap64; omega
theorem foldN_bd : ∀ j, -9223372036854775808 ≤ foldN f l j ∧ foldN f l j ≤ 9223372036854775807 := by
  intro j
  induction j with
  | zero => rw [foldN_zero]; omega
  | succ j ih =>
    by_cases h : j < l.length
    · rw [foldN_next h]; exact wrap_bd _
    · have : l.take (j + 1) = l.take j := by rw [List.take_of_length_le (by omega), List.take_of_length_le (by omega)]
      unfold foldN at ih ⊢; rw [this]; exact ih
/-- a round that counts nothing -/
theorem foldN_skip {j : Nat} (h : j < l.length) (e : f l[j] = 0) : foldN f l (j + 1) = foldN f l j := by
  rw [foldN_next h, e, Int.add_zero]; exact wrap_id (foldN_bd j)
theorem valL_yes {x : Ln} (h1 : x.o = o) (h2 : x.k = k) : valL o k x = x.a := by unfold valL hitL; simp [h1, h2]
theorem valL_no {x : Ln} (h : ¬ (x.o = o ∧ x.k = k)) : valL o k x = 0 := by unfold valL hitL; simp [h]
end
/-- a line of the document -/
def lineB (x : Ln) : Bool := inB x.o 1 9999 && inB x.k 1 3 && inB x.a 1 100000 && inB x.t 0 100000
theorem lineB_iff {x : Ln} : lineB x = true ↔ (1 ≤ x.o ∧ x.o ≤ 9999) ∧ (1 ≤ x.k ∧ x.k ≤ 3) ∧ (1 ≤ x.a ∧ x.a ≤ 100000) ∧ (0 ≤ x.t ∧ x.t ≤ 100000) := by
  unfold lineB inB; simp only [Bool.and_eq_true, decide_eq_true_eq]; constructor
  · rintro ⟨⟨⟨h1, h2⟩, h3⟩, h4⟩; exact ⟨h1, h2, h3, h4⟩
  · rintro ⟨h1, h2, h3, h4⟩; exact ⟨⟨⟨h1, h2⟩, h3⟩, h4⟩
/-- the line may stand behind these -/
def mayB (b : List Ln) (x : Ln) : Bool :=
  if x.k = 1 then decide (sumT b x.o 1 = 0) else if x.k = 2 then decide (sumT b x.o 2 + x.a ≤ sumT b x.o 1)
  else decide (sumT b x.o 3 = 0) && decide (sumT b x.o 2 = sumT b x.o 1) && decide (x.a ≤ sumT b x.o 1)
def okL (l : List Ln) (i : Nat) (h : i < l.length) : Prop := lineB l[i] = true ∧ (i = 0 ∨ (l[i - 1]'(by omega)).t ≤ l[i].t) ∧ mayB (l.take i) l[i] = true
instance (l : List Ln) (i : Nat) (h : i < l.length) : Decidable (okL l i h) := by unfold okL; exact inferInstance
def linesB (l : List Ln) : Bool := decide (l.length ≤ 200 ∧ ∀ i (h : i < l.length), okL l i h)
section
variable {l : List Ln} {o k : Int}
theorem linesB_iff : linesB l = true ↔ l.length ≤ 200 ∧ ∀ i (h : i < l.length), okL l i h := by unfold linesB; rw [decide_eq_true_eq]
theorem linesB_not {i : Nat} (h : i < l.length) (e : ¬ okL l i h) : linesB l = false := decide_eq_false (fun h' => e (h'.2 i h))
theorem linesB_long (h : 200 < l.length) : linesB l = false := decide_eq_false (fun h' => by omega)
/-- bounds of the sums of valid lines -/
theorem sum_bd (hn : l.length ≤ 200) : ∀ j, j ≤ l.length → (∀ i (h : i < l.length), i < j → lineB l[i] = true) → 0 ≤ foldN (valL o k) l j ∧ foldN (valL o k) l j ≤ 100000 * j := by
  intro j
  induction j with
  | zero => intro _ _; rw [foldN_zero]; omega
  | succ j ih =>
    intro hj hv
    have hjl : j < l.length := by omega
    obtain ⟨i1, i2⟩ := ih (by omega) (fun i h hi => hv i h (by omega))
    have hb := lineB_iff.1 (hv j hjl (by omega))
    rw [foldN_next hjl]
    have hvl : 0 ≤ valL o k l[j] ∧ valL o k l[j] ≤ 100000 := by unfold valL; split <;> omega
    rw [wrap_id (by omega)]; omega
theorem sum_nonneg (hn : l.length ≤ 200) (hv : ∀ x ∈ l, lineB x = true) : 0 ≤ sumT l o k ∧ sumT l o k ≤ 20000000 := by
  have h := sum_bd (l := l) (o := o) (k := k) hn l.length (Nat.le_refl _) (fun i h _ => hv _ (List.getElem_mem h))
  rw [foldN_all] at h; unfold sumT; omega
/-- counting hits: some, if and only if the sum is above 0 -/
theorem cnt_sum (hn : l.length ≤ 200) : ∀ j, j ≤ l.length → (∀ i (h : i < l.length), i < j → lineB l[i] = true) → (0 < ((l.take j).filter (hitL o k)).length ↔ 0 < foldN (valL o k) l j) := by
  intro j
  induction j with
  | zero => intro _ _; rw [foldN_zero]; simp
  | succ j ih =>
    intro hj hv
    have hjl : j < l.length := by omega
    have hv' := (fun i h hi => hv i h (by omega) : ∀ i (h : i < l.length), i < j → lineB l[i] = true)
    have i1 := ih (by omega) hv'
    have bd := sum_bd (l := l) (o := o) (k := k) hn j (by omega) hv'
    have hb := lineB_iff.1 (hv j hjl (by omega))
    rw [foldN_next hjl]
    cases hh : hitL o k l[j] with
    | true =>
      rw [filt_yes hjl hh]
      have e : valL o k l[j] = l[j].a := by unfold valL; rw [hh]; rfl
      rw [e, wrap_id (by omega)]
      simp only [List.length_append, List.length_singleton]
      omega
    | false =>
      rw [filt_no hjl hh]
      have e : valL o k l[j] = 0 := by unfold valL; rw [hh]; rfl
      rw [e, Int.add_zero, wrap_id (by omega)]
      exact i1
theorem cnt_sum_all (hn : l.length ≤ 200) (hv : ∀ x ∈ l, lineB x = true) : 0 < cntT l o k ↔ 0 < sumT l o k := by
  have h := cnt_sum (l := l) (o := o) (k := k) hn l.length (Nat.le_refl _) (fun i h _ => hv _ (List.getElem_mem h))
  rw [List.take_length, foldN_all] at h
  exact h
theorem linesB_valid (h : linesB l = true) : l.length ≤ 200 ∧ ∀ x ∈ l, lineB x = true := by
  obtain ⟨h1, h2⟩ := linesB_iff.1 h
  refine ⟨h1, fun x hx => ?_⟩
  obtain ⟨j, hj, rfl⟩ := List.getElem_of_mem hx
  exact (h2 j hj).1
end
/-- what is owed -/
def owedB (l : List Ln) (o : Int) : Int := if linesB l then sumT l o 1 - sumT l o 2 else 0
def linesOfB (l : List Ln) (o : Int) : List Ln := l.filter (fun x => x.o == o)
theorem linesOf_len {l : List Ln} {o : Int} : (linesOfB l o).length ≤ l.length := List.length_filter_le _ _
def pushR (l : List Ln) (x : Ln) : List Ln × Int := if 200 ≤ l.length then (l, 5) else if linesB (l ++ [x]) then (l ++ [x], 0) else (l, 1)
def chargeR (l : List Ln) (o a t : Int) : List Ln × Int :=
  if linesB l && lineB ⟨o, 1, a, t⟩ then (if 0 < sumT l o 1 then (l, 2) else pushR l ⟨o, 1, a, t⟩) else (l, 1)
def payR (l : List Ln) (o a t : Int) : List Ln × Int :=
  if linesB l && lineB ⟨o, 2, a, t⟩ then (if sumT l o 1 = 0 then (l, 3) else if owedB l o < a then (l, 4) else pushR l ⟨o, 2, a, t⟩) else (l, 1)
end Go.Proofs.Ytadcmngooobeiaa

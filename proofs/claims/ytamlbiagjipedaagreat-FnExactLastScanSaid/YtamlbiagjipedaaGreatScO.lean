/- The order of scans is one; lists in it, each scan once. No program. -/
import Derived.Test.YtamlbiagjipedaaGreatScCmp
import Derived.Test.YtamlbiagjipedaaGreatOrd
import Derived.Shelf.SlSortCmp.Insertion
namespace Go.Proofs.YtamlbiagjipedaaGreat
open Go.RowKit Go.Sort
/-- what compares as an order does -/
structure Cmp3 (c : Sc → Sc → Int) : Prop where
  neg : ∀ a b, c b a = - c a b
  tr : ∀ a b d, c a b ≤ 0 → c b d ≤ 0 → c a d ≤ 0 ∧ (c a d = 0 → c a b = 0 ∧ c b d = 0)
def lexC (c c' : Sc → Sc → Int) (a b : Sc) : Int := if c a b = 0 then c' a b else c a b
theorem Cmp3.lex {c c' : Sc → Sc → Int} (h : Cmp3 c) (h' : Cmp3 c') : Cmp3 (lexC c c') := by
  refine ⟨fun a b => ?_, fun a b d h1 h2 => ?_⟩
  · have := h.neg a b
    have := h'.neg a b
    unfold lexC
    by_cases e : c a b = 0
    · rw [if_pos e, if_pos (by omega)]; omega
    · rw [if_neg e, if_neg (by omega)]; omega
  · unfold lexC at h1 h2 ⊢
    have hn1 := h.neg a b; have hn2 := h.neg b d; have hn3 := h.neg a d
    by_cases e1 : c a b = 0
    · by_cases e2 : c b d = 0
      · rw [if_pos e1] at h1; rw [if_pos e2] at h2
        have t1 := h.tr a b d (by omega) (by omega)
        have t2 := h.tr d b a (by omega) (by omega)
        have e3 : c a d = 0 := by have := h.neg d a; omega
        rw [if_pos e3, if_pos e1, if_pos e2]
        exact h'.tr a b d h1 h2
      · rw [if_pos e1] at h1; rw [if_neg e2] at h2
        have t1 := h.tr a b d (by omega) (by omega)
        have e3 : c a d ≠ 0 := fun e => e2 (t1.2 e).2
        rw [if_neg e3, if_pos e1, if_neg e2]
        exact ⟨t1.1, fun e => absurd e e3⟩
    · rw [if_neg e1] at h1
      have h2' : c b d ≤ 0 := by
        by_cases e2 : c b d = 0
        · omega
        · rw [if_neg e2] at h2; exact h2
      have t1 := h.tr a b d h1 h2'
      have e3 : c a d ≠ 0 := fun e => e1 (t1.2 e).1
      rw [if_neg e3, if_neg e1]
      exact ⟨t1.1, fun e => absurd e e3⟩
theorem cmpI3 (f : Sc → Int) : Cmp3 (fun a b => cmpI (f a) (f b)) := by
  refine ⟨fun a b => ?_, fun a b d h1 h2 => ?_⟩
  · rcases cmpI_cases (f a) (f b) with ⟨_, e⟩ | ⟨_, e⟩ | ⟨_, e⟩ <;> rcases cmpI_cases (f b) (f a) with ⟨_, e'⟩ | ⟨_, e'⟩ | ⟨_, e'⟩ <;> omega
  · rcases cmpI_cases (f a) (f b) with ⟨_, e⟩ | ⟨_, e⟩ | ⟨_, e⟩ <;> rcases cmpI_cases (f b) (f d) with ⟨_, e'⟩ | ⟨_, e'⟩ | ⟨_, e'⟩ <;> rcases cmpI_cases (f a) (f d) with ⟨_, e''⟩ | ⟨_, e''⟩ | ⟨_, e''⟩ <;> omega
theorem cmpS3 : Cmp3 (fun a b => cmpS a.p b.p) := by
  refine ⟨fun a b => cmpS_neg a.p b.p, fun a b d h1 h2 => ⟨cmpS_trans _ _ _ h1 h2, fun e => ?_⟩⟩
  have e' := (cmpS_zero _ _).1 e
  have h3 : cmpS d.p a.p ≤ 0 := by rw [cmpS_neg a.p d.p]; omega
  have h4 := cmpS_trans _ _ _ h2 h3
  have h5 := cmpS_trans _ _ _ h3 h1
  have := cmpS_neg a.p b.p
  have := cmpS_neg b.p d.p
  constructor <;> omega
def cmp6 : Sc → Sc → Int := lexC (fun a b => cmpI a.a b.a) (lexC (fun a b => cmpI a.h b.h) (lexC (fun a b => cmpI a.k b.k) (lexC (fun a b => cmpI a.d b.d) (lexC (fun a b => cmpI a.g b.g) (fun a b => cmpS a.p b.p)))))
theorem cmp6_eq (a b : Sc) : cmpSc a b = cmp6 a b := by
  have hz : ∀ x : Int, (if x = 0 then 0 else x) = x := fun x => by split <;> omega
  show orL (scL a b) = _
  unfold scL cmp6 lexC orL orL orL orL orL orL orL
  rw [hz]
theorem cmp6_ord : Cmp3 cmp6 := (cmpI3 _).lex ((cmpI3 _).lex ((cmpI3 _).lex ((cmpI3 _).lex ((cmpI3 _).lex cmpS3))))
theorem cmpSc_neg (a b : Sc) : cmpSc b a = - cmpSc a b := by rw [cmp6_eq, cmp6_eq]; exact cmp6_ord.neg a b
theorem cmpSc_tr (a b d : Sc) (h1 : cmpSc a b ≤ 0) (h2 : cmpSc b d ≤ 0) : cmpSc a d ≤ 0 ∧ (cmpSc a d = 0 → cmpSc a b = 0 ∧ cmpSc b d = 0) := by
  simp only [cmp6_eq] at *; exact cmp6_ord.tr a b d h1 h2
theorem cmpI_zero {a b : Int} (h : cmpI a b = 0) : a = b := by rcases cmpI_cases a b with ⟨_, e⟩ | ⟨e, _⟩ | ⟨_, e⟩ <;> omega
theorem toList_inj {p q : ByteArray} (h : p.toList = q.toList) : p = q := by
  rw [ByteArray.toList_eq, ByteArray.toList_eq] at h
  obtain ⟨⟨a⟩⟩ := p; obtain ⟨⟨b⟩⟩ := q
  exact congrArg (fun l => (⟨⟨l⟩⟩ : ByteArray)) h
theorem cmpSc_zero {a b : Sc} (h : cmpSc a b = 0) : a = b := by
  rw [cmp6_eq] at h
  unfold cmp6 lexC at h
  by_cases e1 : cmpI a.a b.a = 0
  · by_cases e2 : cmpI a.h b.h = 0
    · by_cases e3 : cmpI a.k b.k = 0
      · by_cases e4 : cmpI a.d b.d = 0
        · by_cases e5 : cmpI a.g b.g = 0
          · rw [if_pos e1, if_pos e2, if_pos e3, if_pos e4, if_pos e5] at h
            have h6 := toList_inj ((cmpS_zero _ _).1 h)
            have h1 := cmpI_zero e1; have h2 := cmpI_zero e2; have h3 := cmpI_zero e3; have h4 := cmpI_zero e4; have h5 := cmpI_zero e5
            cases a; cases b
            simp only at h1 h2 h3 h4 h5 h6
            subst h1 h2 h3 h4 h5 h6
            rfl
          · rw [if_pos e1, if_pos e2, if_pos e3, if_pos e4, if_neg e5] at h; exact absurd h e5
        · rw [if_pos e1, if_pos e2, if_pos e3, if_neg e4] at h; exact absurd h e4
      · rw [if_pos e1, if_pos e2, if_neg e3] at h; exact absurd h e3
    · rw [if_pos e1, if_neg e2] at h; exact absurd h e2
  · rw [if_neg e1] at h; exact absurd h e1
theorem cmpSc_self (a : Sc) : cmpSc a a = 0 := by have := cmpSc_neg a a; omega
theorem cmpSc_lt_trans {a b d : Sc} (h1 : cmpSc a b < 0) (h2 : cmpSc b d < 0) : cmpSc a d < 0 := by
  have := cmpSc_tr a b d (by omega) (by omega)
  have h3 : cmpSc a d ≠ 0 := fun e => by have := (this.2 e).1; omega
  omega
theorem swoSc : SWO (ltOf cmpSc) :=
  ⟨fun x => by unfold ltOf; rw [cmpSc_self]; rfl, fun x y z h1 h2 => by unfold ltOf at *; simp only [decide_eq_true_eq] at *; exact cmpSc_lt_trans h1 h2, fun x y z h1 h2 => by
    unfold ltOf at *; simp only [decide_eq_false_iff_not] at *
    have a1 := cmpSc_neg x y; have a2 := cmpSc_neg y z; have a3 := cmpSc_neg x z
    have := cmpSc_tr z y x (by omega) (by omega)
    omega⟩
theorem totSc (x y : Sc) (h1 : ltOf cmpSc x y = false) (h2 : ltOf cmpSc y x = false) : x = y := by
  unfold ltOf at *; simp only [decide_eq_false_iff_not] at *
  have := cmpSc_neg x y
  exact cmpSc_zero (by omega)
/-- in strictly ascending order -/
abbrev UpSc (l : List Sc) : Prop := l.Pairwise fun a b => cmpSc a b < 0
theorem up_uniq : ∀ {l m : List Sc}, UpSc l → UpSc m → (∀ y, y ∈ l ↔ y ∈ m) → l = m
  | [], [], _, _, _ => rfl
  | [], b :: m, _, _, h => absurd ((h b).2 (List.mem_cons_self ..)) (by simp)
  | a :: l, [], _, _, h => absurd ((h a).1 (List.mem_cons_self ..)) (by simp)
  | a :: l, b :: m, h1, h2, h => by
    obtain ⟨ha, hl⟩ := List.pairwise_cons.1 h1
    obtain ⟨hb, hm⟩ := List.pairwise_cons.1 h2
    have hab : a = b := by
      rcases List.mem_cons.1 ((h a).1 (List.mem_cons_self ..)) with e | e
      · exact e
      · rcases List.mem_cons.1 ((h b).2 (List.mem_cons_self ..)) with e' | e'
        · exact e'.symm
        · have := hb a e; have := ha b e'; have := cmpSc_neg a b; omega
    subst hab
    have : l = m := up_uniq hl hm (fun y => by
      have hy := h y
      constructor
      · intro hyl
        rcases List.mem_cons.1 (hy.1 (List.mem_cons_of_mem _ hyl)) with e | e
        · have := ha y hyl; rw [e, cmpSc_self] at this; omega
        · exact e
      · intro hym
        rcases List.mem_cons.1 (hy.2 (List.mem_cons_of_mem _ hym)) with e | e
        · have := hb y hym; rw [e, cmpSc_self] at this; omega
        · exact e)
    rw [this]
/-- a scan put where it belongs -/
theorem up_ins {out : List Sc} {y : Sc} {k : Nat} (hu : UpSc out) (hk : k ≤ out.length) (h1 : ∀ j (_ : j < k) (hj : j < out.length), cmpSc out[j] y < 0) (h2 : ∀ h : k < out.length, 0 < cmpSc out[k] y) : UpSc (out.take k ++ y :: out.drop k) := by
  have hd : ∀ b ∈ out.drop k, cmpSc y b < 0 := fun b hb => by
    obtain ⟨j, hj, rfl⟩ := List.getElem_of_mem hb
    rw [List.length_drop] at hj
    rw [List.getElem_drop]
    have h3 := h2 (by omega)
    have h4 := cmpSc_neg (out[k]'(by omega)) y
    by_cases e : j = 0
    · subst e; have e2 : out[k + 0]'(by omega) = out[k]'(by omega) := rfl
      rw [e2]; omega
    · have h5 := List.pairwise_iff_getElem.1 hu k (k + j) (by omega) (by omega) (by omega)
      exact cmpSc_lt_trans (by omega) h5
  refine List.pairwise_append.2 ⟨hu.sublist (List.take_sublist _ _), List.pairwise_cons.2 ⟨hd, hu.sublist (List.drop_sublist _ _)⟩, fun a ha b hb => ?_⟩
  obtain ⟨j, hj, rfl⟩ := List.getElem_of_mem ha
  rw [List.length_take] at hj
  rw [List.getElem_take]
  have h6 := h1 j (by omega) (by omega)
  rcases List.mem_cons.1 hb with e | e
  · rw [e]; exact h6
  · exact cmpSc_lt_trans h6 (hd b e)
theorem mem_ins {out : List Sc} {y z : Sc} {k : Nat} : z ∈ out.take k ++ y :: out.drop k ↔ z = y ∨ z ∈ out := by
  have h : z ∈ out ↔ z ∈ out.take k ∨ z ∈ out.drop k := by
    conv => lhs; rw [← List.take_append_drop k out]
    exact List.mem_append
  rw [List.mem_append, List.mem_cons, h]
  constructor
  · rintro (h | h | h)
    · exact .inr (.inl h)
    · exact .inl h
    · exact .inr (.inr h)
  · rintro (h | h | h)
    · exact .inr (.inl h)
    · exact .inl h
    · exact .inr (.inr h)
end Go.Proofs.YtamlbiagjipedaaGreat

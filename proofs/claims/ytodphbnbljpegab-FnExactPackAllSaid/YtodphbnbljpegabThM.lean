/- Things in boxes: the plain mathematics. -/
import Derived.Lib.Hide
namespace Go.Proofs.Ytodphbnbljpegab
structure Th where
  d : Int
  o : Int
  r : Int
  n : Int
  x : Bool
  s : Bool
instance : Inhabited Th := ⟨⟨0, 0, 0, 0, false, false⟩⟩
/-- where the first thing with an Id lies, or -1 -/
def fnd (l : List Th) (id : Int) : Int := if l.findIdx (fun t => t.d == id) < l.length then (l.findIdx (fun t => t.d == id) : Int) else -1
theorem fnd_hit {l : List Th} {id : Int} {k : Nat} (hk : k < l.length) (h : l[k].d = id) (hn : ∀ j (hj : j < k), (l[j]'(by omega)).d ≠ id) : fnd l id = k := by
  have e : l.findIdx (fun t => t.d == id) = k := by
    rw [List.findIdx_eq hk]
    exact ⟨by simpa using h, fun j hj => by simpa using hn j hj⟩
  unfold fnd
  rw [e, if_pos hk]
theorem fnd_miss {l : List Th} {id : Int} (h : ∀ t ∈ l, t.d ≠ id) : fnd l id = -1 := by
  unfold fnd
  rw [if_neg]
  intro hlt
  have := List.findIdx_getElem (w := hlt)
  exact h _ (List.getElem_mem hlt) (by simpa using this)
theorem fnd_cases (l : List Th) (id : Int) : (fnd l id = -1 ∧ ∀ t ∈ l, t.d ≠ id) ∨ ∃ (k : Nat) (hk : k < l.length), fnd l id = (k : Int) ∧ l[k].d = id ∧ ∀ j (hj : j < k), (l[j]'(by omega)).d ≠ id := by
  by_cases hlt : l.findIdx (fun t => t.d == id) < l.length
  · refine .inr ⟨_, hlt, by unfold fnd; rw [if_pos hlt], ?_, fun j hj => ?_⟩
    · have := List.findIdx_getElem (w := hlt)
      simpa using this
    · have := List.not_of_lt_findIdx hj
      simpa using this
  · refine .inl ⟨by unfold fnd; rw [if_neg hlt], fun t ht e => hlt ?_⟩
    exact List.findIdx_lt_length_of_exists ⟨t, ht, by simpa using e⟩
theorem fnd_lt (l : List Th) (id : Int) : -1 ≤ fnd l id ∧ fnd l id < l.length := by
  rcases fnd_cases l id with ⟨h, _⟩ | ⟨k, hk, h, _⟩ <;> omega
/-- where the first thing lies of which p holds, or -1 -/
def fndP (l : List Th) (p : Th → Bool) : Int := if l.findIdx p < l.length then (l.findIdx p : Int) else -1
theorem fnd_P (l : List Th) (id : Int) : fnd l id = fndP l (fun t => t.d == id) := rfl
theorem fndP_hit {l : List Th} {p : Th → Bool} {k : Nat} (hk : k < l.length) (h : p l[k] = true) (hn : ∀ j (_ : j < l.length), j < k → p l[j] = false) : fndP l p = k := by
  have e : l.findIdx p = k := by
    rw [List.findIdx_eq hk]
    exact ⟨h, fun j hj => hn j (by omega) hj⟩
  unfold fndP
  rw [e, if_pos hk]
theorem fndP_miss {l : List Th} {p : Th → Bool} (h : ∀ j (_ : j < l.length), p l[j] = false) : fndP l p = -1 := by
  unfold fndP
  rw [if_neg]
  intro hlt
  have := List.findIdx_getElem (w := hlt)
  rw [h _ hlt] at this; cases this
theorem fndP_any (l : List Th) (p : Th → Bool) : decide (0 ≤ fndP l p) = l.any p := by
  unfold fndP
  by_cases h : l.findIdx p < l.length
  · rw [if_pos h, decide_eq_true (by omega), eq_comm, List.any_eq_true]
    exact ⟨_, List.getElem_mem h, List.findIdx_getElem (w := h)⟩
  · rw [if_neg h, decide_eq_false (by omega), eq_comm, List.any_eq_false]
    intro t ht e
    exact h (List.findIdx_lt_length_of_exists ⟨t, ht, e⟩)
/-- a thing's own numbers are in their ranges -/
def okT (t : Th) : Bool := decide (1 ≤ t.d) && decide (t.d ≤ 9999) && decide (1 ≤ t.o) && decide (t.o ≤ 30000) && (if t.x then decide (1 ≤ t.r) && decide (t.r ≤ 1000000) else decide (t.r = 0) && !t.s)
theorem okT_iff {t : Th} : okT t = true ↔ 1 ≤ t.d ∧ t.d ≤ 9999 ∧ 1 ≤ t.o ∧ t.o ≤ 30000 ∧ (t.x = true → 1 ≤ t.r ∧ t.r ≤ 1000000) ∧ (t.x = false → t.r = 0 ∧ t.s = false) := by
  unfold okT
  cases t.x <;> simp [and_assoc]
/-- there is such a box -/
def boxB (l : List Th) (id : Int) : Bool := decide (0 ≤ fnd l id) && (l.getD (fnd l id).toNat default).x
theorem boxB_miss {l : List Th} {id : Int} (h : fnd l id < 0) : boxB l id = false := by
  unfold boxB
  rw [decide_eq_false (by omega)]; rfl
theorem boxB_hit {l : List Th} {id : Int} {k : Nat} (hk : k < l.length) (h : fnd l id = k) : boxB l id = l[k].x := by
  unfold boxB
  rw [h, decide_eq_true (by omega)]
  simp [List.getD, hk]
def lisAt (l : List Th) (i : Nat) : Bool := okT (l.getD i default) && (decide (i = 0) || decide ((l.getD (i - 1) default).d < (l.getD i default).d)) && (decide ((l.getD i default).n = 0) || boxB l (l.getD i default).n)
theorem getD_at {l : List Th} {i : Nat} (h : i < l.length) : l.getD i default = l[i] := by simp [List.getD, h]
theorem lisAt_iff {l : List Th} {i : Nat} (h : i < l.length) : lisAt l i = true ↔ okT l[i] = true ∧ (∀ h0 : 0 < i, (l[i - 1]'(by omega)).d < l[i].d) ∧ (l[i].n = 0 ∨ boxB l l[i].n = true) := by
  unfold lisAt
  rw [getD_at h, getD_at (show i - 1 < l.length by omega)]
  simp only [Bool.and_eq_true, Bool.or_eq_true, decide_eq_true_eq, and_assoc]
  constructor
  · rintro ⟨h1, h2, h3⟩
    exact ⟨h1, fun h0 => by rcases h2 with h2 | h2; omega; exact h2, h3⟩
  · rintro ⟨h1, h2, h3⟩
    refine ⟨h1, ?_, h3⟩
    by_cases h0 : i = 0
    · exact .inl h0
    · exact .inr (h2 (by omega))
/-- the things are valid one by one, and each lies in a box that is there -/
def lisB (l : List Th) : Bool := (List.range l.length).all (lisAt l)
theorem lisB_iff {l : List Th} : lisB l = true ↔ ∀ i, i < l.length → lisAt l i = true := by simp [lisB]
theorem lisB_no {l : List Th} {i : Nat} (h : i < l.length) (e : lisAt l i = false) : lisB l = false := by
  cases hq : lisB l with
  | false => rfl
  | true => rw [lisB_iff.1 hq i h] at e; cases e
structure Lis (l : List Th) : Prop where
  ok : ∀ t ∈ l, okT t = true
  up : ∀ i j (hj : j < l.length) (hi : i < j), (l[i]'(by omega)).d < l[j].d
  pin : ∀ t ∈ l, t.n ≠ 0 → ∃ (k : Nat) (hk : k < l.length), fnd l t.n = (k : Int) ∧ l[k].d = t.n ∧ l[k].x = true
theorem lis_of {l : List Th} (h : lisB l = true) : Lis l := by
  have h := lisB_iff.1 h
  refine ⟨fun t ht => ?_, fun i j hj hi => ?_, fun t ht hn => ?_⟩
  · obtain ⟨i, hi, rfl⟩ := List.getElem_of_mem ht
    exact ((lisAt_iff hi).1 (h i hi)).1
  · induction j with
    | zero => omega
    | succ j ih =>
      have h1 := ((lisAt_iff hj).1 (h _ hj)).2.1 (by omega)
      simp only [Nat.add_sub_cancel] at h1
      by_cases e : i = j
      · subst e; exact h1
      · have := ih (by omega) (by omega); omega
  · obtain ⟨i, hi, rfl⟩ := List.getElem_of_mem ht
    have h1 := ((lisAt_iff hi).1 (h _ hi)).2.2
    rcases h1 with h1 | h1
    · exact absurd h1 hn
    rcases fnd_cases l l[i].n with ⟨e, _⟩ | ⟨k, hk, e, hd, _⟩
    · rw [boxB_miss (by omega)] at h1; cases h1
    · exact ⟨k, hk, e, hd, by rw [boxB_hit hk e] at h1; exact h1⟩
theorem Lis.at_ {l : List Th} (h : Lis l) {k : Nat} (hk : k < l.length) : fnd l l[k].d = (k : Int) :=
  fnd_hit hk rfl fun j hj => by have := h.up j k hk hj; omega
theorem Lis.inj {l : List Th} (h : Lis l) {t u : Th} (ht : t ∈ l) (hu : u ∈ l) (e : t.d = u.d) : t = u := by
  obtain ⟨i, hi, rfl⟩ := List.getElem_of_mem ht
  obtain ⟨j, hj, rfl⟩ := List.getElem_of_mem hu
  have h1 := h.at_ hi
  rw [e, h.at_ hj] at h1
  have : i = j := by omega
  subst this; rfl
theorem Lis.bd {l : List Th} (h : Lis l) {t : Th} (ht : t ∈ l) : 1 ≤ t.d ∧ t.d ≤ 9999 ∧ 1 ≤ t.o ∧ t.o ≤ 30000 ∧ 0 ≤ t.r ∧ t.r ≤ 1000000 := by
  obtain ⟨h1, h2, h3, h4, h5, h6⟩ := okT_iff.1 (h.ok t ht)
  cases hx : t.x with
  | true => have := h5 hx; omega
  | false => have := h6 hx; omega
/-- the box in which a thing is -/
def par (l : List Th) (t : Th) : Th := l.getD (fnd l t.n).toNat t
theorem par_at {l : List Th} {t : Th} {k : Nat} (hk : k < l.length) (h : fnd l t.n = k) : par l t = l[k] := by
  unfold par
  rw [h]
  simp [List.getD, hk]
theorem Lis.par_mem {l : List Th} (h : Lis l) {t : Th} (ht : t ∈ l) (hn : t.n ≠ 0) : par l t ∈ l ∧ (par l t).d = t.n ∧ (par l t).x = true := by
  obtain ⟨k, hk, e, hd, hx⟩ := h.pin t ht hn
  rw [par_at hk e]
  exact ⟨List.getElem_mem hk, hd, hx⟩
/-- the boxes around a thing, from the inside out, so many at most -/
def aro (l : List Th) : Nat → Th → List Th
  | 0, _ => []
  | f + 1, t => if t.n = 0 then [] else par l t :: aro l f (par l t)
theorem aro_len (l : List Th) : ∀ (f : Nat) (t : Th), (aro l f t).length ≤ f
  | 0, _ => by simp [aro]
  | f + 1, t => by
    unfold aro
    split
    · simp
    · have := aro_len l f (par l t); simp; omega
theorem aro_top {l : List Th} {t : Th} (h : t.n = 0) (f : Nat) : aro l f t = [] := by
  cases f with
  | zero => rfl
  | succ f => unfold aro; rw [if_pos h]
theorem aro_step {l : List Th} {t : Th} (h : ¬ t.n = 0) (f : Nat) : aro l (f + 1) t = par l t :: aro l f (par l t) := by
  rw [aro, if_neg h]
theorem aro_same {l : List Th} : ∀ (f : Nat) (t : Th), (aro l (f + 1) t).length ≤ f → aro l f t = aro l (f + 1) t
  | 0, t, h => by
    have : aro l (0 + 1) t = [] := List.eq_nil_of_length_eq_zero (by omega)
    rw [this]; rfl
  | f + 1, t, h => by
    by_cases hn : t.n = 0
    · rw [aro_top hn, aro_top hn]
    · rw [aro_step hn] at h
      rw [aro_step hn, aro_step hn, aro_same f (par l t) (by simp at h; omega)]
theorem Lis.aro_mem {l : List Th} (h : Lis l) : ∀ (f : Nat) (t : Th), t ∈ l → ∀ u ∈ aro l f t, u ∈ l
  | 0, _, _, u, hu => by simp [aro] at hu
  | f + 1, t, ht, u, hu => by
    by_cases hn : t.n = 0
    · rw [aro_top hn] at hu; cases hu
    · rw [aro_step hn] at hu
      rcases List.mem_cons.1 hu with rfl | hu
      · exact (h.par_mem ht hn).1
      · exact h.aro_mem f _ (h.par_mem ht hn).1 u hu
def dep (l : List Th) (t : Th) : Nat := (aro l 5 t).length
/-- at most four boxes are around each -/
def shaB (l : List Th) : Bool := l.all fun t => decide ((aro l 5 t).length ≤ 4)
theorem sha_of {l : List Th} (h : shaB l = true) : ∀ t ∈ l, dep l t ≤ 4 := by simpa [shaB, dep] using h
theorem shaB_no {l : List Th} {t : Th} (h : t ∈ l) (e : 4 < (aro l 5 t).length) : shaB l = false := by
  cases hq : shaB l with
  | false => rfl
  | true => have := sha_of hq t h; unfold dep at this; omega
theorem shaB_yes {l : List Th} (h : ∀ i (hi : i < l.length), (aro l 5 l[i]).length ≤ 4) : shaB l = true := by
  simp only [shaB, List.all_eq_true, decide_eq_true_eq]
  intro t ht
  obtain ⟨i, hi, rfl⟩ := List.getElem_of_mem ht
  exact h i hi
theorem child_dep {l : List Th} (h : Lis l) (hs : ∀ t ∈ l, dep l t ≤ 4) {t u : Th} (ht : t ∈ l) (hu : u ∈ l) (e : u.n = t.d) : dep l u = dep l t + 1 := by
  have hb := h.bd ht
  have hn : ¬ u.n = 0 := by omega
  have hp : par l u = t := by
    obtain ⟨h1, h2, _⟩ := h.par_mem hu hn
    exact h.inj h1 ht (by omega)
  have h4 := hs t ht
  unfold dep at *
  rw [aro_step hn, hp, aro_same 4 t h4]
  simp
theorem no_child {l : List Th} (h : Lis l) (hs : ∀ t ∈ l, dep l t ≤ 4) {t : Th} (ht : t ∈ l) (h4 : 4 ≤ dep l t) : l.filter (fun u => u.n == t.d) = [] := by
  rw [List.filter_eq_nil_iff]
  intro u hu e
  have h1 := child_dep h hs ht hu (by simpa using e)
  have h2 := hs u hu
  omega
/-- a thing's weight with all that is in it, so many boxes deep -/
def gr (l : List Th) : Nat → Th → Int
  | 0, t => t.o
  | f + 1, t => t.o + ((l.filter (fun u => u.n == t.d)).map (gr l f)).sum
theorem sum_bd {D : List Th} {g : Th → Int} {B : Int} (h : ∀ u ∈ D, 0 ≤ g u ∧ g u ≤ B) : 0 ≤ (D.map g).sum ∧ (D.map g).sum ≤ D.length * B := by
  induction D with
  | nil => simp
  | cons a D ih =>
    have h1 := h a (by simp)
    have h2 := ih (fun u hu => h u (by simp [hu]))
    simp only [List.map_cons, List.sum_cons, List.length_cons]
    have : ((D.length + 1 : Nat) : Int) * B = (D.length : Int) * B + B := by rw [Int.natCast_add, Int.add_mul]; simp
    omega
def grM : Nat → Int
  | 0 => 30000
  | f + 1 => 30000 + 40 * grM f
theorem grM_pos : ∀ f, 0 ≤ grM f
  | 0 => by decide
  | f + 1 => by have := grM_pos f; unfold grM; omega
theorem grM_le {f : Nat} (h : f ≤ 4) : grM f ≤ 100000000000 := by
  have : f = 0 ∨ f = 1 ∨ f = 2 ∨ f = 3 ∨ f = 4 := by omega
  rcases this with rfl | rfl | rfl | rfl | rfl <;> decide
theorem gr_bd {l : List Th} (h : Lis l) (hn : l.length ≤ 40) : ∀ (f : Nat) (t : Th), t ∈ l → 0 ≤ gr l f t ∧ gr l f t ≤ grM f
  | 0, t, ht => by have := h.bd ht; unfold gr grM; omega
  | f + 1, t, ht => by
    have hb := h.bd ht
    have hs := sum_bd (D := l.filter (fun u => u.n == t.d)) (g := gr l f) (B := grM f) (fun u hu => gr_bd h hn f u (List.mem_filter.1 hu).1)
    have hl := List.length_filter_le (fun u : Th => u.n == t.d) l
    have hp := grM_pos f
    have : ((l.filter (fun u => u.n == t.d)).length : Int) * grM f ≤ 40 * grM f := Int.mul_le_mul_of_nonneg_right (by omega) hp
    unfold gr grM
    omega
/-- what of a list has been summed -/
theorem sum_take {D : List Th} {g : Th → Int} (j : Nat) (h : j < D.length) : ((D.take (j + 1)).map g).sum = ((D.take j).map g).sum + g D[j] := by
  rw [List.take_succ_eq_append_getElem h, List.map_append, List.sum_append]; simp
theorem part_bd {D : List Th} {g : Th → Int} {B : Int} (hB : 0 ≤ B) (hl : D.length ≤ 40) (h : ∀ u ∈ D, 0 ≤ g u ∧ g u ≤ B) (j : Nat) : 0 ≤ ((D.take j).map g).sum ∧ ((D.take j).map g).sum ≤ 40 * B := by
  have h1 := sum_bd (D := D.take j) (g := g) (B := B) (fun u hu => h u (List.mem_of_mem_take hu))
  have h2 : (D.take j).length ≤ 40 := by rw [List.length_take]; omega
  have : ((D.take j).length : Int) * B ≤ 40 * B := Int.mul_le_mul_of_nonneg_right (by omega) hB
  omega
theorem fil_take_yes {l : List Th} {p : Th → Bool} {j : Nat} (h : j < l.length) (e : p l[j] = true) : (l.take (j + 1)).filter p = (l.take j).filter p ++ [l[j]] := by
  rw [List.take_succ_eq_append_getElem h, List.filter_append]; simp [e]
theorem fil_take_no {l : List Th} {p : Th → Bool} {j : Nat} (h : j < l.length) (e : p l[j] = false) : (l.take (j + 1)).filter p = (l.take j).filter p := by
  rw [List.take_succ_eq_append_getElem h, List.filter_append]; simp [e]
/-- the things directly in a box weigh no more than it may hold -/
def ligB (l : List Th) : Bool := l.all fun t => decide (gr l 4 t - t.o ≤ t.r)
theorem ligB_no {l : List Th} {t : Th} (h : t ∈ l) (e : t.r < gr l 4 t - t.o) : ligB l = false := by
  cases hq : ligB l with
  | false => rfl
  | true =>
    simp only [ligB, List.all_eq_true, decide_eq_true_eq] at hq
    have := hq t h; omega
theorem ligB_yes {l : List Th} (h : ∀ i (hi : i < l.length), gr l 4 l[i] - l[i].o ≤ l[i].r) : ligB l = true := by
  simp only [ligB, List.all_eq_true, decide_eq_true_eq]
  intro t ht
  obtain ⟨i, hi, rfl⟩ := List.getElem_of_mem ht
  exact h i hi
theorem no_in {l : List Th} (h : Lis l) {t : Th} (ht : t ∈ l) (hx : t.x = false) : gr l 4 t - t.o ≤ t.r := by
  have e : l.filter (fun u => u.n == t.d) = [] := by
    rw [List.filter_eq_nil_iff]
    intro u hu e
    have e' : u.n = t.d := by simpa using e
    have hb := h.bd ht
    obtain ⟨h1, h2, h3⟩ := h.par_mem hu (by omega)
    have := h.inj h1 ht (by omega)
    rw [this, hx] at h3
    cases h3
  have hb := h.bd ht
  unfold gr
  rw [e]
  simp
  omega
/-- what AreThings answers -/
def thsB (l : List Th) : Bool := decide (l.length ≤ 40) && lisB l && shaB l && ligB l
structure Ths (l : List Th) : Prop where
  len : l.length ≤ 40
  lis : Lis l
  sha : ∀ t ∈ l, dep l t ≤ 4
theorem ths_of {l : List Th} (h : thsB l = true) : Ths l := by
  simp only [thsB, Bool.and_eq_true, decide_eq_true_eq] at h
  exact ⟨h.1.1.1, lis_of h.1.1.2, sha_of h.1.2⟩
/-- the second text's count of boxes around, of any things -/
def sdp (l : List Th) : Nat → Int → Nat
  | 0, _ => 0
  | f + 1, k => if k < 0 then 0 else if (l.getD k.toNat default).n = 0 then 0 else 1 + sdp l f (fnd l (l.getD k.toNat default).n)
theorem sdp_len (l : List Th) : ∀ (f : Nat) (k : Int), sdp l f k ≤ f
  | 0, _ => by simp [sdp]
  | f + 1, k => by
    unfold sdp
    split
    · omega
    · split
      · omega
      · have := sdp_len l f (fnd l (l.getD k.toNat default).n); omega
theorem sdp_out {l : List Th} {k : Int} (h : k < 0) (f : Nat) : sdp l f k = 0 := by
  cases f with
  | zero => rfl
  | succ f => unfold sdp; rw [if_pos h]
theorem sdp_top {l : List Th} {k : Nat} (hk : k < l.length) (h : l[k].n = 0) (f : Nat) : sdp l f (k : Int) = 0 := by
  cases f with
  | zero => rfl
  | succ f => unfold sdp; rw [if_neg (by omega), Int.toNat_natCast, getD_at hk, if_pos h]
theorem sdp_step {l : List Th} {k : Nat} (hk : k < l.length) (h : ¬ l[k].n = 0) (f : Nat) : sdp l (f + 1) (k : Int) = 1 + sdp l f (fnd l l[k].n) := by
  rw [sdp, if_neg (by omega), Int.toNat_natCast, getD_at hk, if_neg h]
theorem sdp_aro {l : List Th} (h : Lis l) : ∀ (f : Nat) (k : Nat) (hk : k < l.length), sdp l f (k : Int) = (aro l f l[k]).length
  | 0, _, _ => rfl
  | f + 1, k, hk => by
    by_cases hn : l[k].n = 0
    · rw [sdp_top hk hn, aro_top hn]; rfl
    · obtain ⟨m, hm, e, _⟩ := h.pin l[k] (List.getElem_mem hk) hn
      rw [sdp_step hk hn, aro_step hn, par_at hm e, e, sdp_aro h f m hm]
      simp; omega
end Go.Proofs.Ytodphbnbljpegab

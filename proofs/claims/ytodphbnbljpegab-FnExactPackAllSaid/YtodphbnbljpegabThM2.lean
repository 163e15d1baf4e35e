/- Things in boxes: what is asked of a valid list. -/
import Derived.Test.YtodphbnbljpegabThM
namespace Go.Proofs.Ytodphbnbljpegab
/-- the thing with an Id, if the list is valid -/
def ask (l : List Th) (id : Int) : Option Th := if thsB l && decide (0 ≤ fnd l id) then some (l.getD (fnd l id).toNat default) else none
theorem ask_bad {l : List Th} (id : Int) (h : thsB l = false) : ask l id = none := by unfold ask; rw [h]; rfl
theorem ask_miss {l : List Th} {id : Int} (h : fnd l id < 0) : ask l id = none := by
  unfold ask; rw [decide_eq_false (by omega), Bool.and_false]; rfl
theorem ask_hit {l : List Th} {id : Int} {k : Nat} (hk : k < l.length) (h : fnd l id = k) (ht : thsB l = true) : ask l id = some l[k] := by
  unfold ask
  rw [ht, h, decide_eq_true (by omega)]
  simp [List.getD, hk]
theorem aro5 {l : List Th} (h : Ths l) {t : Th} (ht : t ∈ l) (hn : ¬ t.n = 0) : aro l 5 t = par l t :: aro l 5 (par l t) := by
  rw [aro_step hn, aro_same 4 (par l t) (h.sha _ (h.lis.par_mem ht hn).1)]
theorem dep5 {l : List Th} (h : Ths l) {t : Th} (ht : t ∈ l) (hn : ¬ t.n = 0) : dep l t = dep l (par l t) + 1 := by
  unfold dep; rw [aro5 h ht hn]; simp
def grsB (l : List Th) (id : Int) : Int := (ask l id).elim 0 (gr l 4)
def lastB (l : List Th) (t : Th) : Int := ((aro l 5 t).getLast?.getD t).d
def outB (l : List Th) (id : Int) : Int := (ask l id).elim 0 (lastB l)
def depB (l : List Th) (id : Int) : Int := (ask l id).elim (-1) (fun t => (dep l t : Int))
/-- a box around a thing is sealed -/
def lkT (l : List Th) (t : Th) : Bool := (aro l 5 t).any (fun u => u.s)
def lckB (l : List Th) (id : Int) : Bool := (ask l id).elim false (lkT l)
/-- a box is around a thing -/
def arB (l : List Th) (t : Th) (box : Int) : Bool := (aro l 5 t).any (fun u => u.d == box)
def insB (l : List Th) (id : Int) : List Int := (ask l id).elim [] (fun t => (l.filter (fun u => u.n == t.d)).map Th.d)
def allB (l : List Th) (id : Int) : List Int := (ask l id).elim [] (fun t => (l.filter (fun u => arB l u t.d)).map Th.d)
theorem lastB_top {l : List Th} {t : Th} (hn : t.n = 0) : lastB l t = t.d := by unfold lastB; rw [aro_top hn]; rfl
theorem lastB_up {l : List Th} (h : Ths l) {t : Th} (ht : t ∈ l) (hn : ¬ t.n = 0) : lastB l t = lastB l (par l t) := by
  unfold lastB
  rw [aro5 h ht hn, List.getLast?_cons]
  rfl
theorem lastB_of {l : List Th} {t : Th} (h : 0 < (aro l 5 t).length) : lastB l t = ((aro l 5 t)[(aro l 5 t).length - 1]'(by omega)).d := by
  unfold lastB
  rw [List.getLast?_eq_getElem?, List.getElem?_eq_getElem (by omega)]
  rfl
theorem arB_top {l : List Th} {t : Th} (hn : t.n = 0) (box : Int) : arB l t box = false := by unfold arB; rw [aro_top hn]; rfl
theorem arB_hit {l : List Th} (h : Ths l) {t : Th} (ht : t ∈ l) (hn : ¬ t.n = 0) {box : Int} (hb : t.n = box) : arB l t box = true := by
  unfold arB
  have := (h.lis.par_mem ht hn).2.1
  rw [aro5 h ht hn, List.any_cons, this, hb]; simp
theorem arB_up {l : List Th} (h : Ths l) {t : Th} (ht : t ∈ l) (hn : ¬ t.n = 0) {box : Int} (hb : ¬ t.n = box) : arB l t box = arB l (par l t) box := by
  unfold arB
  have := (h.lis.par_mem ht hn).2.1
  rw [aro5 h ht hn, List.any_cons, this, beq_eq_false_iff_ne.2 hb, Bool.false_or]
theorem fnd_any (l : List Th) (id : Int) : decide (0 ≤ fnd l id) = l.any (fun u => u.d == id) := by
  rcases fnd_cases l id with ⟨e, h⟩ | ⟨k, hk, e, hd, _⟩
  · rw [decide_eq_false (by omega), eq_comm, List.any_eq_false]
    intro t ht; simpa using h t ht
  · rw [decide_eq_true (by omega), eq_comm, List.any_eq_true]
    exact ⟨l[k], List.getElem_mem hk, by simpa using hd⟩
/-- a sealed box around a thing, found among all things -/
theorem lkT_eq {l : List Th} (h : Ths l) {t : Th} (ht : t ∈ l) : lkT l t = l.any (fun u => u.s && arB l t u.d) := by
  rw [Bool.eq_iff_iff]
  unfold lkT arB
  simp only [List.any_eq_true, Bool.and_eq_true]
  constructor
  · rintro ⟨u, hu, hs⟩
    exact ⟨u, h.lis.aro_mem 5 t ht u hu, hs, u, hu, by simp⟩
  · rintro ⟨u, hu, hs, v, hv, e⟩
    have hvl := h.lis.aro_mem 5 t ht v hv
    have : v = u := h.lis.inj hvl hu (by simpa using e)
    subst this
    exact ⟨v, hv, hs⟩
theorem ins_len {l : List Th} {id : Int} (h : l.length ≤ 1048576) : (insB l id).length ≤ 40 := by
  unfold insB
  cases he : ask l id with
  | none => simp
  | some t =>
    have ht : thsB l = true := by
      cases hq : thsB l with
      | true => rfl
      | false => rw [ask_bad id hq] at he; cases he
    have := (ths_of ht).len
    have h2 := List.length_filter_le (fun u : Th => u.n == t.d) l
    simp only [Option.elim_some, List.length_map]; omega
theorem all_len {l : List Th} {id : Int} (h : l.length ≤ 1048576) : (allB l id).length ≤ 40 := by
  unfold allB
  cases he : ask l id with
  | none => simp
  | some t =>
    have ht : thsB l = true := by
      cases hq : thsB l with
      | true => rfl
      | false => rw [ask_bad id hq] at he; cases he
    have := (ths_of ht).len
    have h2 := List.length_filter_le (fun u : Th => arB l u t.d) l
    simp only [Option.elim_some, List.length_map]; omega
end Go.Proofs.Ytodphbnbljpegab

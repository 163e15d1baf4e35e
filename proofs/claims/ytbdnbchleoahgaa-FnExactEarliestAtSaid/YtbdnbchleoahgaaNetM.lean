/- The plain mathematics of networks: which are valid, when a leg runs, its trips. -/
import Derived.Test.YtbdnbchleoahgaaIsLeg
namespace Go.Proofs.Ytbdnbchleoahgaa
open Go.RowKit
def dayStep (zs : List Int) (j : Nat) : Bool := inB (zs.getD j 0) 0 60 && (j == 0 || decide (zs.getD (j - 1) 0 < zs.getD j 0))
def offB (zs : List Int) : Bool := decide (zs.length ≤ 10) && (List.range zs.length).all (dayStep zs)
def netB (l : List Lg) (zs : List Int) (c : Int) : Bool := decide (l.length ≤ 20) && (l.all legOk && (offB zs && inB c 0 240))
theorem off_long {zs : List Int} (h : 10 < zs.length) : offB zs = false := by unfold offB; rw [decide_eq_false (by omega)]; rfl
theorem off_no {zs : List Int} {j : Nat} (h : j < zs.length) (hs : dayStep zs j = false) : offB zs = false := by
  unfold offB
  have : (List.range zs.length).all (dayStep zs) = false := by rw [List.all_eq_false]; exact ⟨j, List.mem_range.2 h, by simp [hs]⟩
  simp [this]
theorem off_yes {zs : List Int} (h : zs.length ≤ 10) (hs : ∀ j, j < zs.length → dayStep zs j = true) : offB zs = true := by
  unfold offB
  rw [decide_eq_true h, Bool.true_and, List.all_eq_true]
  exact fun j hj => hs j (List.mem_range.1 hj)
theorem off_eq {zs : List Int} (hs : ∀ j, j < zs.length → dayStep zs j = true) : offB zs = decide (zs.length ≤ 10) := by
  by_cases h : zs.length ≤ 10
  · rw [off_yes h hs, decide_eq_true h]
  · rw [off_long (by omega), decide_eq_false h]
theorem day_at {zs : List Int} {j : Nat} (h : j < zs.length) : zs.getD j 0 = zs[j] := by simp [List.getD, h]
theorem day_zero {zs : List Int} (h : 0 < zs.length) : dayStep zs 0 = inB zs[0] 0 60 := by unfold dayStep; rw [day_at h]; simp
theorem day_succ {zs : List Int} {j : Nat} (h : j + 1 < zs.length) : dayStep zs (j + 1) = (inB zs[j + 1] 0 60 && decide (zs[j] < zs[j + 1])) := by
  unfold dayStep; rw [day_at h, Nat.add_sub_cancel, day_at (show j < zs.length by omega)]; simp
theorem legs_no {l : List Lg} {j : Nat} (h : j < l.length) (hs : legOk l[j] = false) : l.all legOk = false := by
  rw [List.all_eq_false]; exact ⟨_, List.getElem_mem h, by simp [hs]⟩
theorem legs_yes {l : List Lg} (hs : ∀ j (h : j < l.length), legOk l[j] = true) : l.all legOk = true := by
  rw [List.all_eq_true]; intro x hx; obtain ⟨j, hj, rfl⟩ := List.getElem_of_mem hx; exact hs j hj
theorem net_long {l : List Lg} {zs : List Int} {c : Int} (h : 20 < l.length) : netB l zs c = false := by unfold netB; rw [decide_eq_false (by omega)]; rfl
theorem net_leg {l : List Lg} {zs : List Int} {c : Int} {j : Nat} (h : j < l.length) (hs : legOk l[j] = false) : netB l zs c = false := by unfold netB; rw [legs_no h hs]; simp
theorem net_off {l : List Lg} {zs : List Int} {c : Int} (h : offB zs = false) : netB l zs c = false := by unfold netB; rw [h]; simp
theorem net_eq {l : List Lg} {zs : List Int} {c : Int} (hs : ∀ j (h : j < l.length), legOk l[j] = true) : netB l zs c = (decide (l.length ≤ 20) && (offB zs && inB c 0 240)) := by unfold netB; rw [legs_yes hs]; simp
theorem net_at {l : List Lg} {zs : List Int} {c : Int} (h : netB l zs c = true) : l.length ≤ 20 ∧ (∀ j (h : j < l.length), legOk l[j] = true) ∧ zs.length ≤ 10 ∧ (0 ≤ c ∧ c ≤ 240) := by
  simp only [netB, offB, Bool.and_eq_true, decide_eq_true_eq, List.all_eq_true] at h
  exact ⟨h.1, fun j hj => h.2.1 _ (List.getElem_mem hj), h.2.2.1.1, inB_iff.1 h.2.2.2⟩
theorem leg_bd {x : Lg} (h : legOk x = true) : (0 ≤ x.s ∧ x.s ≤ 1439) ∧ (1 ≤ x.k ∧ x.k ≤ 4320) ∧ (1 ≤ x.d ∧ x.d ≤ 127) ∧ (0 ≤ x.r ∧ x.r ≤ 1000000) := by
  simp only [legOk, legB, Bool.and_eq_true] at h
  exact ⟨inB_iff.1 h.2.2.2.1, inB_iff.1 h.2.2.2.2.1, inB_iff.1 h.2.2.2.2.2.1, inB_iff.1 h.2.2.2.2.2.2⟩
/-- the bit of the weekday of a day -/
def bitB (d day : Int) : Bool := decide (bits BinOp.and IntKind.i64 (d / 2 ^ (day % 7).toNat) 1 = 1)
def runB (x : Lg) (zs : List Int) (day : Int) : Bool := bitB x.d day && !zs.contains day
def lgAt (l : List Lg) (leg : Int) : Lg := l.getD leg.toNat ⟨⟨#[]⟩, ⟨#[]⟩, 0, 0, 0, 0⟩
theorem lgAt_get {l : List Lg} {k : Nat} (h : k < l.length) : lgAt l (k : Int) = l[k] := by simp [lgAt, List.getD, h]
def ronB (l : List Lg) (zs : List Int) (c leg day : Int) : Bool := netB l zs c && (decide (0 ≤ leg ∧ leg < l.length) && (inB day 0 60 && runB (lgAt l leg) zs day))
def startI (l : List Lg) (zs : List Int) (c leg day : Int) : Int := if ronB l zs c leg day then day * 1440 + (lgAt l leg).s else -1
def endI (l : List Lg) (zs : List Int) (c leg day : Int) : Int := if ronB l zs c leg day then day * 1440 + (lgAt l leg).s + (lgAt l leg).k else -1
def nextP (x : Lg) (zs : List Int) (at_ : Int) (d : Nat) : Bool := runB x zs d && decide (at_ ≤ (d : Int) * 1440 + x.s)
def lastP (x : Lg) (zs : List Int) (by_ : Int) (d : Nat) : Bool := runB x zs d && decide ((d : Int) * 1440 + x.s + x.k ≤ by_)
/-- the first day below n that has P, -1 if there is none -/
def firstD (P : Nat → Bool) (n : Nat) : Int := match (List.range n).find? P with
  | some d => d
  | none => -1
/-- the last day below n that has P -/
def lastD (P : Nat → Bool) : Nat → Int
  | 0 => -1
  | n + 1 => if P n then n else lastD P n
theorem first_hit {P : Nat → Bool} {n k : Nat} (hk : k < n) (h : ∀ j, j < k → P j = false) (hp : P k = true) : firstD P n = k := by
  unfold firstD
  have : (List.range n).find? P = some k := by
    rw [List.find?_range_eq_some]
    exact ⟨hp, List.mem_range.2 hk, fun j hj => by simp [h j hj]⟩
  rw [this]
theorem first_none {P : Nat → Bool} {n : Nat} (h : ∀ j, j < n → P j = false) : firstD P n = -1 := by
  unfold firstD
  have : (List.range n).find? P = none := by
    rw [List.find?_eq_none]
    intro j hj
    simp [h j (List.mem_range.1 hj)]
  rw [this]
theorem firstD_bd (P : Nat → Bool) (n : Nat) : -1 ≤ firstD P n ∧ firstD P n < n ∨ firstD P n = -1 := by
  unfold firstD
  split
  · next d h =>
    have := List.mem_range.1 (List.mem_of_find?_eq_some h)
    exact .inl (by omega)
  · exact .inr rfl
theorem lastD_bd (P : Nat → Bool) : ∀ n, -1 ≤ lastD P n ∧ lastD P n < max 1 n
  | 0 => by simp [lastD]
  | n + 1 => by
    have := lastD_bd P n
    unfold lastD
    split <;> omega
theorem lastD_hit {P : Nat → Bool} {k : Nat} (hp : P k = true) : ∀ n, k < n → (∀ j, k < j → j < n → P j = false) → lastD P n = k
  | 0, h, _ => by omega
  | n + 1, h, hn => by
    unfold lastD
    by_cases e : k = n
    · subst e; rw [hp]; rfl
    · rw [hn n (by omega) (by omega)]
      exact lastD_hit hp n (by omega) (fun j h1 h2 => hn j h1 (by omega))
theorem lastD_none {P : Nat → Bool} : ∀ n, (∀ j, j < n → P j = false) → lastD P n = -1
  | 0, _ => rfl
  | n + 1, h => by
    unfold lastD
    rw [h n (by omega)]
    exact lastD_none n (fun j hj => h j (by omega))
def trOk (l : List Lg) (zs : List Int) (c leg : Int) : Bool := netB l zs c && decide (0 ≤ leg ∧ leg < l.length)
def nextD (l : List Lg) (zs : List Int) (c leg at_ : Int) : Int := if trOk l zs c leg then firstD (nextP (lgAt l leg) zs at_) 61 else -1
def lastT (l : List Lg) (zs : List Int) (c leg by_ : Int) : Int := if trOk l zs c leg then lastD (lastP (lgAt l leg) zs by_) 61 else -1
end Go.Proofs.Ytbdnbchleoahgaa

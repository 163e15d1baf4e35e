/- The plain mathematics of lists of trips: their ends, their slack, ways. -/
import Derived.Test.YtamlbiagjipedaaBb
namespace Go.Proofs.Ytamlbiagjipedaa
open Go.RowKit
def trB (l : List Lg) (zs : List Int) (x : Int) (t : Tp) : Bool := ronB l zs x t.g t.d
def trE (l : List Lg) (t : Tp) : Int := t.d * 1440 + (lgAt l t.g).s + (lgAt l t.g).k
def trS (l : List Lg) (t : Tp) : Int := t.d * 1440 + (lgAt l t.g).s
/-- all of them are trips of the network -/
def tripsB (l : List Lg) (zs : List Int) (x : Int) (ts : List Tp) : Bool := netB l zs x && ts.all (trB l zs x)
theorem tripsB_iff {l : List Lg} {zs : List Int} {x : Int} {ts : List Tp} : tripsB l zs x ts = true ↔ netB l zs x = true ∧ ∀ j (hj : j < ts.length), trB l zs x ts[j] = true := by
  unfold tripsB
  rw [Bool.and_eq_true, List.all_eq_true]
  constructor
  · rintro ⟨h1, h2⟩
    exact ⟨h1, fun j hj => h2 _ (List.getElem_mem hj)⟩
  · rintro ⟨h1, h2⟩
    exact ⟨h1, fun t ht => by obtain ⟨j, hj, rfl⟩ := List.getElem_of_mem ht; exact h2 j hj⟩
theorem trips_no {l : List Lg} {zs : List Int} {x : Int} {ts : List Tp} {j : Nat} (hj : j < ts.length) (h : trB l zs x ts[j] = false) : tripsB l zs x ts = false := by
  cases e : tripsB l zs x ts with
  | false => rfl
  | true => rw [(tripsB_iff.1 e).2 j hj] at h; cases h
theorem trips_net {l : List Lg} {zs : List Int} {x : Int} {ts : List Tp} (h : netB l zs x = false) : tripsB l zs x ts = false := by unfold tripsB; rw [h]; rfl
/-- what a trip of the network is: its leg, its bounds -/
theorem trB_of {l : List Lg} {zs : List Int} {x : Int} {t : Tp} (h : trB l zs x t = true) : netB l zs x = true ∧ (0 ≤ t.d ∧ t.d ≤ 60) ∧ ∃ k : Nat, t.g = k ∧ ∃ hk : k < l.length, lgAt l t.g = l[k] ∧ legOk l[k] = true ∧ 0 ≤ trS l t ∧ trS l t < trE l t ∧ trE l t ≤ 100000 := by
  simp only [trB, ronB, Bool.and_eq_true, decide_eq_true_eq] at h
  obtain ⟨h1, ⟨h2, h3⟩, h4, _⟩ := h
  have h4' := inB_iff.1 h4
  obtain ⟨k, hk⟩ : ∃ k : Nat, t.g = k := ⟨t.g.toNat, by omega⟩
  have hkl : k < l.length := by omega
  have hl : lgAt l t.g = l[k] := by rw [hk, lgAt_get hkl]
  have ho := (net_at h1).2.1 k hkl
  refine ⟨h1, h4', k, hk, hkl, hl, ho, ?_⟩
  have := leg_bd ho
  unfold trS trE
  rw [hl]
  omega
/-- the end of the last trip, or a time where there is none -/
def lastE (l : List Lg) (at_ : Int) (ts : List Tp) : Int := match ts.getLast? with
  | none => at_
  | some t => trE l t
theorem lastE_nil (l : List Lg) (at_ : Int) : lastE l at_ [] = at_ := rfl
theorem lastE_take (l : List Lg) (at_ : Int) (ts : List Tp) (k : Nat) (hk : k < ts.length) : lastE l at_ (ts.take (k + 1)) = trE l ts[k] := by
  unfold lastE
  rw [List.take_add_one, List.getElem?_eq_getElem hk, Option.toList_some, List.getLast?_append]
  rfl
theorem lastE_all (l : List Lg) (at_ : Int) (ts : List Tp) (h : 0 < ts.length) : lastE l at_ ts = trE l (ts[ts.length - 1]'(by omega)) := by
  have := lastE_take l at_ ts (ts.length - 1) (by omega)
  rwa [show ts.length - 1 + 1 = ts.length by omega, List.take_length] at this
def wayE (l : List Lg) (zs : List Int) (x : Int) (ts : List Tp) (at_ : Int) : Int := if tripsB l zs x ts then lastE l at_ ts else -1
theorem wayE_no {l : List Lg} {zs : List Int} {x : Int} {ts : List Tp} {at_ : Int} (h : tripsB l zs x ts = false) : wayE l zs x ts at_ = -1 := by unfold wayE; rw [h]; rfl
theorem wayE_yes {l : List Lg} {zs : List Int} {x : Int} {ts : List Tp} {at_ : Int} (h : tripsB l zs x ts = true) : wayE l zs x ts at_ = lastE l at_ ts := by unfold wayE; rw [h]; rfl
/-- the least time between two trips that follow, behind the first k -/
def slackL (l : List Lg) (x : Int) (ts : List Tp) : Nat → Int
  | 0 => 100000
  | 1 => 100000
  | k + 2 => min (slackL l x ts (k + 1)) (trS l (ts.getD (k + 1) ⟨0, 0⟩) - trE l (ts.getD k ⟨0, 0⟩) - x)
def slackB (l : List Lg) (zs : List Int) (x : Int) (ts : List Tp) : Int := if tripsB l zs x ts then slackL l x ts ts.length else -1
theorem slackB_no {l : List Lg} {zs : List Int} {x : Int} {ts : List Tp} (h : tripsB l zs x ts = false) : slackB l zs x ts = -1 := by unfold slackB; rw [h]; rfl
theorem slackB_yes {l : List Lg} {zs : List Int} {x : Int} {ts : List Tp} (h : tripsB l zs x ts = true) : slackB l zs x ts = slackL l x ts ts.length := by unfold slackB; rw [h]; rfl
theorem slackL_one (l : List Lg) (x : Int) (ts : List Tp) (h : ts.length ≤ 1) : slackL l x ts ts.length = 100000 := by
  match e : ts.length, h with
  | 0, _ => rfl
  | 1, _ => rfl
theorem slackL_step (l : List Lg) (x : Int) (ts : List Tp) (k : Nat) (hk : k + 1 < ts.length) : slackL l x ts (k + 2) = min (slackL l x ts (k + 1)) (trS l ts[k + 1] - trE l (ts[k]'(by omega)) - x) := by
  unfold slackL
  have h1 : ts.getD (k + 1) ⟨0, 0⟩ = ts[k + 1] := by simp [List.getD, hk]
  have h2 : ts.getD k ⟨0, 0⟩ = ts[k]'(by omega) := by simp [List.getD, show k < ts.length by omega]
  rw [h1, h2]
  first | rfl | (cases k <;> rfl)
theorem slackL_bd (l : List Lg) (zs : List Int) (x : Int) (ts : List Tp) (hx : 0 ≤ x ∧ x ≤ 240) (h : ∀ j (hj : j < ts.length), trB l zs x ts[j] = true) : ∀ k, k ≤ ts.length → -1000000 ≤ slackL l x ts k ∧ slackL l x ts k ≤ 100000
  | 0, _ => by unfold slackL; omega
  | 1, _ => by unfold slackL; omega
  | k + 2, hk => by
    have h0 := slackL_bd l zs x ts hx h (k + 1) (by omega)
    rw [slackL_step l x ts k (by omega)]
    obtain ⟨_, _, _, _, _, _, _, h1, h2, h3⟩ := trB_of (h (k + 1) (by omega))
    obtain ⟨_, _, _, _, _, _, _, h4, h5, h6⟩ := trB_of (h k (by omega))
    omega
theorem slackL_bd' (l : List Lg) (zs : List Int) (x : Int) (ts : List Tp) (hx : 0 ≤ x ∧ x ≤ 240) : ∀ k, k ≤ ts.length → (∀ j (_ : j < ts.length), j < k → trB l zs x ts[j] = true) → -1000000 ≤ slackL l x ts k ∧ slackL l x ts k ≤ 100000
  | 0, _, _ => by unfold slackL; omega
  | 1, _, _ => by unfold slackL; omega
  | k + 2, hk, h => by
    have h0 := slackL_bd' l zs x ts hx (k + 1) (by omega) (fun j hj hjk => h j hj (by omega))
    rw [slackL_step l x ts k (by omega)]
    obtain ⟨_, _, _, _, _, _, _, h1, h2, h3⟩ := trB_of (h (k + 1) (by omega) (by omega))
    obtain ⟨_, _, _, _, _, _, _, h4, h5, h6⟩ := trB_of (h k (by omega) (by omega))
    omega
/-- trips that can be ridden one behind the other, from a place and a time on, to a place -/
def onB (l : List Lg) (zs : List Int) (x : Int) (to : ByteArray) : List Tp → ByteArray → Int → Bool
  | [], here, _ => decide (here = to)
  | t :: ts, here, ready => trB l zs x t && (decide ((lgAt l t.g).f = here) && (decide (ready ≤ trS l t) && onB l zs x to ts (lgAt l t.g).t (trE l t + x)))
theorem onB_nil {l : List Lg} {zs : List Int} {x : Int} {to here : ByteArray} {ready : Int} : onB l zs x to [] here ready = decide (here = to) := rfl
theorem onB_step {l : List Lg} {zs : List Int} {x : Int} {to here : ByteArray} {ready : Int} {ts : List Tp} {k : Nat} (hk : k < ts.length) :
    onB l zs x to (ts.drop k) here ready = (trB l zs x ts[k] && (decide ((lgAt l ts[k].g).f = here) && (decide (ready ≤ trS l ts[k]) && onB l zs x to (ts.drop (k + 1)) (lgAt l ts[k].g).t (trE l ts[k] + x)))) := by
  rw [List.drop_eq_getElem_cons hk]; rfl
end Go.Proofs.Ytamlbiagjipedaa

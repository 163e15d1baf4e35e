/- The plain mathematics of choices: each with more legs arrives earlier. -/
import Derived.Test.YtalciiajhlhecaaChoices
import Derived.Test.YtalciiajhlhecaaBestA
namespace Go.Proofs.Ytalciiajhlhecaa
open Go.RowKit
def lastC (l : List Ch) : Option Int := l.getLast?.map Ch.e
/-- a time for k legs: kept if it is earlier than all before -/
def pushC (l : List Ch) (k : Nat) : Option Int → List Ch
  | none => l
  | some e => match lastC l with
    | none => l ++ [⟨k, e⟩]
    | some b => if e < b then l ++ [⟨k, e⟩] else l
def chK (f : Nat → Option Int) : Nat → List Ch
  | 0 => []
  | k + 1 => pushC (chK f k) k (f k)
theorem lastC_push (l : List Ch) (c : Ch) : lastC (l ++ [c]) = some c.e := by simp [lastC]
theorem lastC_none {l : List Ch} (h : lastC l = none) : l = [] := by
  unfold lastC at h
  rw [Option.map_eq_none_iff] at h
  exact List.getLast?_eq_none_iff.1 h
theorem lastC_some {l : List Ch} {b : Int} (h : lastC l = some b) : ∃ hl : 0 < l.length, (l[l.length - 1]'(by omega)).e = b := by
  unfold lastC at h
  rw [List.getLast?_eq_getElem?] at h
  cases hl : l[l.length - 1]? with
  | none => rw [hl] at h; cases h
  | some c =>
    rw [hl] at h
    obtain ⟨hlt, e⟩ := List.getElem?_eq_some_iff.1 hl
    exact ⟨by omega, by rw [e]; exact Option.some.inj h⟩
theorem chK_len (f : Nat → Option Int) : ∀ k, (chK f k).length ≤ k
  | 0 => by simp [chK]
  | k + 1 => by
    have := chK_len f k
    unfold chK pushC
    split
    · omega
    · split
      · simp; omega
      · split
        · simp; omega
        · omega
/-- the last choice is no later than the last time that was there -/
theorem chK_last (f : Nat → Option Int) (k : Nat) (e : Int) (h : f k = some e) : ∃ b, lastC (chK f (k + 1)) = some b ∧ b ≤ e := by
  unfold chK
  rw [h]
  unfold pushC
  dsimp only
  cases hl : lastC (chK f k) with
  | none => exact ⟨e, lastC_push _ _, Int.le_refl _⟩
  | some b =>
    dsimp only
    split
    · exact ⟨e, lastC_push _ _, Int.le_refl _⟩
    · exact ⟨b, hl, by omega⟩
theorem chK_same (f : Nat → Option Int) (k : Nat) (h : f (k + 1) = f k) : chK f (k + 2) = chK f (k + 1) := by
  show pushC (chK f (k + 1)) (k + 1) (f (k + 1)) = chK f (k + 1)
  rw [h]
  cases hk : f k with
  | none => rfl
  | some e =>
    obtain ⟨b, hb, hbe⟩ := chK_last f k e hk
    unfold pushC
    dsimp only
    rw [hb]
    dsimp only
    rw [if_neg (by omega)]
theorem chK_stay (f : Nat → Option Int) (k : Nat) (h : ∀ j, k ≤ j → f j = f k) : ∀ m, chK f (k + 1 + m) = chK f (k + 1)
  | 0 => rfl
  | m + 1 => by
    rw [← chK_stay f k h m]
    exact chK_same f (k + m) (by rw [h (k + m + 1) (by omega), h (k + m) (by omega)]) |> fun e => by
      rw [show k + 1 + (m + 1) = k + m + 2 by omega, show k + 1 + m = k + m + 1 by omega]; exact e
theorem chK_none (f : Nat → Option Int) (h : ∀ j, f j = none) : ∀ k, chK f k = []
  | 0 => rfl
  | k + 1 => by
    show pushC (chK f k) k (f k) = []
    rw [h k, chK_none f h k]; rfl
theorem chK_congr {f g : Nat → Option Int} : ∀ k, (∀ j, j < k → f j = g j) → chK f k = chK g k
  | 0, _ => rfl
  | k + 1, h => by
    show pushC (chK f k) k (f k) = pushC (chK g k) k (g k)
    rw [chK_congr k (fun j hj => h j (by omega)), h k (by omega)]
/-- what ChoicesOf answers -/
def chB (l : List Lg) (zs : List Int) (x : Int) (fr to : ByteArray) (at_ : Int) : List Ch :=
  if bestOk l zs x fr at_ ((placesB l).length : Nat) then chK (fun k => arrT l zs x fr (max at_ 0) k to) ((placesB l).length + 1) else []
theorem ch_no {l : List Lg} {zs : List Int} {x : Int} {fr to : ByteArray} {at_ : Int} (h : ¬ bestOk l zs x fr at_ ((placesB l).length : Nat)) : chB l zs x fr to at_ = [] := if_neg h
theorem ch_yes {l : List Lg} {zs : List Int} {x : Int} {fr to : ByteArray} {at_ : Int} (h : bestOk l zs x fr at_ ((placesB l).length : Nat)) : chB l zs x fr to at_ = chK (fun k => arrT l zs x fr (max at_ 0) k to) ((placesB l).length + 1) := if_pos h
theorem ch_by {l : List Lg} {zs : List Int} {x : Int} {fr to : ByteArray} {at_ : Int} {bs : List Nat} (h : bestOk l zs x fr at_ ((placesB l).length : Nat)) (hb : ByL l zs x fr (max at_ 0) ((placesB l).length : Nat) bs) :
    chB l zs x fr to at_ = chK (fun k => arrT l zs x fr (max at_ 0) k to) bs.length := by
  rw [ch_yes h]
  have h1 := hb.pos; have h3 := hb.pl
  have hfix : arrT l zs x fr (max at_ 0) bs.length = arrT l zs x fr (max at_ 0) (bs.length - 1) := by
    rcases hb.fin with e | e
    · omega
    · exact e
  have := chK_stay (fun k => arrT l zs x fr (max at_ 0) k to) (bs.length - 1) (fun j hj => by
    show arrT l zs x fr (max at_ 0) j to = arrT l zs x fr (max at_ 0) (bs.length - 1) to
    rw [arr_same (k := bs.length - 1) (by rw [show bs.length - 1 + 1 = bs.length by omega]; exact hfix) hj]) ((placesB l).length + 1 - bs.length)
  rw [show bs.length - 1 + 1 + ((placesB l).length + 1 - bs.length) = (placesB l).length + 1 by omega, show bs.length - 1 + 1 = bs.length by omega] at this
  exact this
theorem ch_40 (l : List Lg) (zs : List Int) (x : Int) (fr to : ByteArray) (at_ : Int) : (chB l zs x fr to at_).length ≤ 100 := by
  by_cases h : bestOk l zs x fr at_ ((placesB l).length : Nat)
  · rw [ch_yes h]
    have := chK_len (fun k => arrT l zs x fr (max at_ 0) k to) ((placesB l).length + 1)
    have h1 := (net_at (serv_iff.1 h.1).1).1
    have h2 := placesB_len l
    omega
  · rw [ch_no h]; simp
end Go.Proofs.Ytalciiajhlhecaa

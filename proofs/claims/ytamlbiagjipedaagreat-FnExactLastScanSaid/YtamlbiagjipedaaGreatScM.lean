/- The plain mathematics of scans. Written by mk/scanv.py. -/
import Derived.Test.YtamlbiagjipedaaGreatBg
import Derived.Test.YtamlbiagjipedaaGreatBe
import Derived.Test.YtamlbiagjipedaaGreatBd
namespace Go.Proofs.YtamlbiagjipedaaGreat
open Go.RowKit
/-- Place, Trip and At are as the kind demands -/
def kindB (l : List Lg) (zs : List Int) (x : Int) (r : Sc) : Bool :=
  if r.k = 1 ∨ r.k = 4 then decide (r.g = 0 ∧ r.d = 0) && Lib.containsS (placesB l) r.p
  else if r.k = 3 then decide (r.p = ⟨#[]⟩) && (trB l zs x ⟨r.g, r.d⟩ && decide (r.a ≤ trS l ⟨r.g, r.d⟩))
  else if r.k = 2 then decide (r.p = ⟨#[]⟩) && (trB l zs x ⟨r.g, r.d⟩ && decide (trE l ⟨r.g, r.d⟩ ≤ r.a))
  else false
def scB (l : List Lg) (zs : List Int) (x : Int) (r : Sc) : Bool := netB l zs x && (decide (1 ≤ r.h ∧ r.h ≤ 9999) && (decide (0 ≤ r.a ∧ r.a ≤ 100000) && kindB l zs x r))
theorem str_emp {p : ByteArray} (h : ¬ p = ⟨#[]⟩) : p.toList.isEmpty = false := by
  cases e : p.toList.isEmpty with
  | false => rfl
  | true =>
    refine absurd ?_ h
    rw [ByteArray.toList_eq, List.isEmpty_iff] at e
    obtain ⟨⟨q⟩⟩ := p
    exact congrArg (fun l => (⟨⟨l⟩⟩ : ByteArray)) e
theorem kind_here {l : List Lg} {zs : List Int} {x : Int} {r : Sc} (h : r.k = 1 ∨ r.k = 4) : kindB l zs x r = (decide (r.g = 0 ∧ r.d = 0) && Lib.containsS (placesB l) r.p) := if_pos h
theorem kind_load {l : List Lg} {zs : List Int} {x : Int} {r : Sc} (h : r.k = 3) : kindB l zs x r = (decide (r.p = ⟨#[]⟩) && (trB l zs x ⟨r.g, r.d⟩ && decide (r.a ≤ trS l ⟨r.g, r.d⟩))) := by
  unfold kindB; rw [if_neg (by omega), if_pos h]
theorem kind_drop {l : List Lg} {zs : List Int} {x : Int} {r : Sc} (h : r.k = 2) : kindB l zs x r = (decide (r.p = ⟨#[]⟩) && (trB l zs x ⟨r.g, r.d⟩ && decide (trE l ⟨r.g, r.d⟩ ≤ r.a))) := by
  unfold kindB; rw [if_neg (by omega), if_neg (by omega), if_pos h]
theorem kind_none {l : List Lg} {zs : List Int} {x : Int} {r : Sc} (h1 : r.k ≠ 1) (h2 : r.k ≠ 2) (h3 : r.k ≠ 3) (h4 : r.k ≠ 4) : kindB l zs x r = false := by
  unfold kindB; rw [if_neg (by omega), if_neg (by omega), if_neg (by omega)]
theorem scB_iff {l : List Lg} {zs : List Int} {x : Int} {r : Sc} : scB l zs x r = true ↔ netB l zs x = true ∧ (1 ≤ r.h ∧ r.h ≤ 9999) ∧ (0 ≤ r.a ∧ r.a ≤ 100000) ∧ kindB l zs x r = true := by
  unfold scB; simp only [Bool.and_eq_true, decide_eq_true_eq]
/-- what a valid scan of a trip is -/
theorem sc_trip {l : List Lg} {zs : List Int} {x : Int} {r : Sc} (h : scB l zs x r = true) (hk : r.k = 2 ∨ r.k = 3) : trB l zs x ⟨r.g, r.d⟩ = true := by
  have h1 := (scB_iff.1 h).2.2.2
  rcases hk with e | e
  · rw [kind_drop e] at h1; simp only [Bool.and_eq_true] at h1; exact h1.2.1
  · rw [kind_load e] at h1; simp only [Bool.and_eq_true] at h1; exact h1.2.1
theorem sc_kind {l : List Lg} {zs : List Int} {x : Int} {r : Sc} (h : scB l zs x r = true) : r.k = 1 ∨ r.k = 2 ∨ r.k = 3 ∨ r.k = 4 := by
  have h1 := (scB_iff.1 h).2.2.2
  by_cases h2 : r.k = 1 ∨ r.k = 2 ∨ r.k = 3 ∨ r.k = 4
  · exact h2
  · rw [kind_none (by omega) (by omega) (by omega) (by omega)] at h1; cases h1
end Go.Proofs.YtamlbiagjipedaaGreat

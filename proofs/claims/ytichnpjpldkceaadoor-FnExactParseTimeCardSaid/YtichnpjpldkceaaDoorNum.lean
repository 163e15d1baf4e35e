/- Numerals: the numeral of a number is read as this number, and of no other. No program. -/
import Derived.Test.YtichnpjpldkceaaDoorDig2
import Derived.Lib.AtoiAllCases
namespace Go.Proofs.YtichnpjpldkceaaDoor
open Go.RowKit
theorem dec_digit (n : Nat) : ∀ c ∈ Lib.decDigits n, 48 ≤ c.toNat ∧ c.toNat ≤ 57 := by
  induction n using Nat.strongRecOn with
  | _ n ih =>
    intro c hc
    by_cases h : n < 10
    · rw [dec_last n h] at hc
      simp only [List.mem_singleton] at hc
      subst hc
      rw [UInt8.toNat_ofNat', Nat.mod_eq_of_lt (by omega)]; omega
    · rw [dec_step n (by omega), List.mem_append, List.mem_singleton] at hc
      rcases hc with hc | rfl
      · exact ih (n / 10) (by omega) c hc
      · rw [UInt8.toNat_ofNat', Nat.mod_eq_of_lt (by omega)]; omega
theorem dec_ne (n : Nat) : Lib.decDigits n ≠ [] := by
  by_cases h : n < 10
  · rw [dec_last n h]; simp
  · rw [dec_step n (by omega)]; simp
/-- the number that digits write -/
def dVal (l : List UInt8) : Nat := l.foldl (fun a c => a * 10 + (c.toNat - 48)) 0
theorem dVal_snoc (l : List UInt8) (c : UInt8) : dVal (l ++ [c]) = dVal l * 10 + (c.toNat - 48) := by
  unfold dVal; rw [List.foldl_append]; rfl
theorem dVal_dec (n : Nat) : dVal (Lib.decDigits n) = n := by
  induction n using Nat.strongRecOn with
  | _ n ih =>
    by_cases h : n < 10
    · rw [dec_last n h]
      simp only [dVal, List.foldl_cons, List.foldl_nil]
      rw [UInt8.toNat_ofNat', Nat.mod_eq_of_lt (by omega)]; omega
    · rw [dec_step n (by omega), dVal_snoc, ih (n / 10) (by omega), UInt8.toNat_ofNat', Nat.mod_eq_of_lt (by omega)]; omega
theorem dec_inj {a b : Nat} (h : Lib.decDigits a = Lib.decDigits b) : a = b := by
  rw [← dVal_dec a, h, dVal_dec]
theorem parse_app : ∀ (l r : List UInt8) (acc u : Nat), Lib.parseUint10 acc l = .ok u → Lib.parseUint10 acc (l ++ r) = Lib.parseUint10 u r
  | [], r, acc, u, h => by
    simp only [Lib.parseUint10] at h
    injection h with h
    subst h; rfl
  | c :: l, r, acc, u, h => by
    simp only [Lib.parseUint10, List.cons_append] at h ⊢
    split at h
    · rename_i h1
      rw [if_pos h1]
      split at h
      · cases h
      · rename_i h2
        rw [if_neg h2]
        split at h
        · cases h
        · rename_i h3
          rw [if_neg h3]
          exact parse_app l r _ u h
    · cases h
theorem parse_dec (n : Nat) (hn : n ≤ 1000000000) : Lib.parseUint10 0 (Lib.decDigits n) = .ok n := by
  induction n using Nat.strongRecOn with
  | _ n ih =>
    have one : ∀ u d : Nat, d < 10 → u ≤ 1000000000 → Lib.parseUint10 u [UInt8.ofNat (48 + d)] = .ok (u * 10 + d) := by
      intro u d hd hu
      have e : (UInt8.ofNat (48 + d)).toNat = 48 + d := by rw [UInt8.toNat_ofNat', Nat.mod_eq_of_lt (by omega)]
      simp only [Lib.parseUint10, e]
      rw [if_pos (by omega), if_neg (by omega), if_neg (by omega)]
      congr 1; omega
    by_cases h : n < 10
    · rw [dec_last n h, one 0 n h (by omega)]; congr 1; omega
    · rw [dec_step n (by omega), parse_app _ _ _ _ (ih (n / 10) (by omega) (by omega)), one _ _ (by omega) (by omega)]; congr 1; omega
theorem atoi_dec (n : Nat) (hn : n ≤ 1000000000) : Lib.atoiAll (Lib.decDigits n) = .ok n := by
  have hd := dec_digit n
  have hne := dec_ne n
  have hp := parse_dec n hn
  generalize Lib.decDigits n = l at *
  match l, hne with
  | c :: r, _ =>
    have hc := hd c (by simp)
    simp only [Lib.atoiAll]
    rw [if_neg (by omega)]
    unfold Lib.parseMag
    rw [if_neg (by simp), hp]
    simp only
    rw [if_neg (by omega), if_neg (by omega), if_neg (by omega)]
end Go.Proofs.YtichnpjpldkceaaDoor

/- The order of labels is an order. No program. -/
import Derived.Test.YtinijleelhbpoaaGreatCmp
import Derived.Test.YtinijleelhbpoaaGreatBa
namespace Go.Proofs.YtinijleelhbpoaaGreat
open Go.RowKit
theorem cmpS_neg (s t : ByteArray) : cmpS t s = - cmpS s t := by
 unfold cmpS
 cases h : Op.bytesLess s.toList t.toList with
 | true =>
  have h1 := bl_asymm _ _ h
  have h2 : ¬ t.toList = s.toList := fun e => by rw [e, bl_irrefl] at h; cases h
  rw [if_neg (by rw [h1]; decide), if_neg h2]; rfl
 | false =>
  cases h' : Op.bytesLess t.toList s.toList with
  | true =>
   have h2 : ¬ s.toList = t.toList := fun e => by rw [e, bl_irrefl] at h'; cases h'
   rw [if_neg h2]; rfl
  | false =>
   have e := bl_total _ _ h h'
   rw [if_pos e, if_pos e.symm]; rfl
theorem cmpS_zero (s t : ByteArray) : cmpS s t = 0 ↔ s.toList = t.toList := by
 unfold cmpS
 constructor
 ·intro h
  split at h
  ·cases h
  ·split at h
   ·assumption
   ·cases h
 ·intro e
  rw [if_neg (by rw [e, bl_irrefl]; decide), if_pos e]
theorem cmpS_val (s t : ByteArray) : cmpS s t = -1 ∨ cmpS s t = 0 ∨ cmpS s t = 1 := by
 unfold cmpS; split
 ·exact .inl rfl
 ·split
  ·exact .inr (.inl rfl)
  ·exact .inr (.inr rfl)
theorem cmpS_lt (s t : ByteArray) : cmpS s t = -1 ↔ Op.bytesLess s.toList t.toList = true := by
 unfold cmpS
 constructor
 ·intro h
  split at h
  ·assumption
  ·split at h <;> cases h
 ·intro h; rw [if_pos h]
theorem cmpS_trans (r s t : ByteArray) (h1 : cmpS r s ≤ 0) (h2 : cmpS s t ≤ 0) : cmpS r t ≤ 0 := by
 rcases cmpS_val r s with a | a | a
 ·rcases cmpS_val s t with b | b | b
  ·rw [(cmpS_lt r t).2 (bl_trans _ _ _ ((cmpS_lt r s).1 a) ((cmpS_lt s t).1 b))]; decide
  ·have := (cmpS_zero s t).1 b
   have h : Op.bytesLess r.toList t.toList = true := by rw [← this]; exact (cmpS_lt r s).1 a
   rw [(cmpS_lt r t).2 h]; decide
  ·omega
 ·have e := (cmpS_zero r s).1 a
  have : cmpS r t = cmpS s t := by unfold cmpS; rw [e]
  omega
 ·omega
theorem cmpI_cases (a b : Int) : (a < b ∧ cmpI a b = -1) ∨ (a = b ∧ cmpI a b = 0) ∨ (b < a ∧ cmpI a b = 1) := by
 unfold cmpI
 split
 ·omega
 ·split <;> omega
theorem cmpL_cases (a b : Int) (s : ByteArray) (a' b' : Int) (t : ByteArray) :
  cmpL a b s a' b' t = if a < a' then -1 else if a' < a then 1 else if b < b' then -1 else if b' < b then 1 else cmpS s t := by
 unfold cmpL orI
 rcases cmpI_cases a a' with ⟨h, e⟩ | ⟨h, e⟩ | ⟨h, e⟩ <;> rcases cmpI_cases b b' with ⟨h', e'⟩ | ⟨h', e'⟩ | ⟨h', e'⟩ <;> rw [e, e']
 all_goals (repeat' split) <;> first | rfl | omega
theorem cmpL_neg (a b : Int) (s : ByteArray) (a' b' : Int) (t : ByteArray) : cmpL a' b' t a b s = - cmpL a b s a' b' t := by
 rw [cmpL_cases, cmpL_cases, cmpS_neg s t]
 (repeat' split) <;> omega
theorem cmpL_val (a b : Int) (s : ByteArray) (a' b' : Int) (t : ByteArray) : -1 ≤ cmpL a b s a' b' t ∧ cmpL a b s a' b' t ≤ 1 := by
 rw [cmpL_cases]
 have := cmpS_val s t
 (repeat' split) <;> omega
theorem cmpL_zero (a b : Int) (s : ByteArray) (a' b' : Int) (t : ByteArray) : cmpL a b s a' b' t = 0 ↔ a = a' ∧ b = b' ∧ s.toList = t.toList := by
 rw [cmpL_cases, ← cmpS_zero s t]
 (repeat' split) <;> omega
theorem cmpL_trans (a b : Int) (s : ByteArray) (a' b' : Int) (t : ByteArray) (a'' b'' : Int) (u : ByteArray) (h1 : cmpL a b s a' b' t ≤ 0) (h2 : cmpL a' b' t a'' b'' u ≤ 0) : cmpL a b s a'' b'' u ≤ 0 := by
 rw [cmpL_cases] at *
 have h3 := cmpS_trans s t u
 have := cmpS_val s t; have := cmpS_val t u; have := cmpS_val s u
 (repeat' split at h1) <;> (repeat' split at h2) <;> (repeat' split) <;> omega
end Go.Proofs.YtinijleelhbpoaaGreat

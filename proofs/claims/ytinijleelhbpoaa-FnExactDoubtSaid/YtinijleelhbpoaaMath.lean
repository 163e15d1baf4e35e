/- The plain mathematics of labels: digits, the remainder by 97. No program. -/
import Derived.Test.YtinijleelhbpoaaLaw
import Derived.IntWalk
import Derived.Lib.Hide
namespace Go.Proofs.Ytinijleelhbpoaa
open Go.RowKit

def inB (x a b : Int) : Bool := decide (a ≤ x ∧ x ≤ b)
theorem inB_iff {x a b : Int} : inB x a b = true ↔ a ≤ x ∧ x ≤ b := by simp [inB]
theorem inB_not {x a b : Int} : inB x a b = false ↔ ¬ (a ≤ x ∧ x ≤ b) := by simp only [inB, decide_eq_false_iff_not]
def capB (c : UInt8) : Bool := inB c.toNat 65 90
def digB (c : UInt8) : Bool := inB c.toNat 48 57
def plcB (l : List UInt8) : Bool := l.length == 3 && l.all capB

theorem take_snoc (s : ByteArray) (k : Nat) (h : k < s.size) : s.data.toList.take (k + 1) = s.data.toList.take k ++ [s[k]] := by
  rw [List.take_succ_eq_append_getElem (by simpa using h)]; rfl
theorem mem_get (s : ByteArray) (k : Nat) (h : k < s.size) : s[k] ∈ s.data.toList := by
  have : s[k] = s.data.toList[k]'(by simpa using h) := rfl
  rw [this]; exact List.getElem_mem _
theorem take_all (s : ByteArray) (k : Nat) (h : s.size ≤ k) : s.data.toList.take k = s.data.toList := List.take_of_length_le (by simpa using h)
theorem all_no (s : ByteArray) (k : Nat) (h : k < s.size) (f : UInt8 → Bool) (hc : f s[k] = false) : s.data.toList.all f = false := by
  rw [List.all_eq_false]; exact ⟨_, mem_get s k h, by simp [hc]⟩
theorem w64b (c : UInt8) : wrap64 (c.toNat : Int) = c.toNat := IntWalk.wrap64_in _ (by have := c.toNat_lt; omega)
theorem plc_no (s : ByteArray) (k : Nat) (h : k < s.size) (hc : capB s[k] = false) : plcB s.data.toList = false := by
  unfold plcB
  simp [all_no s k h capB hc]
theorem ret_bool {a b : Bool} (h : a = b) : Ending.returned (.bool a) = .returned (.bool b) := by rw [h]
theorem ret_int {k : IntKind} {a b : Int} (h : a = b) : Ending.returned (.int k a) = .returned (.int k b) := by rw [h]
theorem val_int {k : IntKind} {a b : Int} (h : a = b) : Value.int k a = .int k b := by rw [h]

def m97 (l : List UInt8) : Int := l.foldl (fun r c => (10 * r + ((c.toNat : Int) - 48)) % 97) 0
theorem m97_snoc (l : List UInt8) (c : UInt8) : m97 (l ++ [c]) = (10 * m97 l + ((c.toNat : Int) - 48)) % 97 := by
  unfold m97; rw [List.foldl_append]; rfl
theorem m97_bd (l : List UInt8) : 0 ≤ m97 l ∧ m97 l < 97 := by
  rcases List.eq_nil_or_concat l with rfl | ⟨l', c, rfl⟩
  · exact ⟨by decide, by decide⟩
  · rw [List.concat_eq_append, m97_snoc]; omega
def mod97 (l : List UInt8) : Int := if l.isEmpty then -1 else if l.all digB then m97 l else -1
theorem mod97_nil : mod97 [] = -1 := rfl
theorem mod97_no (s : ByteArray) (k : Nat) (h : k < s.size) (hc : digB s[k] = false) : mod97 s.data.toList = -1 := by
  unfold mod97; rw [all_no s k h digB hc]; split <;> rfl
theorem mod97_yes (l : List UInt8) (h : l.isEmpty = false) (ha : l.all digB = true) : mod97 l = m97 l := by
  unfold mod97; rw [h, ha]; rfl
end Go.Proofs.Ytinijleelhbpoaa

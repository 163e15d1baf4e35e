/- What is proposed for a wrong label: the same list, whether all bytes are tried or digits and letters alone. No program. -/
import Derived.Test.YtphcjppdmdmejaaDoorFnOneChange
namespace Go.Proofs.YtphcjppdmdmejaaDoor
open Go.RowKit
def ValT (t : ByteArray) : Prop := ∃ a b y, IsLab t a b y
open Classical in
noncomputable def cand (s : ByteArray) (i : Nat) (c : UInt8) : List ByteArray := if ValT (changed s i c) ∧ s.data.toList[i]? ≠ some c then [changed s i c] else []
def chr36 (j : Nat) : UInt8 := UInt8.ofNat (if j ≤ 9 then 48 + j else 55 + j)
def chars36 : List UInt8 := (List.range 36).map chr36
def bytes256 : List UInt8 := (List.range 256).map UInt8.ofNat
noncomputable def amRow (s : ByteArray) (i : Nat) : List ByteArray := chars36.flatMap (cand s i)
noncomputable def amTo (s : ByteArray) (i : Nat) : List ByteArray := (List.range i).flatMap (amRow s)
noncomputable def amL (s : ByteArray) : List ByteArray := if s.size = 15 then amTo s 15 else []
theorem cand_none (s : ByteArray) (i : Nat) (hi : i < 15) (h15 : s.size = 15) (c : UInt8) (h : okB c = false) : cand s i c = [] := by
  unfold cand
  rw [if_neg]
  rintro ⟨⟨a, b, y, hl⟩, _⟩
  have hc := changed_list s i c
  have hlen : s.data.toList.length = 15 := by simpa using h15
  have htl : (s.data.toList.take i).length = i := by rw [List.length_take]; omega
  have hi' : i < (changed s i c).data.toList.length := by rw [hc]; simp; omega
  have e : (changed s i c).data.toList[i] = c := by
    simp only [hc]
    rw [List.getElem_append_right (by omega)]
    simp [htl]
  rcases lab_class hl i hi' with ⟨_, _, k⟩ | ⟨_, k⟩
  · rw [e] at k; unfold okB at h; rw [k] at h; simp at h
  · rw [e] at k; unfold okB at h; rw [k] at h; simp at h
theorem flatMap_filter_none {α β : Type} (p : α → Bool) (f : α → List β) : ∀ l : List α, (∀ x ∈ l, p x = false → f x = []) → l.flatMap f = (l.filter p).flatMap f
  | [], _ => rfl
  | x :: l, h => by
    have ih := flatMap_filter_none p f l (fun y hy => h y (by simp [hy]))
    cases hp : p x with
    | true => rw [List.filter_cons_of_pos (by simpa using hp), List.flatMap_cons, List.flatMap_cons, ih]
    | false => rw [List.filter_cons_of_neg (by simp [hp]), List.flatMap_cons, h x (by simp) hp, ih]; rfl
theorem bytes_ok : bytes256.filter okB = chars36 := by decide +kernel
theorem row_bytes (s : ByteArray) (i : Nat) (hi : i < 15) (h15 : s.size = 15) : bytes256.flatMap (cand s i) = amRow s i := by
  rw [flatMap_filter_none okB (cand s i) bytes256 (fun c _ hc => cand_none s i hi h15 c hc), bytes_ok]; rfl
theorem amTo_succ (s : ByteArray) (i : Nat) : amTo s (i + 1) = amTo s i ++ amRow s i := by
  unfold amTo; rw [List.range_succ, List.flatMap_append]; simp
theorem chars_succ (s : ByteArray) (i j : Nat) (hj : j < 36) : (chars36.take (j + 1)).flatMap (cand s i) = (chars36.take j).flatMap (cand s i) ++ cand s i (chr36 j) := by
  rw [List.take_succ_eq_append_getElem (by simp [chars36]; omega), List.flatMap_append]
  simp [chars36]
theorem bytes_succ (s : ByteArray) (i j : Nat) (hj : j < 256) : (bytes256.take (j + 1)).flatMap (cand s i) = (bytes256.take j).flatMap (cand s i) ++ cand s i (UInt8.ofNat j) := by
  rw [List.take_succ_eq_append_getElem (by simp [bytes256]; omega), List.flatMap_append]
  simp [bytes256]
theorem cand_yes (s : ByteArray) (i : Nat) (c : UInt8) (h : ValT (changed s i c)) (hn : s.data.toList[i]? ≠ some c) : cand s i c = [changed s i c] := by unfold cand; rw [if_pos ⟨h, hn⟩]
theorem cand_no (s : ByteArray) (i : Nat) (c : UInt8) (h : ¬ (ValT (changed s i c) ∧ s.data.toList[i]? ≠ some c)) : cand s i c = [] := by unfold cand; rw [if_neg h]
theorem cand_len (s : ByteArray) (i : Nat) (c : UInt8) : (cand s i c).length ≤ 1 := by unfold cand; split <;> simp
theorem flat_len (s : ByteArray) (i : Nat) : ∀ l : List UInt8, (l.flatMap (cand s i)).length ≤ l.length
  | [] => by simp
  | c :: l => by
    have := flat_len s i l; have := cand_len s i c
    rw [List.flatMap_cons, List.length_append, List.length_cons]; omega
theorem amTo_len (s : ByteArray) : ∀ i, (amTo s i).length ≤ 36 * i
  | 0 => by simp [amTo]
  | i + 1 => by
    have := amTo_len s i
    have h := flat_len s i chars36
    have : chars36.length = 36 := by simp [chars36]
    rw [amTo_succ, List.length_append]
    unfold amRow
    omega
end Go.Proofs.YtphcjppdmdmejaaDoor

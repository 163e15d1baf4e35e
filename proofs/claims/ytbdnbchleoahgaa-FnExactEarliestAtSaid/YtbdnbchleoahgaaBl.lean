/- The order of texts. No program. -/
import Derived.Test.YtbdnbchleoahgaaMath
import Derived.WalkSpells
import Derived.WalkLawsBesides
namespace Go.Proofs.Ytbdnbchleoahgaa
open Go.RowKit
theorem bl_irrefl : ∀ x : List UInt8, Op.bytesLess x x = false
  | [] => rfl
  | a :: x => by simp [Op.bytesLess, bl_irrefl x]
theorem bl_cons (a b : UInt8) (x y : List UInt8) : Op.bytesLess (a :: x) (b :: y) = true ↔ a < b ∨ (a = b ∧ Op.bytesLess x y = true) := by simp [Op.bytesLess]
theorem bl_asymm : ∀ x y : List UInt8, Op.bytesLess x y = true → Op.bytesLess y x = false
  | _, [], h => by cases ‹List UInt8› <;> simp [Op.bytesLess] at h
  | [], b :: y, _ => rfl
  | a :: x, b :: y, h => by
    rcases (bl_cons a b x y).1 h with h | ⟨rfl, k⟩
    · cases hh : Op.bytesLess (b :: y) (a :: x) with
      | false => rfl
      | true =>
        rcases (bl_cons b a y x).1 hh with h' | ⟨rfl, _⟩
        · exact absurd (UInt8.lt_trans h h') (UInt8.lt_irrefl _)
        · exact absurd h (UInt8.lt_irrefl _)
    · cases hh : Op.bytesLess (a :: y) (a :: x) with
      | false => rfl
      | true =>
        rcases (bl_cons a a y x).1 hh with h' | ⟨_, h'⟩
        · exact absurd h' (UInt8.lt_irrefl _)
        · rw [bl_asymm x y k] at h'; cases h'
theorem bl_total : ∀ x y : List UInt8, Op.bytesLess x y = false → Op.bytesLess y x = false → x = y
  | [], [], _, _ => rfl
  | [], b :: y, h, _ => by simp [Op.bytesLess] at h
  | a :: x, [], _, h => by simp [Op.bytesLess] at h
  | a :: x, b :: y, h, h' => by
    have n1 : ¬ (a < b ∨ (a = b ∧ Op.bytesLess x y = true)) := fun k => by rw [(bl_cons a b x y).2 k] at h; cases h
    have n2 : ¬ (b < a ∨ (b = a ∧ Op.bytesLess y x = true)) := fun k => by rw [(bl_cons b a y x).2 k] at h'; cases h'
    have e : a = b := by
      have m1 : ¬ a < b := fun k => n1 (.inl k)
      have m2 : ¬ b < a := fun k => n2 (.inl k)
      rw [UInt8.lt_iff_toNat_lt] at m1 m2
      exact UInt8.toNat_inj.1 (by omega)
    subst e
    rw [bl_total x y (by cases k : Op.bytesLess x y with | false => rfl | true => exact absurd (.inr ⟨rfl, k⟩) n1) (by cases k : Op.bytesLess y x with | false => rfl | true => exact absurd (.inr ⟨rfl, k⟩) n2)]
theorem bl_trans : ∀ x y z : List UInt8, Op.bytesLess x y = true → Op.bytesLess y z = true → Op.bytesLess x z = true
  | _, _, [], _, h => by cases ‹List UInt8› <;> simp [Op.bytesLess] at h
  | [], _, c :: z, _, _ => rfl
  | a :: x, [], _, h, _ => by simp [Op.bytesLess] at h
  | a :: x, b :: y, c :: z, h, h' => by
    rcases (bl_cons a b x y).1 h with h | ⟨rfl, k⟩
    · rcases (bl_cons b c y z).1 h' with h' | ⟨rfl, _⟩
      · exact (bl_cons a c x z).2 (.inl (UInt8.lt_trans h h'))
      · exact (bl_cons a b x z).2 (.inl h)
    · rcases (bl_cons a c y z).1 h' with h' | ⟨rfl, k'⟩
      · exact (bl_cons a c x z).2 (.inl h')
      · exact (bl_cons a a x z).2 (.inr ⟨rfl, bl_trans x y z k k'⟩)
theorem le_not (x y : List UInt8) : (Op.bytesLess x y || x == y) = !Op.bytesLess y x := by
  cases h : Op.bytesLess x y with
  | true => rw [bl_asymm _ _ h]; rfl
  | false =>
    cases h' : Op.bytesLess y x with
    | true =>
      have : x ≠ y := fun e => by rw [e, bl_irrefl] at h'; cases h'
      simp [this]
    | false => simp [bl_total _ _ h h']
end Go.Proofs.Ytbdnbchleoahgaa

/- The translation's head, word by word. -/
import Derived.Test.YtinijleelhbpoaaRows
namespace Go.Proofs.Ytinijleelhbpoaa
theorem words_sp (r : List Char) : wordsSigns (Char.ofNat 32 :: r) = [] :: wordsSigns r := by rw [wordsSigns.eq_def]; rfl
theorem words_ch {c : Char} (hc : c ≠ Char.ofNat 32) {r w : List Char} {ws : List (List Char)} (h : wordsSigns r = w :: ws) : wordsSigns (c :: r) = (c :: w) :: ws := by
  rw [wordsSigns.eq_def]
  split
  · rename_i e; cases e
  · rename_i e; exact absurd (List.cons.inj e).1 hc
  · rename_i e; obtain ⟨rfl, rfl⟩ := List.cons.inj e; rw [h]
theorem words_word (r : List Char) : ∀ l : List Char, (∀ c ∈ l, c ≠ Char.ofNat 32) → wordsSigns (l ++ Char.ofNat 32 :: r) = l :: wordsSigns r
  | [], _ => words_sp r
  | c :: l, h => words_ch (h c (by simp)) (words_word r l (fun x hx => h x (by simp [hx])))
def headL : List Nat := [104, 97, 114, 110, 101, 115, 115, 32, 49, 52, 99, 100, 102, 100, 99, 101, 54, 98, 102, 57, 53, 99, 102, 100, 53, 97, 102, 54, 48, 100, 56, 100, 49, 100, 51, 102, 52, 49, 99, 57, 53, 102, 54, 56, 98, 99, 51, 101, 55, 101, 99, 49, 54, 51, 51, 51, 56, 50, 50, 100, 101, 101, 56, 53, 57, 55, 50, 54, 49, 53, 55, 48, 32, 99, 117, 116, 32, 97, 116, 32, 108, 111, 111, 112, 46, 101, 120, 97, 109, 112, 108, 101, 47, 103, 48, 51, 48, 49, 52, 47, 108, 97, 119, 115, 46, 70, 110, 69, 120, 97, 99, 116, 68, 111, 117, 98, 116]
set_option maxRecDepth 100000 in
theorem head_lit : Try.prog.initOrder = String.ofList (headL.map Char.ofNat) := by kernel_rfl
theorem head_list : Try.prog.initOrder.toList = headL.map Char.ofNat := by rw [head_lit, String.toList_ofList]
/-- what stands behind the third word -/
def headR : List Char := (headL.drop 77).map Char.ofNat
theorem head_words : wordsSigns Try.prog.initOrder.toList = (headL.take 7).map Char.ofNat :: ((headL.drop 8).take 64).map Char.ofNat :: ((headL.drop 73).take 3).map Char.ofNat :: wordsSigns headR := by
  have h1 : headL.map Char.ofNat = (headL.take 7).map Char.ofNat ++ Char.ofNat 32 :: (headL.drop 8).map Char.ofNat := by kernel_rfl
  have h2 : (headL.drop 8).map Char.ofNat = ((headL.drop 8).take 64).map Char.ofNat ++ Char.ofNat 32 :: (headL.drop 73).map Char.ofNat := by kernel_rfl
  have h3 : (headL.drop 73).map Char.ofNat = ((headL.drop 73).take 3).map Char.ofNat ++ Char.ofNat 32 :: headR := by kernel_rfl
  rw [head_list, h1, words_word _ _ (by decide +kernel), h2, words_word _ _ (by decide +kernel), h3, words_word _ _ (by decide +kernel)]
end Go.Proofs.Ytinijleelhbpoaa

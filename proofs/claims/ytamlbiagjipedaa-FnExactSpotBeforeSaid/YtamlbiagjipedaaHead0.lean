/- The translation's head, word by word. -/
import Derived.Test.YtamlbiagjipedaaRows
namespace Go.Proofs.Ytamlbiagjipedaa
theorem words_sp (r : List Char) : wordsSigns (Char.ofNat 32 :: r) = [] :: wordsSigns r := by rw [wordsSigns.eq_def]; rfl
theorem words_ch {c : Char} (hc : c ≠ Char.ofNat 32) {r w : List Char} {ws : List (List Char)} (h : wordsSigns r = w :: ws) : wordsSigns (c :: r) = (c :: w) :: ws := by
  rw [wordsSigns.eq_def]
  split
  · rename_i e; cases e
  · rename_i e; exact absurd (List.cons.inj e).1 hc
  · rename_i e; obtain ⟨rfl, rfl⟩ := List.cons.inj e; rw [h]
theorem words_word (r : List Char) : ∀ l : List Char, (∀ c ∈ l, c ≠ Char.ofNat 32) → wordsSigns (l ++ Char.ofNat 32 :: r) = l :: wordsSigns r
  | [], _ => words_sp r
  | c :: l, h => words_ch (h c (by simp)) (words_word r l (fun x hx => h x (by simp [hx])))
def headL : List Nat := [104, 97, 114, 110, 101, 115, 115, 32, 56, 99, 51, 55, 52, 54, 99, 101, 100, 54, 55, 55, 52, 51, 49, 55, 97, 102, 50, 97, 53, 102, 49, 54, 101, 55, 56, 101, 57, 98, 57, 101, 101, 102, 51, 97, 102, 56, 56, 49, 57, 56, 102, 52, 102, 48, 51, 99, 57, 56, 55, 50, 56, 98, 48, 56, 98, 97, 50, 97, 97, 54, 98, 55, 32, 99, 117, 116, 32, 97, 116, 32, 108, 111, 111, 112, 46, 101, 120, 97, 109, 112, 108, 101, 47, 103, 48, 51, 48, 49, 52, 47, 108, 97, 119, 115, 46, 70, 110, 69, 120, 97, 99, 116, 70, 105, 110, 100, 87, 97, 121, 32, 108, 111, 111, 112, 46, 101, 120, 97, 109, 112, 108, 101, 47, 103, 48, 51, 48, 49, 52, 47, 108, 97, 119, 115, 46, 70, 110, 69, 120, 97, 99, 116, 73, 115, 83, 99, 97, 110, 32, 108, 111, 111, 112, 46, 101, 120, 97, 109, 112, 108, 101, 47, 103, 48, 51, 48, 49, 52, 47, 108, 97, 119, 115, 46, 70, 110, 69, 120, 97, 99, 116, 80, 108, 97, 99, 101, 79, 102, 32, 108, 111, 111, 112, 46, 101, 120, 97, 109, 112, 108, 101, 47, 103, 48, 51, 48, 49, 52, 47, 108, 97, 119, 115, 46, 70, 110, 69, 120, 97, 99, 116, 67, 111, 109, 112, 97, 114, 101, 83, 99, 97, 110, 115, 32, 108, 111, 111, 112, 46, 101, 120, 97, 109, 112, 108, 101, 47, 103, 48, 51, 48, 49, 52, 47, 108, 97, 119, 115, 46, 70, 110, 69, 120, 97, 99, 116, 83, 112, 111, 116, 66, 101, 104, 105, 110, 100, 32, 108, 111, 111, 112, 46, 101, 120, 97, 109, 112, 108, 101, 47, 103, 48, 51, 48, 49, 52, 47, 108, 97, 119, 115, 46, 70, 110, 69, 120, 97, 99, 116, 83, 112, 111, 116, 66, 101, 102, 111, 114, 101]
set_option maxRecDepth 100000 in
theorem head_lit : Try.prog.initOrder = String.ofList (headL.map Char.ofNat) := by kernel_rfl
theorem head_list : Try.prog.initOrder.toList = headL.map Char.ofNat := by rw [head_lit, String.toList_ofList]
/-- what stands behind the third word -/
def headR : List Char := (headL.drop 77).map Char.ofNat
theorem head_words : wordsSigns Try.prog.initOrder.toList = (headL.take 7).map Char.ofNat :: ((headL.drop 8).take 64).map Char.ofNat :: ((headL.drop 73).take 3).map Char.ofNat :: wordsSigns headR := by
  have h1 : headL.map Char.ofNat = (headL.take 7).map Char.ofNat ++ Char.ofNat 32 :: (headL.drop 8).map Char.ofNat := by kernel_rfl
  have h2 : (headL.drop 8).map Char.ofNat = ((headL.drop 8).take 64).map Char.ofNat ++ Char.ofNat 32 :: (headL.drop 73).map Char.ofNat := by kernel_rfl
  have h3 : (headL.drop 73).map Char.ofNat = ((headL.drop 73).take 3).map Char.ofNat ++ Char.ofNat 32 :: headR := by kernel_rfl
  rw [head_list, h1, words_word _ _ (by decide +kernel), h2, words_word _ _ (by decide +kernel), h3, words_word _ _ (by decide +kernel)]
end Go.Proofs.Ytamlbiagjipedaa

/- Several texts in one: Head0 Head1 HeadA HeadB HeadC. -/
import Derived.Test.YtadcmngooobeiabGreatRows
/- The translation's head, word by word. -/
namespace Go.Proofs.YtadcmngooobeiabGreat
theorem words_sp (r : List Char) : wordsSigns (Char.ofNat 32 :: r) = [] :: wordsSigns r := by rw [wordsSigns.eq_def]; rfl
theorem words_ch {c : Char} (hc : c ≠ Char.ofNat 32) {r w : List Char} {ws : List (List Char)} (h : wordsSigns r = w :: ws) : wordsSigns (c :: r) = (c :: w) :: ws := by
  rw [wordsSigns.eq_def]
  split
  · rename_i e; cases e
  · rename_i e; exact absurd (List.cons.inj e).1 hc
  · rename_i e; obtain ⟨rfl, rfl⟩ := List.cons.inj e; rw [h]
theorem words_word (r : List Char) : ∀ l : List Char, (∀ c ∈ l, c ≠ Char.ofNat 32) → wordsSigns (l ++ Char.ofNat 32 :: r) = l :: wordsSigns r
  | [], _ => words_sp r
  | c :: l, h => words_ch (h c (by simp)) (words_word r l (fun x hx => h x (by simp [hx])))
def headL : List Nat := [104, 97, 114, 110, 101, 115, 115, 32, 102, 102, 48, 56, 52, 54, 54, 57, 53, 98, 49, 49, 52, 49, 100, 51, 51, 102, 100, 102, 52, 97, 49, 56, 54, 51, 53, 49, 49, 102, 51, 53, 51, 98, 98, 57, 97, 49, 97, 98, 48, 57, 50, 51, 99, 53, 53, 50, 102, 51, 49, 52, 102, 100, 55, 51, 55, 48, 56, 48, 101, 102, 53, 102, 32, 99, 117, 116, 32, 97, 116, 32, 108, 111, 111, 112, 46, 101, 120, 97, 109, 112, 108, 101, 47, 103, 48, 51, 48, 49, 52, 47, 108, 97, 119, 115, 46, 70, 110, 69, 120, 97, 99, 116, 87, 97, 105, 116, 105, 110, 103, 65, 116, 32, 108, 111, 111, 112, 46, 101, 120, 97, 109, 112, 108, 101, 47, 103, 48, 51, 48, 49, 52, 47, 108, 97, 119, 115, 46, 70, 110, 69, 120, 97, 99, 116, 82, 105, 100, 105, 110, 103, 79, 110, 32, 108, 111, 111, 112, 46, 101, 120, 97, 109, 112, 108, 101, 47, 103, 48, 51, 48, 49, 52, 47, 108, 97, 119, 115, 46, 70, 110, 69, 120, 97, 99, 116, 80, 108, 97, 110, 110, 101, 100, 69, 110, 100, 32, 108, 111, 111, 112, 46, 101, 120, 97, 109, 112, 108, 101, 47, 103, 48, 51, 48, 49, 52, 47, 108, 97, 119, 115, 46, 70, 110, 69, 120, 97, 99, 116, 76, 97, 116, 101, 79, 114, 100, 101, 114, 115]
set_option maxRecDepth 100000 in
theorem head_lit : Tryz.prog.initOrder = String.ofList (headL.map Char.ofNat) := by kernel_rfl
theorem head_list : Tryz.prog.initOrder.toList = headL.map Char.ofNat := by rw [head_lit, String.toList_ofList]
/-- what stands behind the third word -/
def headR : List Char := (headL.drop 77).map Char.ofNat
theorem head_words : wordsSigns Tryz.prog.initOrder.toList = (headL.take 7).map Char.ofNat :: ((headL.drop 8).take 64).map Char.ofNat :: ((headL.drop 73).take 3).map Char.ofNat :: wordsSigns headR := by
  have h1 : headL.map Char.ofNat = (headL.take 7).map Char.ofNat ++ Char.ofNat 32 :: (headL.drop 8).map Char.ofNat := by kernel_rfl
  have h2 : (headL.drop 8).map Char.ofNat = ((headL.drop 8).take 64).map Char.ofNat ++ Char.ofNat 32 :: (headL.drop 73).map Char.ofNat := by kernel_rfl
  have h3 : (headL.drop 73).map Char.ofNat = ((headL.drop 73).take 3).map Char.ofNat ++ Char.ofNat 32 :: headR := by kernel_rfl
  rw [head_list, h1, words_word _ _ (by decide +kernel), h2, words_word _ _ (by decide +kernel), h3, words_word _ _ (by decide +kernel)]
end Go.Proofs.YtadcmngooobeiabGreat

/- What a head 'harness SUM cut ..' says, for any program. -/
namespace Go.Proofs.YtadcmngooobeiabGreat
theorem strip_none (c : List Char) (r : List (List Char)) : ∀ os : List String, (∀ o ∈ os, (c == o.toList) = false) → stripLifts os (c :: r) = ([], c :: r)
  | [], _ => rfl
  | o :: os, h => by
    have h1 := h o (by simp)
    have h2 := strip_none c r os (fun x hx => h x (by simp [hx]))
    rw [stripLifts, h1, h2]; rfl
section
variable {P : Program} {a b c : List Char} {r : List (List Char)}
theorem make_gen (h : wordsSigns P.initOrder.toList = a :: b :: c :: r) (hb : behindMainWord (a :: b :: c :: r) = c :: r) (h1 : (c == "gc".toList) = false) (h2 : (c == "spec".toList) = false) (h3 : (c == "cut".toList) = true) : P.make = some .cut := by
  unfold Program.make
  rw [h, hb]
  dsimp only
  rw [if_neg (by rw [h1, h2]; decide), if_pos (by rw [h3]; rfl)]
theorem lifts_gen (h : wordsSigns P.initOrder.toList = a :: b :: c :: r) (hb : behindMainWord (a :: b :: c :: r) = c :: r) (hs : stripLifts liftWords (c :: r) = ([], c :: r)) (h4 : (c == "carried".toList) = false) : P.liftsFinal = false := by
  have hl : P.headLifts = [] := by
    unfold Program.headLifts
    rw [h, hb, hs]
    simp
  unfold Program.liftsFinal
  rw [hl, h, hb]
  have h5 : ((c :: r).head? == some "carried".toList) = false := h4
  dsimp only
  rw [h5]
  rfl
theorem enter_gen (h : wordsSigns P.initOrder.toList = a :: b :: c :: r) (hb : behindMainWord (a :: b :: c :: r) = c :: r) (hs : stripLifts liftWords (c :: r) = ([], c :: r)) (h3 : (c == "cut".toList) = true) (hl : P.laysLater = false) (hr : P.bearsReflect = false) (hd : P.doorFits [] = true) : P.mayEnter = true := by
  unfold Program.mayEnter
  rw [h, hb]
  have h5 : ((c :: r).head? == some "cut".toList) = true := h3
  dsimp only
  rw [hs]
  dsimp only
  rw [h5, hl, hr, hd]
  generalize ((c == "gc".toList || c == "spec".toList) && (r.isEmpty || r.head? == some "stop".toList)) = x
  generalize (c == "carried".toList && List.take 2 r == ["gc".toList, "cut".toList]) = y
  cases x <;> cases y <;> rfl
end
theorem head_behind (R : List (List Char)) : behindMainWord ((headL.take 7).map Char.ofNat :: ((headL.drop 8).take 64).map Char.ofNat :: ((headL.drop 73).take 3).map Char.ofNat :: R) = ((headL.drop 73).take 3).map Char.ofNat :: R := by kernel_rfl
theorem head_gc : (((headL.drop 73).take 3).map Char.ofNat == "gc".toList) = false := by kernel_rfl
theorem head_spec : (((headL.drop 73).take 3).map Char.ofNat == "spec".toList) = false := by kernel_rfl
theorem head_cut : (((headL.drop 73).take 3).map Char.ofNat == "cut".toList) = true := by kernel_rfl
theorem head_carried : (((headL.drop 73).take 3).map Char.ofNat == "carried".toList) = false := by kernel_rfl
theorem head_lifts : (liftWords.all fun o => !(((headL.drop 73).take 3).map Char.ofNat == o.toList)) = true := by kernel_rfl
theorem head_strip (R : List (List Char)) : stripLifts liftWords (((headL.drop 73).take 3).map Char.ofNat :: R) = ([], ((headL.drop 73).take 3).map Char.ofNat :: R) :=
  strip_none _ R liftWords (fun o ho => by have := List.all_eq_true.1 head_lifts o ho; simpa using this)
end Go.Proofs.YtadcmngooobeiabGreat

/- What the translation's head says: make_ok. -/
namespace Go.Proofs.YtadcmngooobeiabGreat
theorem make_ok : Tryz.prog.make = some .cut := make_gen head_words (head_behind _) head_gc head_spec head_cut
end Go.Proofs.YtadcmngooobeiabGreat

/- What the translation's head says: lifts_ok. -/
namespace Go.Proofs.YtadcmngooobeiabGreat
theorem lifts_ok : Tryz.prog.liftsFinal = false := lifts_gen head_words (head_behind _) (head_strip _) head_carried
end Go.Proofs.YtadcmngooobeiabGreat

/- What the translation's head says: enter_ok. -/
namespace Go.Proofs.YtadcmngooobeiabGreat
theorem later_no : Tryz.prog.laysLater = false := by kernel_rfl
theorem reflect_no : Tryz.prog.bearsReflect = false := by kernel_rfl
theorem door_ok : Tryz.prog.doorFits [] = true := by kernel_rfl
theorem enter_ok : Tryz.prog.mayEnter = true := enter_gen head_words (head_behind _) (head_strip _) head_cut later_no reflect_no door_ok
end Go.Proofs.YtadcmngooobeiabGreat

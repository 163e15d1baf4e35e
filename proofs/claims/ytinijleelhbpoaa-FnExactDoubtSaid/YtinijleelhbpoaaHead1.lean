/- What a head 'harness SUM cut ..' says, for any program. -/
import Derived.Test.YtinijleelhbpoaaHead0
namespace Go.Proofs.Ytinijleelhbpoaa
theorem strip_none (c : List Char) (r : List (List Char)) : ∀ os : List String, (∀ o ∈ os, (c == o.toList) = false) → stripLifts os (c :: r) = ([], c :: r)
  | [], _ => rfl
  | o :: os, h => by
    have h1 := h o (by simp)
    have h2 := strip_none c r os (fun x hx => h x (by simp [hx]))
    rw [stripLifts, h1, h2]; rfl
section
variable {P : Program} {a b c : List Char} {r : List (List Char)}
theorem make_gen (h : wordsSigns P.initOrder.toList = a :: b :: c :: r) (hb : behindMainWord (a :: b :: c :: r) = c :: r) (h1 : (c == "gc".toList) = false) (h2 : (c == "spec".toList) = false) (h3 : (c == "cut".toList) = true) : P.make = some .cut := by
  unfold Program.make
  rw [h, hb]
  dsimp only
  rw [if_neg (by rw [h1, h2]; decide), if_pos (by rw [h3]; rfl)]
theorem lifts_gen (h : wordsSigns P.initOrder.toList = a :: b :: c :: r) (hb : behindMainWord (a :: b :: c :: r) = c :: r) (hs : stripLifts liftWords (c :: r) = ([], c :: r)) (h4 : (c == "carried".toList) = false) : P.liftsFinal = false := by
  have hl : P.headLifts = [] := by
    unfold Program.headLifts
    rw [h, hb, hs]
    simp
  unfold Program.liftsFinal
  rw [hl, h, hb]
  have h5 : ((c :: r).head? == some "carried".toList) = false := h4
  dsimp only
  rw [h5]
  rfl
theorem enter_gen (h : wordsSigns P.initOrder.toList = a :: b :: c :: r) (hb : behindMainWord (a :: b :: c :: r) = c :: r) (hs : stripLifts liftWords (c :: r) = ([], c :: r)) (h3 : (c == "cut".toList) = true) (hl : P.laysLater = false) (hr : P.bearsReflect = false) (hd : P.doorFits [] = true) : P.mayEnter = true := by
  unfold Program.mayEnter
  rw [h, hb]
  have h5 : ((c :: r).head? == some "cut".toList) = true := h3
  dsimp only
  rw [hs]
  dsimp only
  rw [h5, hl, hr, hd]
  generalize ((c == "gc".toList || c == "spec".toList) && (r.isEmpty || r.head? == some "stop".toList)) = x
  generalize (c == "carried".toList && List.take 2 r == ["gc".toList, "cut".toList]) = y
  cases x <;> cases y <;> rfl
end
theorem head_behind (R : List (List Char)) : behindMainWord ((headL.take 7).map Char.ofNat :: ((headL.drop 8).take 64).map Char.ofNat :: ((headL.drop 73).take 3).map Char.ofNat :: R) = ((headL.drop 73).take 3).map Char.ofNat :: R := by kernel_rfl
theorem head_gc : (((headL.drop 73).take 3).map Char.ofNat == "gc".toList) = false := by kernel_rfl
theorem head_spec : (((headL.drop 73).take 3).map Char.ofNat == "spec".toList) = false := by kernel_rfl
theorem head_cut : (((headL.drop 73).take 3).map Char.ofNat == "cut".toList) = true := by kernel_rfl
theorem head_carried : (((headL.drop 73).take 3).map Char.ofNat == "carried".toList) = false := by kernel_rfl
theorem head_lifts : (liftWords.all fun o => !(((headL.drop 73).take 3).map Char.ofNat == o.toList)) = true := by kernel_rfl
theorem head_strip (R : List (List Char)) : stripLifts liftWords (((headL.drop 73).take 3).map Char.ofNat :: R) = ([], ((headL.drop 73).take 3).map Char.ofNat :: R) :=
  strip_none _ R liftWords (fun o ho => by have := List.all_eq_true.1 head_lifts o ho; simpa using this)
end Go.Proofs.Ytinijleelhbpoaa

/- maps.Clone and maps.Equal on maps of times. -/
import Derived.Test.YtalciiajhlhecaaMapT
import Derived.Test.YtalciiajhlhecaaShelfM
namespace Go.Proofs.Ytalciiajhlhecaa
open Go.RowKit Go.Maps Go.Shelf
theorem clone_map {w : World} {b n : Nat} {g : Tm} (h : MapT w b n g) :
    Calls Try.prog 178 #[.map (some b)] w fun e w' => e = .returned (.map (some w.heap.size)) ∧ MapT w' w.heap.size n g ∧ Below w.heap.size w w' := by
  obtain ⟨es, clock, hb, hn⟩ := h.shape
  refine (AnyW.maps_Clone Try.cloneM b es clock w hb).mono fun e w' ⟨he, hw⟩ => ?_
  subst hw
  exact ⟨he, hn, (Below.refl _ _).alloc (Nat.le_refl _) _⟩
theorem neq_int (W : World) (x y : Value) (xd yd : DataW Unit) (xp yp : List MemPlace) (hx : plainElem Try.prog 3 x = some (xd, xp)) (hy : plainElem Try.prog 3 y = some (yd, yp)) :
    (binOp .neq 3 x y).run Try.prog W = .ok (.bool (!sameD xd yd)) W ∧ ∀ (a b : Operand), (eqGuard .neq 3 a b x y).run Try.prog W = .ok () W := by
  obtain ⟨a, rfl, h1, _⟩ := plainElem_int_inv Try.underlying3 hx
  obtain ⟨b, rfl, h2, _⟩ := plainElem_int_inv Try.underlying3 hy
  obtain rfl : xd = .lit (.int .i64 a) := by simpa using (congrArg Prod.fst h1)
  obtain rfl : yd = .lit (.int .i64 b) := by simpa using (congrArg Prod.fst h2)
  refine ⟨?_, fun _ _ => by rw [eqGuard_at_int]; rfl⟩
  simp [go_sem, sameD, binOp]
  rfl
theorem equal_map {w : World} {b1 b2 n1 n2 : Nat} {g1 g2 : Tm} (h1 : MapT w b1 n1 g1) (h2 : MapT w b2 n2 g2) :
    Calls Try.prog 141 #[.map (some b1), .map (some b2)] w fun e w' => ∃ r : Bool, e = .returned (.bool r) ∧ (r = true → ∀ s v, g1 s = some v → g2 s = some v) ∧ (r = false → g1 ≠ g2) ∧ Below w.heap.size w w' := by
  obtain ⟨D1, o1, f1⟩ := h1
  obtain ⟨D2, o2, f2⟩ := h2
  refine (AnyEq.maps_Equal Try.eqM key_law (plainElem Try.prog 3) (plainElem Try.prog 3) sameD b1 b2 n1 n2 D1 D2 w o1 o2 (.int .i64 0) Try.zeroValue3 (.lit (.int .i64 0)) [] (plainElem_int Try.underlying3 (by decide)) neq_int).mono fun e w' ⟨he, hg⟩ => ?_
  refine ⟨_, he, fun hr => equal_yes f1 f2 (o1.tidy key_law) hr, fun hr e => ?_, (Below.refl _ _).grown hg (Nat.le_refl _) (by simp)⟩
  subst e
  rw [equal_same f1 f2 (o1.canon key_law) (o2.canon key_law) (o1.tidy key_law)] at hr
  cases hr
end Go.Proofs.Ytalciiajhlhecaa

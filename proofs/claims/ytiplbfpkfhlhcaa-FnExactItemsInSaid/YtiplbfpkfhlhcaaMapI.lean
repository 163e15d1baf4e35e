/- Maps from numbers to bools that hold only true: sets of numbers. -/
import Derived.Test.YtiplbfpkfhlhcaaBa
import Derived.Maps.Own
import Derived.Maps.OwnOps
import Derived.Maps.OwnSet
import Derived.WalkSpells
namespace Go.Proofs.Ytiplbfpkfhlhcaa
open Go.RowKit Go.Maps Go.ChangeMaps
def BdI (x : Int) : Prop := -9223372036854775808 ≤ x ∧ x ≤ 9223372036854775807
abbrev Tsi := Int → Bool
def putSI (S : Tsi) (g : Int) : Tsi := fun a => S a || decide (a = g)
def ksI (s : Int) : Lit := .int .i64 s
theorem ksI_inj {s t : Int} (h : ksI s = ksI t) : s = t := by unfold ksI at h; injection h
theorem ksI_key (s : Int) : WideAt.IsKeyLit (ksI s) := trivial
theorem keyedI : Keyed Try.prog 3 := int_keyed Try.underlying3
theorem key_ofI {s : Int} (hs : BdI s) : keyOf Try.prog 3 (.int .i64 s) = some (ksI s) := keyOf_int_mk Try.underlying3 (WalkArith.wf_i64 (by unfold BdI at hs; omega))
structure FitSI (D : DataW Unit) (S : Tsi) : Prop where
  has : ∀ g, Maps.has D (ksI g) = S g
  at_ : ∀ g, S g = true → ∀ z, D.atKey (ksI g) z = .lit (.bool true)
theorem FitSI.empty : FitSI (.map []) (fun _ => false) := ⟨fun _ => rfl, fun _ h => (by cases h)⟩
theorem FitSI.put {D : DataW Unit} {S : Tsi} (h : FitSI D S) (hD : Maps.IsMap D) (g : Int) : FitSI (D.put (ksI g) (.lit (.bool true))) (putSI S g) := by
  refine ⟨fun a => ?_, fun a hq z => ?_⟩
  · by_cases n : a = g
    · subst n
      rw [has_put_same hD (ksI_key a)]; simp [putSI]
    · rw [has_put_other (fun e => n (ksI_inj e)), h.has]; simp [putSI, n]
  · by_cases n : a = g
    · subst n
      exact atKey_put_same hD (ksI_key a) _ _
    · have hs : S a = true := by simpa [putSI, n] using hq
      rw [atKey_put_other (fun e => n (ksI_inj e))]; exact h.at_ _ hs z
theorem plain_bool_invI {P : Program} {e : TypeId} (he : P.underlying e = some .bool) {v : Value} {z : DataW Unit × List MemPlace} (h : plainElem P e v = some z) : ∃ x, v = .bool x ∧ z = (.lit (.bool x), []) := by
  unfold plainElem at h
  rw [he] at h
  cases v <;> simp at h
  exact ⟨_, rfl, h.symm⟩
/-- block b is a map of at most n entries, true at these numbers -/
def MapI (w : World) (b n : Nat) (S : Tsi) : Prop := ∃ D : DataW Unit, w.ownsMap Try.prog 3 (plainElem Try.prog 4) b n D ∧ FitSI D S
section
variable {w w' : World} {b n : Nat} {S : Tsi}
theorem MapI.made (w : World) : MapI (w.alloc (.map #[] 0)) w.heap.size 0 (fun _ => false) := ⟨_, World.ownsMap_made _ _ _ _, FitSI.empty⟩
theorem MapI.lt (h : MapI w b n S) : b < w.heap.size := let ⟨_, h1, _⟩ := h; h1.lt
theorem MapI.below (h : MapI w b n S) (hb : Below w.heap.size w w') : MapI w' b n S := by
  obtain ⟨D, ⟨es, clock, h1, h2⟩, h3⟩ := h
  exact ⟨D, ⟨es, clock, (hb.block b (Array.getElem?_eq_some_iff.1 h1).1).trans h1, h2⟩, h3⟩
theorem look_valSI {D : DataW Unit} (h : FitSI D S) {g : Int} {c : Bool} (hc : D.atKey (ksI g) (.lit (.bool false)) = .lit (.bool c)) : c = S g := by
  cases hgs : S g with
  | false =>
    rw [Maps.atKey_of_not_has (by rw [h.has g, hgs])] at hc
    simp at hc
    exact hc
  | true =>
    rw [h.at_ g hgs] at hc
    simp at hc
    exact hc
/-- the look-up's run -/
theorem MapI.look (h : MapI w b n S) {g : Int} (hg : BdI g) : (Instr.lookup 117 (.map (some b)) (.int .i64 g) false).run Try.prog w = .ok (.bool (S g)) w := by
  obtain ⟨D, h1, h2⟩ := h
  obtain ⟨v, ps, hr, hv⟩ := h1.lookup keyedI Try.underlying117 (Try.zeroValue4 w) (plainElem_bool Try.underlying4 false) (key_ofI hg)
  obtain ⟨c, rfl, hc⟩ := plain_bool_invI Try.underlying4 hv
  simp only [Prod.mk.injEq] at hc
  rw [← look_valSI h2 hc.1]; exact hr
theorem MapI.update (h : MapI w b n S) (hn : n < 4194304) {g : Int} (hg : BdI g) : ∃ w', (Instr.mapUpdate 117 (.map (some b)) (.int .i64 g) (.bool true)).run Try.prog w = .ok () w' ∧ MapI w' b (n + 1) (putSI S g) ∧ w.grownBy w' (some b) := by
  obtain ⟨D, h1, h2⟩ := h
  obtain ⟨w', hr, ho, hgr⟩ := h1.update keyedI Try.underlying117 (by unfold maxLen; omega) (key_ofI hg) (plainElem_bool (H := Unit) Try.underlying4 true)
  exact ⟨w', hr, ⟨_, ho, h2.put (h1.tidy keyedI).isMap g⟩, hgr⟩
end
end Go.Proofs.Ytiplbfpkfhlhcaa

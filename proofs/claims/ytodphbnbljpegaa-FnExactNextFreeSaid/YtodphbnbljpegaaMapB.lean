/- Maps from trips to bools that hold only true: sets of trips. -/
import Derived.Test.YtodphbnbljpegaaMapP
namespace Go.Proofs.Ytodphbnbljpegaa
open Go.RowKit Go.Maps Go.ChangeMaps
abbrev Ts := Int → Int → Bool
def putS (S : Ts) (g d : Int) : Ts := fun a b => S a b || decide (a = g ∧ b = d)
structure FitS (D : DataW Unit) (S : Ts) : Prop where
  has : ∀ g d, Bd g → Bd d → Maps.has D (ksP g d) = S g d
  at_ : ∀ g d, Bd g → Bd d → S g d = true → ∀ z, D.atKey (ksP g d) z = .lit (.bool true)
theorem FitS.empty : FitS (.map []) (fun _ _ => false) := ⟨fun _ _ _ _ => rfl, fun _ _ _ _ h => (by cases h)⟩
theorem FitS.put {D : DataW Unit} {S : Ts} (h : FitS D S) (hD : Maps.IsMap D) {g d : Int} (hg : Bd g) (hd : Bd d) : FitS (D.put (ksP g d) (.lit (.bool true))) (putS S g d) := by
  refine ⟨fun a b ha hb => ?_, fun a b ha hb hq z => ?_⟩
  · by_cases n : a = g ∧ b = d
    · obtain ⟨rfl, rfl⟩ := n
      rw [has_put_same hD (ksP_key a b)]; simp [putS]
    · rw [has_put_other (fun e => n (ksP_inj ha hb hg hd e)), h.has _ _ ha hb]; simp [putS, n]
  · by_cases n : a = g ∧ b = d
    · obtain ⟨rfl, rfl⟩ := n
      exact atKey_put_same hD (ksP_key a b) _ _
    · have hs : S a b = true := by simpa [putS, n] using hq
      rw [atKey_put_other (fun e => n (ksP_inj ha hb hg hd e))]; exact h.at_ _ _ ha hb hs z
theorem plain_bool_inv {P : Program} {e : TypeId} (he : P.underlying e = some .bool) {v : Value} {z : DataW Unit × List MemPlace} (h : plainElem P e v = some z) : ∃ x, v = .bool x ∧ z = (.lit (.bool x), []) := by
  unfold plainElem at h
  rw [he] at h
  cases v <;> simp at h
  exact ⟨_, rfl, h.symm⟩
/-- block b is a map of at most n entries, true at these trips -/
def MapS (w : World) (b n : Nat) (S : Ts) : Prop := ∃ D : DataW Unit, w.ownsMap Try.prog 40 (plainElem Try.prog 4) b n D ∧ FitS D S
section
variable {w w' : World} {b n : Nat} {S : Ts}
theorem MapS.made (w : World) : MapS (w.alloc (.map #[] 0)) w.heap.size 0 (fun _ _ => false) := ⟨_, World.ownsMap_made _ _ _ _, FitS.empty⟩
theorem MapS.mono (h : MapS w b n S) {m : Nat} (hm : n ≤ m) : MapS w b m S := let ⟨D, h1, h2⟩ := h; ⟨D, h1.mono hm, h2⟩
theorem MapS.lt (h : MapS w b n S) : b < w.heap.size := let ⟨_, h1, _⟩ := h; h1.lt
theorem MapS.below (h : MapS w b n S) (hb : Below w.heap.size w w') : MapS w' b n S := by
  obtain ⟨D, ⟨es, clock, h1, h2⟩, h3⟩ := h
  exact ⟨D, ⟨es, clock, (hb.block b (Array.getElem?_eq_some_iff.1 h1).1).trans h1, h2⟩, h3⟩
theorem look_valS {D : DataW Unit} (h : FitS D S) {g d : Int} {c : Bool} (hg : Bd g) (hd : Bd d) (hc : D.atKey (ksP g d) (.lit (.bool false)) = .lit (.bool c)) : c = S g d := by
  cases hgs : S g d with
  | false =>
    rw [Maps.atKey_of_not_has (by rw [h.has g d hg hd, hgs])] at hc
    simp at hc
    exact hc
  | true =>
    rw [h.at_ g d hg hd hgs] at hc
    simp at hc
    exact hc
/-- the look-up's run -/
theorem MapS.look (h : MapS w b n S) {g d : Int} (hg : Bd g) (hd : Bd d) : (Instr.lookup 125 (.map (some b)) (.agg #[.int .i64 g, .int .i64 d]) false).run Try.prog w = .ok (.bool (S g d)) w := by
  obtain ⟨D, h1, h2⟩ := h
  obtain ⟨v, ps, hr, hv⟩ := h1.lookup keyedP Try.underlying125 (Try.zeroValue4 w) (plainElem_bool Try.underlying4 false) (key_ofP hg hd)
  obtain ⟨c, rfl, hc⟩ := plain_bool_inv Try.underlying4 hv
  simp only [Prod.mk.injEq] at hc
  rw [← look_valS h2 hg hd hc.1]; exact hr
theorem MapS.update (h : MapS w b n S) (hn : n < 4194304) {g d : Int} (hg : Bd g) (hd : Bd d) : ∃ w', (Instr.mapUpdate 125 (.map (some b)) (.agg #[.int .i64 g, .int .i64 d]) (.bool true)).run Try.prog w = .ok () w' ∧ MapS w' b (n + 1) (putS S g d) ∧ w.grownBy w' (some b) := by
  obtain ⟨D, h1, h2⟩ := h
  obtain ⟨w', hr, ho, hgr⟩ := h1.update keyedP Try.underlying125 (by unfold maxLen; omega) (key_ofP hg hd) (plainElem_bool (H := Unit) Try.underlying4 true)
  exact ⟨w', hr, ⟨_, ho, h2.put (h1.tidy keyedP).isMap hg hd⟩, hgr⟩
end
end Go.Proofs.Ytodphbnbljpegaa

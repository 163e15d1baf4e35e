/- Maps from numbers to numbers: what a map's block holds. Generated out of XMapZ. -/
import Derived.Test.YtodphbnbljpegabHeav
import Derived.Maps.Own
import Derived.Maps.OwnOps
import Derived.Maps.OwnSet
import Derived.WalkSpells
namespace Go.Proofs.Ytodphbnbljpegab
open Go.RowKit Go.Maps
abbrev Tz := Int → Option Int
def putZ (g : Tz) (s e : Int) : Tz := fun q => if q = s then some e else g q
theorem putZ_same (g : Tz) (s e : Int) : putZ g s e s = some e := if_pos rfl
theorem putZ_other (g : Tz) (s e q : Int) (h : q ≠ s) : putZ g s e q = g q := if_neg h
def ksZ (s : Int) : Lit := .int .i64 s
theorem ksZ_inj {s t : Int} (h : ksZ s = ksZ t) : s = t := by unfold ksZ at h; injection h
theorem ksZ_ne {s t : Int} (h : s ≠ t) : ksZ s ≠ ksZ t := fun e => h (ksZ_inj e)
theorem ksZ_key (s : Int) : WideAt.IsKeyLit (ksZ s) := trivial
def iZ (v : Int) : DataW Unit := .lit (.int .i64 v)
structure FitZ (D : DataW Unit) (g : Tz) : Prop where
  has : ∀ s, Maps.has D (ksZ s) = (g s).isSome
  at_ : ∀ s v, g s = some v → ∀ z, D.atKey (ksZ s) z = iZ v
  key : ∀ k, Maps.has D k = true → ∃ s, k = ksZ s
theorem FitZ.empty : FitZ (.map []) (fun _ => none) := ⟨fun _ => rfl, fun _ _ h => (by cases h), fun _ h => (by cases h)⟩
theorem FitZ.put {D : DataW Unit} {g : Tz} (h : FitZ D g) (hD : Maps.IsMap D) (s : Int) (e : Int) : FitZ (D.put (ksZ s) (iZ e)) (putZ g s e) := by
  refine ⟨fun q => ?_, fun q v hq z => ?_, fun k hk => ?_⟩
  · by_cases n : q = s
    · subst n; rw [has_put_same hD (ksZ_key q), putZ_same]; rfl
    · rw [has_put_other (ksZ_ne n), putZ_other _ _ _ _ n, h.has]
  · by_cases n : q = s
    · subst n; rw [putZ_same] at hq; cases hq; exact atKey_put_same hD (ksZ_key q) _ _
    · rw [putZ_other _ _ _ _ n] at hq; rw [atKey_put_other (ksZ_ne n)]; exact h.at_ q v hq z
  · by_cases n : k = ksZ s
    · exact ⟨s, n⟩
    · rw [has_put_other n] at hk; exact h.key k hk
/-- block b is a map of at most n entries that holds these times -/
def MapZ (w : World) (b n : Nat) (g : Tz) : Prop := ∃ D : DataW Unit, w.ownsMap Try.prog 3 (plainElem Try.prog 3) b n D ∧ FitZ D g
theorem key_lawZ : Keyed Try.prog 3 := int_keyed Try.underlying3
theorem zero_intZ (w : World) : (zeroValue 3).run Try.prog w = .ok (.int .i64 0) w := by kernel_rfl
theorem key_ofZ (s : Int) (hs : -9223372036854775808 ≤ s ∧ s ≤ 9223372036854775807) : keyOf Try.prog 3 (.int .i64 s) = some (ksZ s) := keyOf_int_mk Try.underlying3 (WalkArith.wf_i64 (by omega))
section
variable {w w' : World} {b n : Nat} {g : Tz}
theorem MapZ.made (w : World) : MapZ (w.alloc (.map #[] 0)) w.heap.size 0 (fun _ => none) := ⟨_, World.ownsMap_made _ _ _ _, FitZ.empty⟩
theorem MapZ.mono (h : MapZ w b n g) {m : Nat} (hm : n ≤ m) : MapZ w b m g := let ⟨D, h1, h2⟩ := h; ⟨D, h1.mono hm, h2⟩
theorem MapZ.lt (h : MapZ w b n g) : b < w.heap.size := let ⟨_, h1, _⟩ := h; h1.lt
theorem MapZ.kept {row : Option Nat} (h : MapZ w b n g) (hg : w.grownBy w' row) (hne : some b ≠ row) : MapZ w' b n g := let ⟨D, h1, h2⟩ := h; ⟨D, h1.kept hg hne, h2⟩
theorem MapZ.below (h : MapZ w b n g) (hb : Below w.heap.size w w') : MapZ w' b n g := by
  obtain ⟨D, ⟨es, clock, h1, h2⟩, h3⟩ := h
  exact ⟨D, ⟨es, clock, (hb.block b (Array.getElem?_eq_some_iff.1 h1).1).trans h1, h2⟩, h3⟩
theorem MapZ.alloc (h : MapZ w b n g) (o : Obj) : MapZ (w.alloc o) b n g := let ⟨D, h1, h2⟩ := h; ⟨D, h1.alloc o, h2⟩
/-- maps.Clone -/
theorem MapZ.shape (h : MapZ w b n g) : ∃ es clock, w.heap[b]? = some (.map es clock) ∧ MapZ (w.alloc (.map es clock)) w.heap.size n g := by
  obtain ⟨D, ⟨es, clock, h1, h2⟩, h3⟩ := h
  exact ⟨es, clock, h1, D, ⟨es, clock, (MapKept.heap_alloc w _).1, h2⟩, h3⟩
end
theorem look_valZ {D : DataW Unit} {g : Tz} (h : FitZ D g) {s : Int} {c : Int} (hc : D.atKey (ksZ s) (.lit (.int .i64 0)) = .lit (.int .i64 c)) : c = (g s).getD 0 := by
  cases hgs : g s with
  | none =>
    rw [Maps.atKey_of_not_has (by rw [h.has s, hgs]; rfl)] at hc
    simp at hc
    exact hc.symm
  | some v =>
    rw [h.at_ s v hgs] at hc
    simp [iZ] at hc
    exact hc.symm
/-- 'm[k]' -/
theorem wp_look1Z {w : World} {ops : Array Oper} {rest : List Oper} {o : Oper} {a : Act} {Q : Exit → Act → World → Prop}
    (hg : o.guard = none) (m x : Operand) (t : TypeId) (hop : o.op = Op.lookup t m x false) (ht : Try.prog.underlying t = some (.map 3 3)) (b n : Nat) (g : Tz)
    (hm : a.eval m = .map (some b)) (hown : MapZ w b n g) (s : Int) (hx : a.eval x = .int .i64 s) (hs : -9223372036854775808 ≤ s ∧ s ≤ 9223372036854775807) (u : Int) (hu : (g s).getD 0 = u)
    (hK : wpList Try.prog ops Q rest (a.put o.dst (.int .i64 u)) w) :
    wpList Try.prog ops Q (o :: rest) a w := by
  obtain ⟨D, h1, h2⟩ := hown
  refine wpList_lookup_own_int w hg m x t hop 3 3 .i64 key_lawZ ht Try.underlying3 (zero_intZ w) b n D hm h1 (.int .i64 s) (ksZ s) hx (key_ofZ s hs) (fun c hc _ => ?_)
  rw [show c = u from (look_valZ h2 hc).trans hu]
  exact hK
/-- 'm[k] = v' -/
theorem wp_storeZ {w : World} {ops : Array Oper} {rest : List Oper} {o : Oper} {a : Act} {Q : Exit → Act → World → Prop}
    (hg : o.guard = none) (m x v : Operand) (t : TypeId) (hop : o.op = Op.mapUpdate t m x v) (ht : Try.prog.underlying t = some (.map 3 3)) (b n : Nat) (g : Tz)
    (hm : a.eval m = .map (some b)) (hown : MapZ w b n g) (hn : n < 4194304) (s : Int) (e : Int) (hx : a.eval x = .int .i64 s) (hv : a.eval v = .int .i64 e) (hs : -9223372036854775808 ≤ s ∧ s ≤ 9223372036854775807) (he : (Lit.int .i64 e).wf = true)
    (hK : ∀ w', MapZ w' b (n + 1) (putZ g s e) → w.grownBy w' (some b) → wpList Try.prog ops Q rest (a.put o.dst undef) w') :
    wpList Try.prog ops Q (o :: rest) a w := by
  obtain ⟨D, h1, h2⟩ := hown
  exact wpList_mapUpdate_own w hg m x v t hop 3 3 key_lawZ ht (plainElem Try.prog 3) b n D hm h1 (by unfold maxLen; omega) (.int .i64 s) (.int .i64 e) (ksZ s) hx hv (key_ofZ s hs) (iZ e) [] (plainElem_int Try.underlying3 he)
    (fun w' h3 h4 => hK w' ⟨_, h3, h2.put (h1.tidy key_lawZ).isMap s e⟩ h4)
end Go.Proofs.Ytodphbnbljpegab

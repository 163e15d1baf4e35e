/- Maps from trips to numbers: what a map's block holds, as a table. -/
import Derived.Test.YtadcmngooobeiabGreatLoad
import Derived.Maps.Own
import Derived.Maps.OwnOps
import Derived.Maps.OwnSet
import Derived.WideKeyEntry
import Derived.DeepKeys4
import Derived.WalkSpells
namespace Go.Proofs.YtadcmngooobeiabGreat
open Go.RowKit Go.Maps Go.ChangeMaps
abbrev Bd (x : Int) : Prop := -9223372036854775808 ≤ x ∧ x ≤ 9223372036854775807
abbrev Tk := Int → Int → Option Int
def putP (G : Tk) (g d e : Int) : Tk := fun a b => if a = g ∧ b = d then some e else G a b
theorem putP_same (G : Tk) (g d e : Int) : putP G g d e g d = some e := if_pos ⟨rfl, rfl⟩
theorem putP_other (G : Tk) (g d e a b : Int) (h : ¬ (a = g ∧ b = d)) : putP G g d e a b = G a b := if_neg h
def ksP (g d : Int) : Lit := .string (keyBytes [.int .i64 g, .int .i64 d])
theorem wfP {x : Int} (h : Bd x) : (Lit.int .i64 x).wf = true := WalkArith.wf_i64 (by omega)
theorem ksP_inj {g d a b : Int} (hg : Bd g) (hd : Bd d) (ha : Bd a) (hb : Bd b) (h : ksP g d = ksP a b) : g = a ∧ d = b := by
  have h1 : keyBytes [.int .i64 g, .int .i64 d] = keyBytes [.int .i64 a, .int .i64 b] := by unfold ksP at h; injection h
  have h2 := keyBytes_inj (l := [.int .i64 g, .int .i64 d]) (l' := [.int .i64 a, .int .i64 b]) ⟨rfl, rfl, trivial⟩ (by intro x hx; simp at hx; rcases hx with rfl | rfl <;> exact wfP (by assumption)) (by intro x hx; simp at hx; rcases hx with rfl | rfl <;> exact wfP (by assumption)) h1
  simpa using h2
theorem ksP_key (g d : Int) : WideAt.IsKeyLit (ksP g d) := trivial
theorem trip_key_ty : Tryz.prog.keyType 52 = true := by kernel_rfl
theorem key_ofP {g d : Int} (hg : Bd g) (hd : Bd d) : keyOf Tryz.prog 52 (.agg #[.int .i64 g, .int .i64 d]) = some (ksP g d) := by
  have hu := Tryz.underlying52
  have hk := trip_key_ty
  obtain ⟨m, hm⟩ : ∃ m, Tryz.prog.types.size = m + 1 := ⟨Tryz.prog.types.size - 1, by kernel_rfl⟩
  unfold keyOf
  simp only [hu]
  rw [if_pos (by simp [hk, Value.formed, hu]; kernel_rfl), hm]
  unfold Program.keyLits
  simp only [hu, Value.cells]
  have hc : Tryz.prog.cellsOf 3 = 1 := by kernel_rfl
  have hi := Tryz.underlying3
  have wg := wfP hg; have wd := wfP hd
  rw [if_pos ⟨by kernel_rfl, by simp⟩]
  simp only [List.mapM_cons, List.mapM_nil, hc, List.drop_zero, List.take_succ_cons, List.take_zero, List.drop_succ_cons]
  simp [Program.keyLits, hi, wg, wd, ksP]
set_option maxRecDepth 100000 in
theorem keyP_law : WideMaps.KeyLaw Tryz.prog 52 := deep_law_laid Tryz.laidOut (m := 5) (by omega) (of_decide_eq_true (by kernel_rfl)) (by kernel_rfl) (by kernel_rfl)
theorem keyedP : Keyed Tryz.prog 52 := Keyed.of_law keyP_law
theorem zeroP (w : World) : (zeroValue 3).run Tryz.prog w = .ok (.int .i64 0) w := by kernel_rfl
def iP (v : Int) : DataW Unit := .lit (.int .i64 v)
structure FitP (D : DataW Unit) (G : Tk) : Prop where
  has : ∀ g d, Bd g → Bd d → Maps.has D (ksP g d) = (G g d).isSome
  at_ : ∀ g d v, Bd g → Bd d → G g d = some v → ∀ z, D.atKey (ksP g d) z = iP v
  key : ∀ k, Maps.has D k = true → ∃ g d, Bd g ∧ Bd d ∧ k = ksP g d
theorem FitP.empty : FitP (.map []) (fun _ _ => none) := ⟨fun _ _ _ _ => rfl, fun _ _ _ _ _ h => (by cases h), fun _ h => (by cases h)⟩
theorem FitP.put {D : DataW Unit} {G : Tk} (h : FitP D G) (hD : Maps.IsMap D) {g d : Int} (hg : Bd g) (hd : Bd d) (e : Int) : FitP (D.put (ksP g d) (iP e)) (putP G g d e) := by
  refine ⟨fun a b ha hb => ?_, fun a b v ha hb hq z => ?_, fun k hk => ?_⟩
  · by_cases n : a = g ∧ b = d
    · obtain ⟨rfl, rfl⟩ := n
      rw [has_put_same hD (ksP_key a b), putP_same]; rfl
    · rw [has_put_other (fun e => n (ksP_inj ha hb hg hd e)), putP_other _ _ _ _ _ _ n, h.has _ _ ha hb]
  · by_cases n : a = g ∧ b = d
    · obtain ⟨rfl, rfl⟩ := n
      rw [putP_same] at hq; cases hq; exact atKey_put_same hD (ksP_key a b) _ _
    · rw [putP_other _ _ _ _ _ _ n] at hq; rw [atKey_put_other (fun e => n (ksP_inj ha hb hg hd e))]; exact h.at_ _ _ v ha hb hq z
  · by_cases n : k = ksP g d
    · exact ⟨g, d, hg, hd, n⟩
    · rw [has_put_other n] at hk; exact h.key k hk
/-- block b is a map of at most n entries that holds these numbers -/
def MapP (w : World) (b n : Nat) (G : Tk) : Prop := ∃ D : DataW Unit, w.ownsMap Tryz.prog 52 (plainElem Tryz.prog 3) b n D ∧ FitP D G
section
variable {w w' : World} {b n : Nat} {G : Tk}
theorem MapP.made (w : World) : MapP (w.alloc (.map #[] 0)) w.heap.size 0 (fun _ _ => none) := ⟨_, World.ownsMap_made _ _ _ _, FitP.empty⟩
theorem MapP.mono (h : MapP w b n G) {m : Nat} (hm : n ≤ m) : MapP w b m G := let ⟨D, h1, h2⟩ := h; ⟨D, h1.mono hm, h2⟩
theorem MapP.lt (h : MapP w b n G) : b < w.heap.size := let ⟨_, h1, _⟩ := h; h1.lt
theorem MapP.kept {row : Option Nat} (h : MapP w b n G) (hg : w.grownBy w' row) (hne : some b ≠ row) : MapP w' b n G := let ⟨D, h1, h2⟩ := h; ⟨D, h1.kept hg hne, h2⟩
theorem MapP.below (h : MapP w b n G) (hb : Below w.heap.size w w') : MapP w' b n G := by
  obtain ⟨D, ⟨es, clock, h1, h2⟩, h3⟩ := h
  exact ⟨D, ⟨es, clock, (hb.block b (Array.getElem?_eq_some_iff.1 h1).1).trans h1, h2⟩, h3⟩
theorem look_valP {D : DataW Unit} (h : FitP D G) {g d c : Int} (hg : Bd g) (hd : Bd d) (hc : D.atKey (ksP g d) (.lit (.int .i64 0)) = .lit (.int .i64 c)) : c = (G g d).getD 0 := by
  cases hgs : G g d with
  | none =>
    rw [Maps.atKey_of_not_has (by rw [h.has g d hg hd, hgs]; rfl)] at hc
    simp at hc
    exact hc.symm
  | some v =>
    rw [h.at_ g d v hg hd hgs] at hc
    simp [iP] at hc
    exact hc.symm
/-- the look-up's run -/
theorem MapP.look (h : MapP w b n G) {g d : Int} (hg : Bd g) (hd : Bd d) : (Instr.lookup 142 (.map (some b)) (.agg #[.int .i64 g, .int .i64 d]) false).run Tryz.prog w = .ok (.int .i64 ((G g d).getD 0)) w := by
  obtain ⟨D, h1, h2⟩ := h
  obtain ⟨c, hr, hat, _⟩ := h1.lookup_int keyedP Tryz.underlying142 Tryz.underlying3 (zeroP w) (key_ofP hg hd)
  rw [← look_valP h2 hg hd hat]; exact hr
theorem setBlock_drewN (w : World) (b : Nat) (o : Obj) (m : Nat) : setBlock (w.drewN m) b o = (setBlock w b o).drewN m := rfl
theorem grown_setBlock {es : Array MapEntry} {clock : Nat} (hb : w.heap[b]? = some (.map es clock)) (o : Obj) : w.grownBy (setBlock w b o) (some b) := ⟨rfl, rfl, rfl, by simp [setBlock], fun i _ hi => heap_setBlock_other hb _ (fun e => hi (by rw [e]))⟩
set_option maxRecDepth 100000 in
/-- 'm[k] op= v': the entry, the look-up in front of it or behind it, then the store -/
theorem MapP.entry (h : MapP w b n G) (hn : n < 4194304) {g d : Int} (hg : Bd g) (hd : Bd d) (e : Int) (he : Bd e) :
    ∃ (v0 : Value) (st : Int) (w1 w3 : World), (∀ m, (Instr.mapEntry 142 (.map (some b)) (.agg #[.int .i64 g, .int .i64 d])).run Tryz.prog (w.drewN m) = .ok (.tuple #[v0, .int .i64 st]) (w1.drewN m)) ∧ w.grownBy w1 (some b) ∧
      (∀ m, (Instr.lookup 142 (.map (some b)) (.agg #[.int .i64 g, .int .i64 d]) false).run Tryz.prog (w1.drewN m) = .ok (.int .i64 ((G g d).getD 0)) (w1.drewN m)) ∧
      (∀ m, (Instr.entryStore 142 (.map (some b)) (.int .i64 st) (.int .i64 e)).run Tryz.prog (w1.drewN m) = .ok () (w3.drewN m)) ∧ w.grownBy w3 (some b) ∧ MapP w3 b (n + 1) (putP G g d e) := by
  obtain ⟨D, h1, h2⟩ := h
  have h1' := h1
  have h1a := h1
  obtain ⟨es, clock, hb, F, hs, hD⟩ := h1
  have ht := Tryz.underlying142
  have hkey := key_ofP hg hd
  obtain ⟨v0, st, es1, clock1, hr, _, hst⟩ := WideElems.entry_then_store keyP_law ht (fun u => zeroP u) hb F hkey
  have hw1 : (setBlock w b (.map es1 clock1)).heap[b]? = some (.map es1 clock1) := heap_setBlock_same hb _
  obtain ⟨es', clock', hr2, hu⟩ := hst (setBlock w b (.map es1 clock1)) (.int .i64 e) hw1
  obtain ⟨w', hu', ho', _⟩ := h1'.update keyedP ht (by unfold maxLen; omega) hkey (plainElem_int (H := Unit) Tryz.underlying3 (wfP he))
  rw [hu] at hu'
  cases hu'
  obtain ⟨es3, clock3, hb3, F3, hs3, hD3⟩ := ho'
  rw [heap_setBlock_same hb] at hb3
  cases hb3
  have hL : (Instr.lookup 142 (.map (some b)) (.agg #[.int .i64 g, .int .i64 d]) false).run Tryz.prog w = .ok (.int .i64 ((G g d).getD 0)) w := MapP.look ⟨D, h1a, h2⟩ hg hd
  have hsim : (∃ G1, MapP (setBlock w b (.map es1 clock1)) b (n + 1) G1 ∧ (G1 g d).getD 0 = (G g d).getD 0) ∧
      ∀ m, (Instr.mapEntry 142 (.map (some b)) (.agg #[.int .i64 g, .int .i64 d])).run Tryz.prog (w.drewN m) = .ok (.tuple #[v0, .int .i64 (st : Int)]) ((setBlock w b (.map es1 clock1)).drewN m) := by
    rcases keyP_law.find w hkey es.toList F.keys with ⟨f1, f2⟩ | ⟨j, e0, f1, f2, f3⟩
    · have hr' := hr
      simp [Instr.mapEntry, run_underlying ht, MapKept.run_getObj_map hb, keyP_law.check w false hkey, f1, MapKept.run_setObj_map _ hb, Result.andThen] at hr'
      have hL' := hL
      simp [Instr.lookup, run_underlying ht, MapKept.run_getObj_map hb, keyP_law.check w es.isEmpty hkey, f1, Result.andThen] at hL'
      obtain ⟨wz, hz, hoz, _⟩ := h1a.update keyedP ht (by unfold maxLen; omega) hkey (plainElem_int (H := Unit) Tryz.underlying3 (wfP (x := 0) (by omega)))
      simp [Instr.mapUpdate, run_underlying ht, MapKept.run_getObj_map hb, keyP_law.check w false hkey, f1, MapKept.run_setObj_map _ hb, Result.andThen] at hz
      have hwz : wz = setBlock w b (.map es1 clock1) := hz.symm.trans hr'.2
      rw [hwz] at hoz
      refine ⟨⟨putP G g d 0, ⟨_, hoz, h2.put (h1a.tidy keyedP).isMap hg hd 0⟩, by rw [putP_same, ← hL']; rfl⟩, fun m => ?_⟩
      rcases keyP_law.find (w.drewN m) hkey es.toList F.keys with ⟨k1, _⟩ | ⟨j, e0, _, k2, k3⟩
      · simp [Instr.mapEntry, run_underlying ht, MapKept.run_getObj_map (w := w.drewN m) hb, keyP_law.check (w.drewN m) false hkey, k1, MapKept.run_setObj_map (w := w.drewN m) _ hb, Result.andThen]
        exact ⟨hr'.1, congrArg (fun W => World.drewN W m) hr'.2⟩
      · exact absurd k3 (f2 e0 (List.mem_of_getElem? k2))
    · have hj : es[j]? = some e0 := by simpa using f2
      have hsame : es.modify j (fun x => { key := Value.agg #[.int .i64 g, .int .i64 d], val := x.val, born := x.born }) = es := by
        apply Array.ext_getElem?
        intro i
        rw [Array.getElem?_modify]
        split
        · next h => subst h; rw [hj]; simp [← f3]
        · rfl
      have hr' := hr
      simp [Instr.mapEntry, run_underlying ht, MapKept.run_getObj_map hb, keyP_law.check w false hkey, f1, hj, f3, keyP_law.stays w hkey, hsame, MapKept.run_setObj_map _ hb, Result.andThen] at hr'
      have hb1 : (setBlock w b (.map es1 clock1)).heap[b]? = some (.map es clock) := by
        rw [← hr'.2]; exact heap_setBlock_same hb (.map es clock)
      refine ⟨⟨G, MapP.mono ⟨D, ⟨es, clock, hb1, F, hs, hD⟩, h2⟩ (by omega), rfl⟩, fun m => ?_⟩
      have hfk : (Instr.findKey 52 (.agg #[.int .i64 g, .int .i64 d]) es.toList).run Tryz.prog (w.drewN m) = .ok (some (j, e0.val)) (w.drewN m) := by
        rcases keyP_law.find (w.drewN m) hkey es.toList F.keys with ⟨_, k2⟩ | ⟨j', e1, k1, k2, k3⟩
        · exact absurd f3 (k2 e0 (List.mem_of_getElem? f2))
        · have hjl := (List.getElem?_eq_some_iff.1 f2).1
          have hjj : j = j' := List.getElem?_inj (l := es.toList.map (·.key)) (by simpa using hjl) F.stamped.2.2 |>.1 (by rw [List.getElem?_map, List.getElem?_map, f2, k2]; simp [f3, k3])
          subst hjj
          rw [f2] at k2
          cases k2
          exact k1
      simp [Instr.mapEntry, run_underlying ht, MapKept.run_getObj_map (w := w.drewN m) hb, keyP_law.check (w.drewN m) false hkey, hfk, hj, f3, keyP_law.stays (w.drewN m) hkey, hsame, MapKept.run_setObj_map (w := w.drewN m) _ hb, Result.andThen]
      exact ⟨hr'.1, congrArg (fun W => World.drewN W m) hr'.2⟩
  obtain ⟨⟨G1, hM1, hG1⟩, hE⟩ := hsim
  refine ⟨v0, st, setBlock w b (.map es1 clock1), setBlock (setBlock w b (.map es1 clock1)) b (.map es' clock'), hE, grown_setBlock hb _, fun m => ?_, fun m => ?_, ?_, ⟨_, ⟨es', clock', heap_setBlock_same hw1 _, F3, hs3, hD3⟩, h2.put (h1a.tidy keyedP).isMap hg hd e⟩⟩
  · have h := MapP.look (w := (setBlock w b (.map es1 clock1)).drewN m) (b := b) (n := n + 1) (G := G1) hM1 hg hd
    rw [hG1] at h; exact h
  · obtain ⟨es4, clock4, h4, h5⟩ := hst ((setBlock w b (.map es1 clock1)).drewN m) (.int .i64 e) hw1
    rw [hu] at h5
    have h6 : (setBlock w b (.map es' clock')).heap[b]? = (setBlock w b (.map es4 clock4)).heap[b]? := by injection h5 with _ h7; rw [h7]
    rw [heap_setBlock_same hb, heap_setBlock_same hb] at h6
    cases h6
    exact h4
  · exact only_trans (grown_setBlock hb _) (grown_setBlock hw1 _)
end
end Go.Proofs.YtadcmngooobeiabGreat

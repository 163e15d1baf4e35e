/- Maps from texts to times: what a map's block holds, as a table of times by place. -/
import Derived.Test.YtamlbiagjipedaaWayM
import Derived.Test.YtamlbiagjipedaaBb
import Derived.Maps.Own
import Derived.Maps.OwnOps
import Derived.Maps.OwnSet
import Derived.Lib.SlMapEqual
import Derived.WalkSpells
namespace Go.Proofs.Ytamlbiagjipedaa
open Go.RowKit Go.Maps
def ksL (s : ByteArray) : Lit := .string s.data.toList
theorem ksL_inj {s t : ByteArray} (h : ksL s = ksL t) : s = t := by
  have h1 : s.data.toList = t.data.toList := by simpa [ksL] using h
  have h2 : s.data = t.data := Array.toList_inj.1 h1
  cases s; cases t; simp_all
theorem ksL_ne {s t : ByteArray} (h : s ≠ t) : ksL s ≠ ksL t := fun e => h (ksL_inj e)
theorem ksL_key (s : ByteArray) : WideAt.IsKeyLit (ksL s) := trivial
def iD (v : Int) : DataW Unit := .lit (.int .i64 v)
structure FitT (D : DataW Unit) (g : Tm) : Prop where
  has : ∀ s, Maps.has D (ksL s) = (g s).isSome
  at_ : ∀ s v, g s = some v → ∀ z, D.atKey (ksL s) z = iD v
  key : ∀ k, Maps.has D k = true → ∃ s, k = ksL s
theorem FitT.empty : FitT (.map []) (fun _ => none) := ⟨fun _ => rfl, fun _ _ h => (by cases h), fun _ h => (by cases h)⟩
theorem FitT.put {D : DataW Unit} {g : Tm} (h : FitT D g) (hD : Maps.IsMap D) (s : ByteArray) (e : Int) : FitT (D.put (ksL s) (iD e)) (putT g s e) := by
  refine ⟨fun q => ?_, fun q v hq z => ?_, fun k hk => ?_⟩
  · by_cases n : q = s
    · subst n; rw [has_put_same hD (ksL_key q), putT_same]; rfl
    · rw [has_put_other (ksL_ne n), putT_other _ _ _ _ n, h.has]
  · by_cases n : q = s
    · subst n; rw [putT_same] at hq; cases hq; exact atKey_put_same hD (ksL_key q) _ _
    · rw [putT_other _ _ _ _ n] at hq; rw [atKey_put_other (ksL_ne n)]; exact h.at_ q v hq z
  · by_cases n : k = ksL s
    · exact ⟨s, n⟩
    · rw [has_put_other n] at hk; exact h.key k hk
/-- block b is a map of at most n entries that holds these times -/
def MapT (w : World) (b n : Nat) (g : Tm) : Prop := ∃ D : DataW Unit, w.ownsMap Try.prog 9 (plainElem Try.prog 3) b n D ∧ FitT D g
theorem key_law : Keyed Try.prog 9 := string_keyed Try.underlying9
theorem zero_int (w : World) : (zeroValue 3).run Try.prog w = .ok (.int .i64 0) w := by kernel_rfl
section
variable {w w' : World} {b n : Nat} {g : Tm}
theorem MapT.made (w : World) : MapT (w.alloc (.map #[] 0)) w.heap.size 0 (fun _ => none) := ⟨_, World.ownsMap_made _ _ _ _, FitT.empty⟩
theorem MapT.mono (h : MapT w b n g) {m : Nat} (hm : n ≤ m) : MapT w b m g := let ⟨D, h1, h2⟩ := h; ⟨D, h1.mono hm, h2⟩
theorem MapT.lt (h : MapT w b n g) : b < w.heap.size := let ⟨_, h1, _⟩ := h; h1.lt
theorem MapT.kept {row : Option Nat} (h : MapT w b n g) (hg : w.grownBy w' row) (hne : some b ≠ row) : MapT w' b n g := let ⟨D, h1, h2⟩ := h; ⟨D, h1.kept hg hne, h2⟩
theorem MapT.below (h : MapT w b n g) (hb : Below w.heap.size w w') : MapT w' b n g := by
  obtain ⟨D, ⟨es, clock, h1, h2⟩, h3⟩ := h
  exact ⟨D, ⟨es, clock, (hb.block b (Array.getElem?_eq_some_iff.1 h1).1).trans h1, h2⟩, h3⟩
theorem MapT.alloc (h : MapT w b n g) (o : Obj) : MapT (w.alloc o) b n g := let ⟨D, h1, h2⟩ := h; ⟨D, h1.alloc o, h2⟩
/-- maps.Clone -/
theorem MapT.shape (h : MapT w b n g) : ∃ es clock, w.heap[b]? = some (.map es clock) ∧ MapT (w.alloc (.map es clock)) w.heap.size n g := by
  obtain ⟨D, ⟨es, clock, h1, h2⟩, h3⟩ := h
  exact ⟨es, clock, h1, D, ⟨es, clock, (MapKept.heap_alloc w _).1, h2⟩, h3⟩
end
theorem look_val {D : DataW Unit} {g : Tm} (h : FitT D g) {s : ByteArray} {c : Int} (hc : D.atKey (ksL s) (.lit (.int .i64 0)) = .lit (.int .i64 c)) : c = (g s).getD 0 := by
  cases hgs : g s with
  | none =>
    rw [Maps.atKey_of_not_has (by rw [h.has s, hgs]; rfl)] at hc
    simp at hc
    exact hc.symm
  | some v =>
    rw [h.at_ s v hgs] at hc
    simp [iD] at hc
    exact hc.symm
/-- 'v, ok := m[k]' -/
theorem wp_look {w : World} {ops : Array Oper} {rest : List Oper} {o : Oper} {a : Act} {Q : Exit → Act → World → Prop}
    (hg : o.guard = none) (m x : Operand) (t : TypeId) (hop : o.op = Op.lookup t m x true) (ht : Try.prog.underlying t = some (.map 9 3)) (b n : Nat) (g : Tm)
    (hm : a.eval m = .map (some b)) (hown : MapT w b n g) (s : ByteArray) (hx : a.eval x = .string s) (hs : s.size ≤ maxLen) (u : Int) (ok : Bool) (hu : (g s).getD 0 = u) (hok : (g s).isSome = ok)
    (hK : wpList Try.prog ops Q rest (a.put o.dst (.tuple #[.int .i64 u, .bool ok])) w) :
    wpList Try.prog ops Q (o :: rest) a w := by
  obtain ⟨D, h1, h2⟩ := hown
  refine wpList_lookup_own_ok_int w hg m x t hop 9 3 .i64 key_law ht Try.underlying3 (zero_int w) b n D hm h1 (.string s) (ksL s) hx (WideMaps.keyOf_string_mk Try.underlying9 hs) (fun c hc _ => ?_)
  rw [h2.has s, hok]
  rw [show c = u from (look_val h2 hc).trans hu]
  exact hK
/-- 'm[k]' -/
theorem wp_look1 {w : World} {ops : Array Oper} {rest : List Oper} {o : Oper} {a : Act} {Q : Exit → Act → World → Prop}
    (hg : o.guard = none) (m x : Operand) (t : TypeId) (hop : o.op = Op.lookup t m x false) (ht : Try.prog.underlying t = some (.map 9 3)) (b n : Nat) (g : Tm)
    (hm : a.eval m = .map (some b)) (hown : MapT w b n g) (s : ByteArray) (hx : a.eval x = .string s) (hs : s.size ≤ maxLen) (u : Int) (hu : (g s).getD 0 = u)
    (hK : wpList Try.prog ops Q rest (a.put o.dst (.int .i64 u)) w) :
    wpList Try.prog ops Q (o :: rest) a w := by
  obtain ⟨D, h1, h2⟩ := hown
  refine wpList_lookup_own_int w hg m x t hop 9 3 .i64 key_law ht Try.underlying3 (zero_int w) b n D hm h1 (.string s) (ksL s) hx (WideMaps.keyOf_string_mk Try.underlying9 hs) (fun c hc _ => ?_)
  rw [show c = u from (look_val h2 hc).trans hu]
  exact hK
/-- 'm[k] = v' -/
theorem wp_store {w : World} {ops : Array Oper} {rest : List Oper} {o : Oper} {a : Act} {Q : Exit → Act → World → Prop}
    (hg : o.guard = none) (m x v : Operand) (t : TypeId) (hop : o.op = Op.mapUpdate t m x v) (ht : Try.prog.underlying t = some (.map 9 3)) (b n : Nat) (g : Tm)
    (hm : a.eval m = .map (some b)) (hown : MapT w b n g) (hn : n < 4194304) (s : ByteArray) (e : Int) (hx : a.eval x = .string s) (hv : a.eval v = .int .i64 e) (hs : s.size ≤ maxLen) (he : (Lit.int .i64 e).wf = true)
    (hK : ∀ w', MapT w' b (n + 1) (putT g s e) → w.grownBy w' (some b) → wpList Try.prog ops Q rest (a.put o.dst undef) w') :
    wpList Try.prog ops Q (o :: rest) a w := by
  obtain ⟨D, h1, h2⟩ := hown
  exact wpList_mapUpdate_own w hg m x v t hop 9 3 key_law ht (plainElem Try.prog 3) b n D hm h1 (by unfold maxLen; omega) (.string s) (.int .i64 e) (ksL s) hx hv (WideMaps.keyOf_string_mk Try.underlying9 hs) (iD e) [] (plainElem_int Try.underlying3 he)
    (fun w' h3 h4 => hK w' ⟨_, h3, h2.put (h1.tidy key_law).isMap s e⟩ h4)
/-- an entry of a map literal -/
theorem wp_insert {w : World} {ops : Array Oper} {rest : List Oper} {o : Oper} {a : Act} {Q : Exit → Act → World → Prop}
    (hg : o.guard = none) (m x v : Operand) (t : TypeId) (hop : o.op = Op.insert t m x v) (ht : Try.prog.underlying t = some (.map 9 3)) (b n : Nat) (g : Tm)
    (hm : a.eval m = .map (some b)) (hown : MapT w b n g) (hn : n < 4194304) (s : ByteArray) (e : Int) (hx : a.eval x = .string s) (hv : a.eval v = .int .i64 e) (hs : s.size ≤ maxLen) (he : (Lit.int .i64 e).wf = true)
    (hK : ∀ w', MapT w' b (n + 1) (putT g s e) → w.grownBy w' (some b) → wpList Try.prog ops Q rest (a.put o.dst undef) w') :
    wpList Try.prog ops Q (o :: rest) a w := by
  obtain ⟨D, h1, h2⟩ := hown
  refine wpList_plain hg fun K' hK' => ?_
  obtain ⟨w', hrun, r1, r2⟩ := h1.update key_law ht (by unfold maxLen; omega) (WideMaps.keyOf_string_mk Try.underlying9 hs) (plainElem_int Try.underlying3 he)
  unfold Oper.wp
  simp [execOp, hop, hm, hx, hv, hrun, Result.andThen]
  exact hK' _ _ (hK w' ⟨_, r1, h2.put (h1.tidy key_law).isMap s e⟩ r2)
/-- two times are one -/
def sameD : DataW Unit → DataW Unit → Bool
  | .lit (.int _ a), .lit (.int _ b) => a == b
  | _, _ => false
theorem equal_yes {D1 D2 : DataW Unit} {g1 g2 : Tm} (h1 : FitT D1 g1) (h2 : FitT D2 g2) (t1 : Maps.Tidy D1) (he : Lib.equalFuncD sameD D1 D2 = true) (s : ByteArray) (v : Int) (hv : g1 s = some v) : g2 s = some v := by
  obtain ⟨es, rfl, hp⟩ := t1
  unfold Lib.equalFuncD at he
  simp only [Bool.and_eq_true, List.all_eq_true] at he
  have hh : Maps.has (.map es) (ksL s) = true := by rw [h1.has, hv]; rfl
  obtain ⟨p, hpm, hps⟩ := List.any_eq_true.1 (show es.any (fun p => p.1.sameKey (ksL s)) = true from hh)
  have e1 : p.1 = ksL s := WideAt.sameKey_eq hps
  have e2 : p.2 = iD v := (WideAt.atKey_mem .nil (ksL_key s) hp (by rw [← e1]; exact hpm)).symm.trans (h1.at_ s v hv .nil)
  have hg := he.2 p hpm
  unfold Lib.goodD at hg
  simp only [Bool.and_eq_true] at hg
  rw [e1, h2.has] at hg
  cases hw : g2 s with
  | none => rw [hw] at hg; exact absurd hg.1 (by simp)
  | some u =>
    have h3 := hg.2
    rw [h2.at_ s u hw, e2] at h3
    have h4 : (v == u) = true := h3
    rw [eq_of_beq h4]
theorem equal_same {D1 D2 : DataW Unit} {g : Tm} (h1 : FitT D1 g) (h2 : FitT D2 g) (c1 : Maps.Canon D1) (c2 : Maps.Canon D2) (t1 : Maps.Tidy D1) : Lib.equalFuncD sameD D1 D2 = true := by
  have : D1 = D2 := Maps.ext c1 c2
    (fun k => by
      cases ha : Maps.has D1 k with
      | true => obtain ⟨s, rfl⟩ := h1.key k ha; rw [h1.has] at ha; rw [h2.has]; exact ha.symm
      | false =>
        cases hb : Maps.has D2 k with
        | false => rfl
        | true => obtain ⟨s, rfl⟩ := h2.key k hb; rw [h2.has] at hb; rw [h1.has, hb] at ha; cases ha)
    (fun k z ha => by
      obtain ⟨s, rfl⟩ := h1.key k ha
      rw [h1.has] at ha
      obtain ⟨v, hv⟩ := Option.isSome_iff_exists.1 ha
      rw [h1.at_ s v hv, h2.at_ s v hv])
  subst this
  obtain ⟨es, rfl, hp⟩ := t1
  unfold Lib.equalFuncD
  simp only [decide_true, Bool.true_and, List.all_eq_true]
  intro p hpm
  obtain ⟨es', he', _, hk'⟩ := c1
  obtain rfl : es = es' := by cases he'; rfl
  have hh : Maps.has (.map es) p.1 = true := List.any_eq_true.2 ⟨p, hpm, WideAt.sameKey_self (hk' p hpm)⟩
  obtain ⟨s, hs⟩ := h1.key p.1 hh
  unfold Lib.goodD
  rw [hh, Bool.true_and]
  have hv : (g s).isSome = true := by rw [← h1.has, ← hs]; exact hh
  obtain ⟨v, hv⟩ := Option.isSome_iff_exists.1 hv
  have e2 : p.2 = iD v := (WideAt.atKey_mem .nil (hk' p hpm) hp hpm).symm.trans (by rw [hs]; exact h1.at_ s v hv .nil)
  rw [e2, hs, h1.at_ s v hv]
  show (v == v) = true
  simp
end Go.Proofs.Ytamlbiagjipedaa

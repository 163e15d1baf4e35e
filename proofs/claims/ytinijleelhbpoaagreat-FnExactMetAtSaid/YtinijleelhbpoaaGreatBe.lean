/- Several texts in one: WayM MapT TripOn PlM PlI Serv ArrR ShelfM MapC OneLeg ByLegs SpecW. -/
import Derived.Test.YtinijleelhbpoaaGreatBb
import Derived.Lib.SlicesS
import Derived.Maps.Own
import Derived.Maps.OwnOps
import Derived.Maps.OwnSet
import Derived.Lib.SlMapEqual
import Derived.WalkSpells
import Derived.Test.YtinijleelhbpoaaGreatBd
import Derived.Test.YtinijleelhbpoaaGreatBa
import Derived.Lib.SlicesCompact
import Derived.Lib.RowBridge
import Derived.Test.YtinijleelhbpoaaGreatShelfS
import Derived.Sort.OwnSorted
import Derived.Shelf.SlMaps.Clone
import Derived.Shelf.SlMaps.Equal
import Derived.Test.YtinijleelhbpoaaGreatProg
import Derived.Test.YtinijleelhbpoaaGreatBc
/- The plain mathematics of ways: arrivals by place, round by round. -/
namespace Go.Proofs.YtinijleelhbpoaaGreat
open Go.RowKit
/-- times by place -/
abbrev Tm := ByteArray → Option Int
def readyI (ch : Int) (fr p : ByteArray) (a : Int) : Int := if p = fr then a else a + ch
/-- the end of the next trip of a leg from a time on -/
def legEnd (zs : List Int) (x : Lg) (r : Int) : Option Int :=
 if firstD (nextP x zs r) 61 < 0 then none else some (firstD (nextP x zs r) 61 * 1440 + x.s + x.k)
def legOut (zs : List Int) (ch : Int) (fr : ByteArray) (g : Tm) (x : Lg) : Option Int := (g x.f).bind fun a => legEnd zs x (readyI ch fr x.f a)
def putT (h : Tm) (p : ByteArray) (e : Int) : Tm := fun q => if q = p then some e else h q
/-- a time that comes for a place: taken if it is earlier -/
def takeT (h : Tm) (p : ByteArray) : Option Int → Tm
 | none => h
 | some e => match h p with
  | none => putT h p e
  | some b => if e < b then putT h p e else h
def oneT (zs : List Int) (ch : Int) (fr : ByteArray) (g h : Tm) (x : Lg) : Tm := takeT h x.t (legOut zs ch fr g x)
def roundT (zs : List Int) (ch : Int) (fr : ByteArray) (l : List Lg) (g : Tm) : Tm := l.foldl (oneT zs ch fr g) g
def initT (fr : ByteArray) (a : Int) : Tm := fun q => if q = fr then some a else none
def arrT (l : List Lg) (zs : List Int) (ch : Int) (fr : ByteArray) (a : Int) : Nat → Tm
 | 0 => initT fr a
 | k + 1 => roundT zs ch fr l (arrT l zs ch fr a k)
theorem putT_same (h : Tm) (p : ByteArray) (e : Int) : putT h p e p = some e := if_pos rfl
theorem putT_other (h : Tm) (p q : ByteArray) (e : Int) (n : q ≠ p) : putT h p e q = h q := if_neg n
theorem firstD_spec {P : Nat → Bool} {n : Nat} (h : ¬ firstD P n < 0) : ∃ d : Nat, firstD P n = d ∧ d < n ∧ P d = true := by
 unfold firstD at h ⊢
 cases e : (List.range n).find? P with
 | none => rw [e] at h; simp at h
 | some d => exact ⟨d, rfl, List.mem_range.1 (List.mem_of_find?_eq_some e), List.find?_some e⟩
theorem legEnd_gt {zs : List Int} {x : Lg} {r e : Int} (hx : legOk x = true) (h : legEnd zs x r = some e) : r < e := by
 unfold legEnd at h
 split at h
 ·cases h
 next hn =>
  obtain ⟨d, hd, _, hp⟩ := firstD_spec hn
  rw [hd] at h
  cases h
  have := (leg_bd hx).2.1
  unfold nextP at hp
  simp only [Bool.and_eq_true, decide_eq_true_eq] at hp
  omega
theorem legEnd_bd {zs : List Int} {x : Lg} {r e : Int} (hx : legOk x = true) (h : legEnd zs x r = some e) : 0 ≤ e ∧ e ≤ 100000 := by
 unfold legEnd at h
 split at h
 ·cases h
 next hn =>
  obtain ⟨d, hd, hl, hp⟩ := firstD_spec hn
  rw [hd] at h
  cases h
  have := leg_bd hx
  omega
theorem ready_ge {ch : Int} {fr p : ByteArray} {a : Int} (hc : 0 ≤ ch) : a ≤ readyI ch fr p a := by unfold readyI; split <;> omega
theorem legOut_some {zs : List Int} {ch : Int} {fr : ByteArray} {g : Tm} {x : Lg} {e : Int} (h : legOut zs ch fr g x = some e) : ∃ a, g x.f = some a ∧ legEnd zs x (readyI ch fr x.f a) = some e := by
 unfold legOut at h
 cases ha : g x.f with
 | none => rw [ha] at h; cases h
 | some a => rw [ha] at h; exact ⟨a, rfl, h⟩
/-- what a place has is taken over or made earlier -/
theorem takeT_le (h : Tm) (p q : ByteArray) (o : Option Int) {b : Int} (hb : h q = some b) : ∃ e, takeT h p o q = some e ∧ e ≤ b := by
 unfold takeT
 cases o with
 | none => exact ⟨b, hb, Int.le_refl _⟩
 | some e =>
  by_cases n : q = p
  ·subst n
   dsimp only
   rw [hb]
   dsimp only
   split
   next he => exact ⟨e, putT_same _ _ _, by omega⟩
   next he => exact ⟨b, hb, Int.le_refl _⟩
  ·dsimp only
   cases hp : h p with
   | none => exact ⟨b, (putT_other _ _ _ _ n).trans hb, Int.le_refl _⟩
   | some c =>
    dsimp only
    split
    next he => exact ⟨b, (putT_other _ _ _ _ n).trans hb, Int.le_refl _⟩
    next he => exact ⟨b, hb, Int.le_refl _⟩
theorem takeT_hit (h : Tm) (p : ByteArray) (e : Int) : ∃ e', takeT h p (some e) p = some e' ∧ e' ≤ e := by
 unfold takeT
 dsimp only
 cases hp : h p with
 | none => exact ⟨e, putT_same _ _ _, Int.le_refl _⟩
 | some b =>
  dsimp only
  split
  next he => exact ⟨e, putT_same _ _ _, Int.le_refl _⟩
  next he => exact ⟨b, hp, by omega⟩
/-- a place whose time has turned has the time that came, which is earlier than what was -/
theorem takeT_new (h : Tm) (p q : ByteArray) (o : Option Int) (hne : takeT h p o q ≠ h q) : q = p ∧ ∃ e, o = some e ∧ takeT h p o q = some e ∧ ∀ b, h q = some b → e < b := by
 unfold takeT at hne ⊢
 cases o with
 | none => exact absurd rfl hne
 | some e =>
  dsimp only at hne ⊢
  by_cases n : q = p
  ·subst n
   refine ⟨rfl, e, rfl, ?_⟩
   cases hp : h q with
   | none => exact ⟨putT_same _ _ _, fun b hb => by cases hb⟩
   | some c =>
    rw [hp] at hne
    dsimp only at hne ⊢
    split at hne
    next he => rw [if_pos he]; exact ⟨putT_same _ _ _, fun b hb => by cases hb; exact he⟩
    next he => exact absurd hp hne
  ·exfalso
   cases hp : h p with
   | none => rw [hp] at hne; exact hne (putT_other _ _ _ _ n)
   | some c =>
    rw [hp] at hne
    dsimp only at hne
    split at hne
    ·exact hne (putT_other _ _ _ _ n)
    ·exact hne rfl
theorem fold_le (zs : List Int) (ch : Int) (fr : ByteArray) (g : Tm) : ∀ (l : List Lg) (h : Tm) (q : ByteArray) {b : Int}, h q = some b → ∃ e, l.foldl (oneT zs ch fr g) h q = some e ∧ e ≤ b
 | [], h, q, b, hb => ⟨b, hb, Int.le_refl _⟩
 | x :: l, h, q, b, hb => by
  obtain ⟨c, hc, hcb⟩ := takeT_le h x.t q (legOut zs ch fr g x) hb
  obtain ⟨e, he, hec⟩ := fold_le zs ch fr g l (oneT zs ch fr g h x) q hc
  exact ⟨e, he, by omega⟩
theorem fold_hit (zs : List Int) (ch : Int) (fr : ByteArray) (g : Tm) : ∀ (l : List Lg) (h : Tm) (x : Lg), x ∈ l → ∀ {e : Int}, legOut zs ch fr g x = some e → ∃ e', l.foldl (oneT zs ch fr g) h x.t = some e' ∧ e' ≤ e
 | y :: l, h, x, hx, e, he => by
  rcases List.mem_cons.1 hx with rfl | hx
  ·obtain ⟨c, hc, hce⟩ := takeT_hit h x.t e
   rw [← he] at hc
   obtain ⟨e', h1, h2⟩ := fold_le zs ch fr g l (oneT zs ch fr g h x) x.t hc
   exact ⟨e', h1, by omega⟩
  ·exact fold_hit zs ch fr g l (oneT zs ch fr g h y) x hx he
theorem fold_new (zs : List Int) (ch : Int) (fr : ByteArray) (g : Tm) : ∀ (l : List Lg) (h : Tm) (q : ByteArray), l.foldl (oneT zs ch fr g) h q ≠ h q → ∃ x ∈ l, x.t = q ∧ ∃ e, legOut zs ch fr g x = some e ∧ l.foldl (oneT zs ch fr g) h q = some e ∧ ∀ b, h q = some b → e < b
 | [], h, q, hne => absurd rfl hne
 | y :: l, h, q, hne => by
  by_cases hn : l.foldl (oneT zs ch fr g) (oneT zs ch fr g h y) q = oneT zs ch fr g h y q
  ·have hy : oneT zs ch fr g h y q ≠ h q := fun e => hne (hn.trans e)
   obtain ⟨hq, e, h1, h2, h3⟩ := takeT_new h y.t q _ hy
   exact ⟨y, List.mem_cons_self .., hq.symm, e, h1, hn.trans h2, h3⟩
  ·obtain ⟨x, hx, ht, e, h1, h2, h3⟩ := fold_new zs ch fr g l (oneT zs ch fr g h y) q hn
   refine ⟨x, List.mem_cons_of_mem _ hx, ht, e, h1, h2, fun b hb => ?_⟩
   obtain ⟨c, hc, hcb⟩ := takeT_le h y.t q (legOut zs ch fr g y) hb
   have := h3 c hc
   omega
theorem round_le {zs : List Int} {ch : Int} {fr : ByteArray} {l : List Lg} {g : Tm} {q : ByteArray} {b : Int} (hb : g q = some b) : ∃ e, roundT zs ch fr l g q = some e ∧ e ≤ b := fold_le zs ch fr g l g q hb
theorem round_new {zs : List Int} {ch : Int} {fr : ByteArray} {l : List Lg} {g : Tm} {q : ByteArray} (h : roundT zs ch fr l g q ≠ g q) : ∃ x ∈ l, x.t = q ∧ ∃ e, legOut zs ch fr g x = some e ∧ roundT zs ch fr l g q = some e ∧ ∀ b, g q = some b → e < b := fold_new zs ch fr g l g q h
theorem round_hit {zs : List Int} {ch : Int} {fr : ByteArray} {l : List Lg} {g : Tm} {x : Lg} (hx : x ∈ l) {e : Int} (he : legOut zs ch fr g x = some e) : ∃ e', roundT zs ch fr l g x.t = some e' ∧ e' ≤ e := fold_hit zs ch fr g l g x hx he
theorem nodup_len {α : Type} [DecidableEq α] : ∀ (c l : List α), c.Nodup → (∀ q ∈ c, q ∈ l) → c.length ≤ l.length
 | [], _, _, _ => Nat.zero_le _
 | a :: c, l, hn, hs => by
  have ha : a ∈ l := hs a (List.mem_cons_self ..)
  have hna := List.nodup_cons.1 hn
  have := nodup_len c (l.erase a) hna.2 (fun q hq => (List.mem_erase_of_ne (fun e : q = a => hna.1 (e ▸ hq))).2 (hs q (List.mem_cons_of_mem _ hq)))
  rw [List.length_erase_of_mem ha] at this
  have := List.length_pos_of_mem ha
  simp only [List.length_cons]
  omega
/-- what turns in a round has a chain of places behind it, one more than rounds -/
theorem arr_chain {l : List Lg} {zs : List Int} {ch : Int} {fr : ByteArray} {a : Int} {pl : List ByteArray} (hok : ∀ x ∈ l, legOk x = true) (hc : 0 ≤ ch) (hfr : fr ∈ pl) (hpl : ∀ x ∈ l, x.t ∈ pl) : ∀ (r : Nat) (p : ByteArray) (v : Int),
  arrT l zs ch fr a r p = some v → (r = 0 ∨ arrT l zs ch fr a r p ≠ arrT l zs ch fr a (r - 1) p) →
  ∃ c : List ByteArray, c.Nodup ∧ c.length = r + 1 ∧ p ∈ c ∧ ∀ q ∈ c, q ∈ pl ∧ ∃ b, arrT l zs ch fr a r q = some b ∧ b ≤ v
 | 0, p, v, hv, _ => by
  have hp : p = fr := by
   unfold arrT initT at hv
   split at hv
   ·assumption
   ·cases hv
  refine ⟨[p], by simp, rfl, List.mem_singleton.2 rfl, fun q hq => ?_⟩
  obtain rfl := List.mem_singleton.1 hq
  exact ⟨hp ▸ hfr, v, hv, Int.le_refl _⟩
 | r + 1, p, v, hv, hne => by
  have hne' : roundT zs ch fr l (arrT l zs ch fr a r) p ≠ arrT l zs ch fr a r p := by
   rcases hne with h | h
   ·omega
   ·exact h
  obtain ⟨x, hx, rfl, e, ho, he, hb⟩ := round_new hne'
  have hve : e = v := by
   have := he.symm.trans hv
   exact Option.some.inj this
  subst hve
  obtain ⟨u, hu, hle⟩ := legOut_some ho
  have hue : u < e := Int.lt_of_le_of_lt (ready_ge hc) (legEnd_gt (hok x hx) hle)
  have hfrom : r = 0 ∨ arrT l zs ch fr a r x.f ≠ arrT l zs ch fr a (r - 1) x.f := by
   by_cases h0 : r = 0
   ·exact .inl h0
   ·refine .inr fun heq => ?_
    obtain ⟨r', rfl⟩ : ∃ r', r = r' + 1 := ⟨r - 1, by omega⟩
    rw [Nat.add_sub_cancel] at heq
    have ho' : legOut zs ch fr (arrT l zs ch fr a r') x = some e := by
     rw [← ho]; unfold legOut; rw [heq]
    obtain ⟨e', h1, h2⟩ := round_hit hx ho'
    have := hb e' h1
    omega
  obtain ⟨c, hn, hl, hm, hall⟩ := arr_chain hok hc hfr hpl r x.f u hu hfrom
  have hnot : x.t ∉ c := fun hin => by
   obtain ⟨_, b, hb1, hb2⟩ := hall _ hin
   have := hb b hb1
   omega
  refine ⟨x.t :: c, List.nodup_cons.2 ⟨hnot, hn⟩, by simp [hl], List.mem_cons_self .., fun q hq => ?_⟩
  rcases List.mem_cons.1 hq with rfl | hq
  ·exact ⟨hpl x hx, e, hv, Int.le_refl _⟩
  ·obtain ⟨h1, b, hb1, hb2⟩ := hall q hq
   obtain ⟨b', h3, h4⟩ := round_le (zs := zs) (ch := ch) (fr := fr) (l := l) hb1
   exact ⟨h1, b', h3, by omega⟩
/-- behind as many rounds as there are places nothing turns -/
theorem arr_fix {l : List Lg} {zs : List Int} {ch : Int} {fr : ByteArray} {a : Int} {pl : List ByteArray} (hok : ∀ x ∈ l, legOk x = true) (hc : 0 ≤ ch) (hfr : fr ∈ pl) (hpl : ∀ x ∈ l, x.t ∈ pl) {k : Nat} (hk : pl.length ≤ k + 1) : arrT l zs ch fr a (k + 1) = arrT l zs ch fr a k := by
 funext p
 by_cases h : arrT l zs ch fr a (k + 1) p = arrT l zs ch fr a k p
 ·exact h
 ·exfalso
  cases hv : arrT l zs ch fr a (k + 1) p with
  | none =>
   cases hb : arrT l zs ch fr a k p with
   | none => exact h (hv.trans hb.symm)
   | some b =>
    obtain ⟨e, he, _⟩ := round_le (zs := zs) (ch := ch) (fr := fr) (l := l) hb
    exact absurd (hv.symm.trans he) (by simp)
  | some v =>
   obtain ⟨c, h1, h2, _, h4⟩ := arr_chain hok hc hfr hpl (k + 1) p v hv (.inr (by simpa using h))
   have := nodup_len c pl h1 (fun q hq => (h4 q hq).1)
   omega
theorem arr_stay {l : List Lg} {zs : List Int} {ch : Int} {fr : ByteArray} {a : Int} {k : Nat} (h : arrT l zs ch fr a (k + 1) = arrT l zs ch fr a k) : ∀ m, arrT l zs ch fr a (k + m) = arrT l zs ch fr a k
 | 0 => rfl
 | m + 1 => by
  have := arr_stay h m
  show roundT zs ch fr l (arrT l zs ch fr a (k + m)) = _
  rw [this]
  exact h
theorem arr_same {l : List Lg} {zs : List Int} {ch : Int} {fr : ByteArray} {a : Int} {k m : Nat} (h : arrT l zs ch fr a (k + 1) = arrT l zs ch fr a k) (hm : k ≤ m) : arrT l zs ch fr a m = arrT l zs ch fr a k := by
 have := arr_stay h (m - k)
 rwa [show k + (m - k) = m by omega] at this
/-- the times are of the clock -/
theorem fold_bd (zs : List Int) (ch : Int) (fr : ByteArray) (g : Tm) : ∀ (l : List Lg) (h : Tm), (∀ x ∈ l, legOk x = true) → (∀ q b, h q = some b → 0 ≤ b ∧ b ≤ 100000) → ∀ q b, l.foldl (oneT zs ch fr g) h q = some b → 0 ≤ b ∧ b ≤ 100000
 | [], h, _, hb, q, b, e => hb q b e
 | x :: l, h, hok, hb, q, b, e => by
  refine fold_bd zs ch fr g l (oneT zs ch fr g h x) (fun y hy => hok y (List.mem_cons_of_mem _ hy)) (fun p c hc => ?_) q b e
  by_cases hn : takeT h x.t (legOut zs ch fr g x) p = h p
  ·exact hb p c (hn.symm.trans hc)
  ·obtain ⟨_, e', h1, h2, _⟩ := takeT_new _ _ _ _ hn
   obtain ⟨u, _, hu⟩ := legOut_some h1
   have hce : e' = c := Option.some.inj (h2.symm.trans hc)
   subst hce
   exact legEnd_bd (hok x (List.mem_cons_self ..)) hu
theorem arr_bd {l : List Lg} {zs : List Int} {ch : Int} {fr : ByteArray} {a : Int} (hok : ∀ x ∈ l, legOk x = true) (ha : 0 ≤ a ∧ a ≤ 100000) : ∀ (k : Nat) (q : ByteArray) (b : Int), arrT l zs ch fr a k q = some b → 0 ≤ b ∧ b ≤ 100000
 | 0, q, b, h => by
  unfold arrT initT at h
  split at h
  ·cases h; exact ha
  ·cases h
 | k + 1, q, b, h => fold_bd zs ch fr _ l _ hok (arr_bd hok ha k) q b h
/-- only places have times -/
theorem fold_dom (zs : List Int) (ch : Int) (fr : ByteArray) (g : Tm) (pl : List ByteArray) : ∀ (l : List Lg) (h : Tm), (∀ x ∈ l, x.t ∈ pl) → (∀ q b, h q = some b → q ∈ pl) → ∀ q b, l.foldl (oneT zs ch fr g) h q = some b → q ∈ pl
 | [], h, _, hb, q, b, e => hb q b e
 | x :: l, h, hok, hb, q, b, e => by
  refine fold_dom zs ch fr g pl l (oneT zs ch fr g h x) (fun y hy => hok y (List.mem_cons_of_mem _ hy)) (fun p c hc => ?_) q b e
  by_cases hn : takeT h x.t (legOut zs ch fr g x) p = h p
  ·exact hb p c (hn.symm.trans hc)
  ·obtain ⟨hp, _⟩ := takeT_new _ _ _ _ hn
   exact hp ▸ hok x (List.mem_cons_self ..)
theorem arr_dom {l : List Lg} {zs : List Int} {ch : Int} {fr : ByteArray} {a : Int} {pl : List ByteArray} (hfr : fr ∈ pl) (hpl : ∀ x ∈ l, x.t ∈ pl) : ∀ (k : Nat) (q : ByteArray) (b : Int), arrT l zs ch fr a k q = some b → q ∈ pl
 | 0, q, b, h => by
  unfold arrT initT at h
  split at h
  next e => exact e ▸ hfr
  ·cases h
 | k + 1, q, b, h => fold_dom zs ch fr _ pl l _ hpl (arr_dom hfr hpl k) q b h
/-- the times of the places in order, -1 where there is none -/
def listT (pl : List ByteArray) (g : Tm) : List Int := pl.map fun p => (g p).getD (-1)
theorem listT_len (pl : List ByteArray) (g : Tm) : (listT pl g).length = pl.length := by simp [listT]
theorem listT_at (pl : List ByteArray) (g : Tm) (j : Nat) (h : j < pl.length) : (listT pl g).getD j 0 = (g pl[j]).getD (-1) := by simp [listT, List.getD, h]
theorem listT_get (pl : List ByteArray) (g : Tm) (j : Nat) (h : j < (listT pl g).length) : (listT pl g)[j] = (g (pl[j]'(by rwa [listT_len] at h))).getD (-1) := by simp [listT]
theorem listT_put {pl : List ByteArray} (hn : pl.Nodup) (g : Tm) (j : Nat) (h : j < pl.length) (e : Int) : (listT pl g).set j e = listT pl (putT g pl[j] e) := by
 refine List.ext_getElem (by simp [listT_len]) fun i h1 h2 => ?_
 rw [List.getElem_set]
 have hi : i < pl.length := by rwa [listT_len] at h2
 rw [listT_get, listT_get]
 by_cases e1 : j = i
 ·subst e1; rw [if_pos rfl, putT_same]; rfl
 ·rw [if_neg e1, putT_other]
  intro e2
  exact e1 ((List.getElem_inj hn).1 e2).symm
/-- the index of a text, -1 if it is not there -/
abbrev idxI (l : List ByteArray) (p : ByteArray) : Int := Lib.idxOfS l p
theorem idx_hit {l : List ByteArray} {p : ByteArray} {k : Nat} (hk : k < l.length) (h : ∀ j (hj : j < k), l[j]'(by omega) ≠ p) (hp : l[k] = p) : idxI l p = k := by
 have := Lib.idxOfS_hit l l.length k p hk (Nat.le_refl _) (by simp [List.getD, hk, hp]) (fun j hj => by
  have hjl : j < l.length := by omega
  simpa [List.getD, hjl] using h j hj)
 rwa [List.take_length] at this
theorem idx_none {l : List ByteArray} {p : ByteArray} (h : p ∉ l) : idxI l p = -1 := by
 have := Lib.idxOfS_miss l l.length p (fun j hj => by
  simp only [List.getD, List.getElem?_eq_getElem hj, Option.getD_some]
  exact fun e => h (e ▸ List.getElem_mem hj))
 rwa [List.take_length] at this
theorem idx_mem {l : List ByteArray} (hn : l.Nodup) {p : ByteArray} (h : p ∈ l) : ∃ k : Nat, idxI l p = k ∧ ∃ hk : k < l.length, l[k] = p := by
 obtain ⟨k, hk, e⟩ := List.getElem_of_mem h
 exact ⟨k, idx_hit hk (fun j hj e' => by have := (List.getElem_inj hn).1 (e'.trans e.symm); omega) e, hk, e⟩
theorem idx_at {l : List ByteArray} (hn : l.Nodup) {k : Nat} (hk : k < l.length) : idxI l l[k] = k :=
 idx_hit hk (fun j hj e => by have := (List.getElem_inj hn).1 e; omega) rfl
end Go.Proofs.YtinijleelhbpoaaGreat

/- Maps from texts to times: what a map's block holds, as a table of times by place. -/
namespace Go.Proofs.YtinijleelhbpoaaGreat
open Go.RowKit Go.Maps
def ksL (s : ByteArray) : Lit := .string s.data.toList
theorem ksL_inj {s t : ByteArray} (h : ksL s = ksL t) : s = t := by
 have h1 : s.data.toList = t.data.toList := by simpa [ksL] using h
 have h2 : s.data = t.data := Array.toList_inj.1 h1
 cases s; cases t; simp_all
theorem ksL_ne {s t : ByteArray} (h : s ≠ t) : ksL s ≠ ksL t := fun e => h (ksL_inj e)
theorem ksL_key (s : ByteArray) : WideAt.IsKeyLit (ksL s) := trivial
def iD (v : Int) : DataW Unit := .lit (.int .i64 v)
structure FitT (D : DataW Unit) (g : Tm) : Prop where
 has : ∀ s, Maps.has D (ksL s) = (g s).isSome
 at_ : ∀ s v, g s = some v → ∀ z, D.atKey (ksL s) z = iD v
 key : ∀ k, Maps.has D k = true → ∃ s, k = ksL s
theorem FitT.empty : FitT (.map []) (fun _ => none) := ⟨fun _ => rfl, fun _ _ h => (by cases h), fun _ h => (by cases h)⟩
theorem FitT.put {D : DataW Unit} {g : Tm} (h : FitT D g) (hD : Maps.IsMap D) (s : ByteArray) (e : Int) : FitT (D.put (ksL s) (iD e)) (putT g s e) := by
 refine ⟨fun q => ?_, fun q v hq z => ?_, fun k hk => ?_⟩
 ·by_cases n : q = s
  ·subst n; rw [has_put_same hD (ksL_key q), putT_same]; rfl
  ·rw [has_put_other (ksL_ne n), putT_other _ _ _ _ n, h.has]
 ·by_cases n : q = s
  ·subst n; rw [putT_same] at hq; cases hq; exact atKey_put_same hD (ksL_key q) _ _
  ·rw [putT_other _ _ _ _ n] at hq; rw [atKey_put_other (ksL_ne n)]; exact h.at_ q v hq z
 ·by_cases n : k = ksL s
  ·exact ⟨s, n⟩
  ·rw [has_put_other n] at hk; exact h.key k hk
/-- block b is a map of at most n entries that holds these times -/
def MapT (w : World) (b n : Nat) (g : Tm) : Prop := ∃ D : DataW Unit, w.ownsMap Tryz.prog 9 (plainElem Tryz.prog 3) b n D ∧ FitT D g
theorem key_law : Keyed Tryz.prog 9 := string_keyed Tryz.underlying9
theorem zero_int (w : World) : (zeroValue 3).run Tryz.prog w = .ok (.int .i64 0) w := by kernel_rfl
section
variable {w w' : World} {b n : Nat} {g : Tm}
theorem MapT.made (w : World) : MapT (w.alloc (.map #[] 0)) w.heap.size 0 (fun _ => none) := ⟨_, World.ownsMap_made _ _ _ _, FitT.empty⟩
theorem MapT.mono (h : MapT w b n g) {m : Nat} (hm : n ≤ m) : MapT w b m g := let ⟨D, h1, h2⟩ := h; ⟨D, h1.mono hm, h2⟩
theorem MapT.lt (h : MapT w b n g) : b < w.heap.size := let ⟨_, h1, _⟩ := h; h1.lt
theorem MapT.kept {row : Option Nat} (h : MapT w b n g) (hg : w.grownBy w' row) (hne : some b ≠ row) : MapT w' b n g := let ⟨D, h1, h2⟩ := h; ⟨D, h1.kept hg hne, h2⟩
theorem MapT.below (h : MapT w b n g) (hb : Below w.heap.size w w') : MapT w' b n g := by
 obtain ⟨D, ⟨es, clock, h1, h2⟩, h3⟩ := h
 exact ⟨D, ⟨es, clock, (hb.block b (Array.getElem?_eq_some_iff.1 h1).1).trans h1, h2⟩, h3⟩
theorem MapT.alloc (h : MapT w b n g) (o : Obj) : MapT (w.alloc o) b n g := let ⟨D, h1, h2⟩ := h; ⟨D, h1.alloc o, h2⟩
/-- maps.Clone -/
theorem MapT.shape (h : MapT w b n g) : ∃ es clock, w.heap[b]? = some (.map es clock) ∧ MapT (w.alloc (.map es clock)) w.heap.size n g := by
 obtain ⟨D, ⟨es, clock, h1, h2⟩, h3⟩ := h
 exact ⟨es, clock, h1, D, ⟨es, clock, (MapKept.heap_alloc w _).1, h2⟩, h3⟩
end
theorem look_val {D : DataW Unit} {g : Tm} (h : FitT D g) {s : ByteArray} {c : Int} (hc : D.atKey (ksL s) (.lit (.int .i64 0)) = .lit (.int .i64 c)) : c = (g s).getD 0 := by
 cases hgs : g s with
 | none =>
  rw [Maps.atKey_of_not_has (by rw [h.has s, hgs]; rfl)] at hc
  simp at hc
  exact hc.symm
 | some v =>
  rw [h.at_ s v hgs] at hc
  simp [iD] at hc
  exact hc.symm
/-- 'v, ok := m[k]' -/
theorem wp_look {w : World} {ops : Array Oper} {rest : List Oper} {o : Oper} {a : Act} {Q : Exit → Act → World → Prop}
  (hg : o.guard = none) (m x : Operand) (t : TypeId) (hop : o.op = Op.lookup t m x true) (ht : Tryz.prog.underlying t = some (.map 9 3)) (b n : Nat) (g : Tm)
  (hm : a.eval m = .map (some b)) (hown : MapT w b n g) (s : ByteArray) (hx : a.eval x = .string s) (hs : s.size ≤ maxLen) (u : Int) (ok : Bool) (hu : (g s).getD 0 = u) (hok : (g s).isSome = ok)
  (hK : wpList Tryz.prog ops Q rest (a.put o.dst (.tuple #[.int .i64 u, .bool ok])) w) :
  wpList Tryz.prog ops Q (o :: rest) a w := by
 obtain ⟨D, h1, h2⟩ := hown
 refine wpList_lookup_own_ok_int w hg m x t hop 9 3 .i64 key_law ht Tryz.underlying3 (zero_int w) b n D hm h1 (.string s) (ksL s) hx (WideMaps.keyOf_string_mk Tryz.underlying9 hs) (fun c hc _ => ?_)
 rw [h2.has s, hok]
 rw [show c = u from (look_val h2 hc).trans hu]
 exact hK
/-- 'm[k]' -/
theorem wp_look1 {w : World} {ops : Array Oper} {rest : List Oper} {o : Oper} {a : Act} {Q : Exit → Act → World → Prop}
  (hg : o.guard = none) (m x : Operand) (t : TypeId) (hop : o.op = Op.lookup t m x false) (ht : Tryz.prog.underlying t = some (.map 9 3)) (b n : Nat) (g : Tm)
  (hm : a.eval m = .map (some b)) (hown : MapT w b n g) (s : ByteArray) (hx : a.eval x = .string s) (hs : s.size ≤ maxLen) (u : Int) (hu : (g s).getD 0 = u)
  (hK : wpList Tryz.prog ops Q rest (a.put o.dst (.int .i64 u)) w) :
  wpList Tryz.prog ops Q (o :: rest) a w := by
 obtain ⟨D, h1, h2⟩ := hown
 refine wpList_lookup_own_int w hg m x t hop 9 3 .i64 key_law ht Tryz.underlying3 (zero_int w) b n D hm h1 (.string s) (ksL s) hx (WideMaps.keyOf_string_mk Tryz.underlying9 hs) (fun c hc _ => ?_)
 rw [show c = u from (look_val h2 hc).trans hu]
 exact hK
/-- 'm[k] = v' -/
theorem wp_store {w : World} {ops : Array Oper} {rest : List Oper} {o : Oper} {a : Act} {Q : Exit → Act → World → Prop}
  (hg : o.guard = none) (m x v : Operand) (t : TypeId) (hop : o.op = Op.mapUpdate t m x v) (ht : Tryz.prog.underlying t = some (.map 9 3)) (b n : Nat) (g : Tm)
  (hm : a.eval m = .map (some b)) (hown : MapT w b n g) (hn : n < 4194304) (s : ByteArray) (e : Int) (hx : a.eval x = .string s) (hv : a.eval v = .int .i64 e) (hs : s.size ≤ maxLen) (he : (Lit.int .i64 e).wf = true)
  (hK : ∀ w', MapT w' b (n + 1) (putT g s e) → w.grownBy w' (some b) → wpList Tryz.prog ops Q rest (a.put o.dst undef) w') :
  wpList Tryz.prog ops Q (o :: rest) a w := by
 obtain ⟨D, h1, h2⟩ := hown
 exact wpList_mapUpdate_own w hg m x v t hop 9 3 key_law ht (plainElem Tryz.prog 3) b n D hm h1 (by unfold maxLen; omega) (.string s) (.int .i64 e) (ksL s) hx hv (WideMaps.keyOf_string_mk Tryz.underlying9 hs) (iD e) [] (plainElem_int Tryz.underlying3 he)
  (fun w' h3 h4 => hK w' ⟨_, h3, h2.put (h1.tidy key_law).isMap s e⟩ h4)
/-- an entry of a map literal -/
theorem wp_insert {w : World} {ops : Array Oper} {rest : List Oper} {o : Oper} {a : Act} {Q : Exit → Act → World → Prop}
  (hg : o.guard = none) (m x v : Operand) (t : TypeId) (hop : o.op = Op.insert t m x v) (ht : Tryz.prog.underlying t = some (.map 9 3)) (b n : Nat) (g : Tm)
  (hm : a.eval m = .map (some b)) (hown : MapT w b n g) (hn : n < 4194304) (s : ByteArray) (e : Int) (hx : a.eval x = .string s) (hv : a.eval v = .int .i64 e) (hs : s.size ≤ maxLen) (he : (Lit.int .i64 e).wf = true)
  (hK : ∀ w', MapT w' b (n + 1) (putT g s e) → w.grownBy w' (some b) → wpList Tryz.prog ops Q rest (a.put o.dst undef) w') :
  wpList Tryz.prog ops Q (o :: rest) a w := by
 obtain ⟨D, h1, h2⟩ := hown
 refine wpList_plain hg fun K' hK' => ?_
 obtain ⟨w', hrun, r1, r2⟩ := h1.update key_law ht (by unfold maxLen; omega) (WideMaps.keyOf_string_mk Tryz.underlying9 hs) (plainElem_int Tryz.underlying3 he)
 unfold Oper.wp
 simp [execOp, hop, hm, hx, hv, hrun, Result.andThen]
 exact hK' _ _ (hK w' ⟨_, r1, h2.put (h1.tidy key_law).isMap s e⟩ r2)
/-- two times are one -/
def sameD : DataW Unit → DataW Unit → Bool
 | .lit (.int _ a), .lit (.int _ b) => a == b
 | _, _ => false
theorem equal_yes {D1 D2 : DataW Unit} {g1 g2 : Tm} (h1 : FitT D1 g1) (h2 : FitT D2 g2) (t1 : Maps.Tidy D1) (he : Lib.equalFuncD sameD D1 D2 = true) (s : ByteArray) (v : Int) (hv : g1 s = some v) : g2 s = some v := by
 obtain ⟨es, rfl, hp⟩ := t1
 unfold Lib.equalFuncD at he
 simp only [Bool.and_eq_true, List.all_eq_true] at he
 have hh : Maps.has (.map es) (ksL s) = true := by rw [h1.has, hv]; rfl
 obtain ⟨p, hpm, hps⟩ := List.any_eq_true.1 (show es.any (fun p => p.1.sameKey (ksL s)) = true from hh)
 have e1 : p.1 = ksL s := WideAt.sameKey_eq hps
 have e2 : p.2 = iD v := (WideAt.atKey_mem .nil (ksL_key s) hp (by rw [← e1]; exact hpm)).symm.trans (h1.at_ s v hv .nil)
 have hg := he.2 p hpm
 unfold Lib.goodD at hg
 simp only [Bool.and_eq_true] at hg
 rw [e1, h2.has] at hg
 cases hw : g2 s with
 | none => rw [hw] at hg; exact absurd hg.1 (by simp)
 | some u =>
  have h3 := hg.2
  rw [h2.at_ s u hw, e2] at h3
  have h4 : (v == u) = true := h3
  rw [eq_of_beq h4]
theorem equal_same {D1 D2 : DataW Unit} {g : Tm} (h1 : FitT D1 g) (h2 : FitT D2 g) (c1 : Maps.Canon D1) (c2 : Maps.Canon D2) (t1 : Maps.Tidy D1) : Lib.equalFuncD sameD D1 D2 = true := by
 have : D1 = D2 := Maps.ext c1 c2
  (fun k => by
   cases ha : Maps.has D1 k with
   | true => obtain ⟨s, rfl⟩ := h1.key k ha; rw [h1.has] at ha; rw [h2.has]; exact ha.symm
   | false =>
    cases hb : Maps.has D2 k with
    | false => rfl
    | true => obtain ⟨s, rfl⟩ := h2.key k hb; rw [h2.has] at hb; rw [h1.has, hb] at ha; cases ha)
  (fun k z ha => by
   obtain ⟨s, rfl⟩ := h1.key k ha
   rw [h1.has] at ha
   obtain ⟨v, hv⟩ := Option.isSome_iff_exists.1 ha
   rw [h1.at_ s v hv, h2.at_ s v hv])
 subst this
 obtain ⟨es, rfl, hp⟩ := t1
 unfold Lib.equalFuncD
 simp only [decide_true, Bool.true_and, List.all_eq_true]
 intro p hpm
 obtain ⟨es', he', _, hk'⟩ := c1
 obtain rfl : es = es' := by cases he'; rfl
 have hh : Maps.has (.map es) p.1 = true := List.any_eq_true.2 ⟨p, hpm, WideAt.sameKey_self (hk' p hpm)⟩
 obtain ⟨s, hs⟩ := h1.key p.1 hh
 unfold Lib.goodD
 rw [hh, Bool.true_and]
 have hv : (g s).isSome = true := by rw [← h1.has, ← hs]; exact hh
 obtain ⟨v, hv⟩ := Option.isSome_iff_exists.1 hv
 have e2 : p.2 = iD v := (WideAt.atKey_mem .nil (hk' p hpm) hp hpm).symm.trans (by rw [hs]; exact h1.at_ s v hv .nil)
 rw [e2, hs, h1.at_ s v hv]
 show (v == v) = true
 simp
end Go.Proofs.YtinijleelhbpoaaGreat

/- The first trip of a leg for what has arrived at its start. -/
namespace Go.Proofs.YtinijleelhbpoaaGreat
open Go.RowKit
/-- the day of the next trip of a leg, -1 if nothing has arrived at its start or none runs -/
def onD (zs : List Int) (ch : Int) (fr : ByteArray) (g : Tm) (x : Lg) : Int := match g x.f with
 | none => -1
 | some a => firstD (nextP x zs (readyI ch fr x.f a)) 61
theorem onD_none {zs : List Int} {ch : Int} {fr : ByteArray} {g : Tm} {x : Lg} (h : g x.f = none) : onD zs ch fr g x = -1 := by unfold onD; rw [h]
theorem onD_some {zs : List Int} {ch : Int} {fr : ByteArray} {g : Tm} {x : Lg} {a : Int} (h : g x.f = some a) : onD zs ch fr g x = firstD (nextP x zs (readyI ch fr x.f a)) 61 := by unfold onD; rw [h]
theorem legOut_of {zs : List Int} {ch : Int} {fr : ByteArray} {g : Tm} {x : Lg} : legOut zs ch fr g x = if onD zs ch fr g x < 0 then none else some (onD zs ch fr g x * 1440 + x.s + x.k) := by
 unfold legOut onD
 cases g x.f with
 | none => rfl
 | some a => rfl
theorem onD_bd {zs : List Int} {ch : Int} {fr : ByteArray} {g : Tm} {x : Lg} : onD zs ch fr g x = -1 ∨ (0 ≤ onD zs ch fr g x ∧ onD zs ch fr g x ≤ 60) := by
 unfold onD
 cases g x.f with
 | none => exact .inl rfl
 | some a =>
  dsimp only
  rcases firstD_bd (nextP x zs (readyI ch fr x.f a)) 61 with h | h
  ·by_cases h0 : firstD (nextP x zs (readyI ch fr x.f a)) 61 = -1
   ·exact .inl h0
   ·exact .inr (by omega)
  ·exact .inl h
theorem str_ext {s t : ByteArray} (h : s.data.toList = t.data.toList) : s = t := by cases s; cases t; simp_all [Array.toList_inj]
theorem str_eq {s t : ByteArray} (h : s = t) : (s.toList == t.toList) = true := by rw [h]; simp
theorem str_ne {s t : ByteArray} (h : s ≠ t) : (s.toList == t.toList) = false := by
 have : s.toList ≠ t.toList := fun e => h (str_ext (by rw [← ByteArray.toList_eq, ← ByteArray.toList_eq]; exact e))
 simpa using this
theorem trOk_net {l : List Lg} {zs : List Int} {x : Int} {k : Nat} (h : netB l zs x = true) (hk : k < l.length) : trOk l zs x k = true := by
 unfold trOk; rw [h, decide_eq_true (by omega)]; rfl
set_option maxRecDepth 100000 in
set_option maxHeartbeats 2000000 in
theorem trip_on (fr : ByteArray) (b m : Nat) (g : Tm) (k : Nat) (A : Option Addr) (ca : Nat) (l : List Lg) (D : Option Addr) (cd : Nat) (zs : List Int) (x : Int) (w : World) (hA : InK 6 lgC w A l) (hD : IntsIn w D zs) (hs : ∀ z ∈ l, z.f.size ≤ maxLen ∧ z.t.size ≤ maxLen) (hn : l.length ≤ 1048576) (hm : zs.length ≤ 1048576)
  (hnet : netB l zs x = true) (hk : k < l.length) (hM : MapT w b m g) (hg : ∀ q v, g q = some v → 0 ≤ v ∧ v ≤ 100000) :
  Calls Tryz.prog 160 #[.agg #[.slice A l.length ca, .slice D zs.length cd, .int .i64 x], .string fr, .map (some b), .int .i64 (k : Int)] w fun e w' => e = .returned (trTup k (onD zs x fr g l[k])) ∧ Below w.heap.size w w' := by
 have hB := Box3.new (T := 27) (v0 := .slice A l.length ca) (v1 := .slice D zs.length cd) (v2 := .int .i64 x) w
 have hb0 := ((Below.refl w.heap.size w).alloc (Nat.le_refl _) (.cells #[.slice A l.length ca, .slice D zs.length cd, .int .i64 x] 27)).alloc (by simp) (.cells #[.int .i64 0, .int .i64 0] 32)
 replace hB := hB.below ((Below.refl _ _).alloc (Nat.le_refl _) (.cells #[.int .i64 0, .int .i64 0] 32))
 have hT := Box2.new (T := 32) (v0 := .int .i64 0) (v1 := .int .i64 0) (w.alloc (.cells #[.slice A l.length ca, .slice D zs.length cd, .int .i64 x] 27))
 rw [show (w.alloc (.cells #[.slice A l.length ca, .slice D zs.length cd, .int .i64 x] 27)).heap.size = w.heap.size + 1 from by simp] at hT
 have H0 := Lib.hid (And.intro hB (And.intro hb0 (And.intro (hA.below hb0) (And.intro (hD.below hb0) hT))))
 have HM := Lib.hid (hM.below hb0)
 have HX := Lib.hid (fun r W (h1 : InK 6 lgC W A l) (h2 : IntsIn W D zs) => next_trip (k : Int) r A ca l D cd zs x W h1 h2 hs hn hm)
 have HV := Lib.hid (fun r => nextD_ok (b := r) (trOk_net hnet hk) hk)
 obtain ⟨gb, rfl, hgb, c0, c1, c2, c3, c4, c5⟩ := (hA.below hb0).lg k hk
 obtain ⟨b0, b1, b2⟩ := hB.cells
 obtain ⟨r0, r1⟩ := hT.cells
 obtain ⟨f0, f1⟩ := hT.free
 have hx := (net_at hnet).2.2.2
 have hsf := (hs l[k] (List.getElem_mem hk)).1
 have hki : (k : Int) < (l.length : Int) := by omega
 obtain ⟨y, hy⟩ : ∃ y, y = l[k] := ⟨_, rfl⟩
 rw [← hy] at c0 c1 c2 c3 c4 c5 hsf HV ⊢
 clear hy hM hB hA hD hs hb0 hT
 cases hgy : g y.f with
 | none =>
  have HR := Lib.hid (show trTup k (onD zs x fr g y) = .tuple #[.agg #[.int .i64 0, .int .i64 0], .bool false] from trTup_no (by rw [onD_none hgy]; omega))
  go_enter Tryz.func160, Tryz.ntmps160
  go_wp2_with (first
   | (at_lookup; refine wp_look rfl _ _ 114 rfl Tryz.underlying114 b m g rfl HM.out _ rfl hsf 0 false (by rw [hgy]; rfl) (by rw [hgy]; rfl) ?_)
   | fail)
  go_wp2
  exact bodyPost_ret (v := .tuple #[.agg #[.int .i64 0, .int .i64 0], .bool false]) (by simp [results, Tryz.results160, go_sem, r0, r1]) rfl ⟨by rw [HR.out], H0.out.2.1⟩
 | some a =>
  have ha := hg y.f a hgy
  have HR := Lib.hid (onD_some (zs := zs) (ch := x) (fr := fr) (x := y) hgy)
  obtain ⟨p, q, r, hV⟩ : ∃ p q r, trTup k (onD zs x fr g y) = .tuple #[.agg #[.int .i64 p, .int .i64 q], .bool r] := by unfold trTup; split <;> exact ⟨_, _, _, rfl⟩
  have HY := Lib.hid (fun W h1 h2 => by
   have h := HX.out (readyI x fr y.f a) W h1 h2
   rw [HV.out, ← HR.out, hV] at h
   exact h)
  rw [hV]
  clear hV HX HV
  by_cases hfr : y.f = fr
  ·have hq := str_eq hfr
   have hrd : readyI x fr y.f a = a := if_pos hfr
   rw [hrd] at HY
   clear hfr hrd
   go_enter Tryz.func160, Tryz.ntmps160
   go_wp2_with (first
    | (at_lookup; refine wp_look rfl _ _ 114 rfl Tryz.underlying114 b m g rfl HM.out _ rfl hsf a true (by rw [hgy]; rfl) (by rw [hgy]; rfl) ?_)
    | fail)
   refine (HY.out _ H0.out.2.2.1 H0.out.2.2.2.1).mono ?_; rintro e w1 ⟨rfl, hb1⟩
   clear r0 r1 f0 f1 b0 b1 b2 c0 c1 c2 c3 c4 c5
   obtain ⟨r0, r1⟩ := (H0.out.2.2.2.2.below hb1).cells
   obtain ⟨f0, f1⟩ := (H0.out.2.2.2.2.below hb1).free
   have HB1 := Lib.hid (H0.out.2.1.trans (hb1.mono (Nat.le_of_lt H0.out.1.lt)))
   go_wp2
   exact bodyPost_ret (v := .tuple #[.agg #[.int .i64 p, .int .i64 q], .bool r]) (by simp [results, Tryz.results160, go_sem, r0, r1]) rfl
    ⟨rfl, (HB1.out.setCell (by dsimp only; omega) _).setCell (by dsimp only; omega) _⟩
  ·have hq := str_ne hfr
   have hrd : readyI x fr y.f a = a + x := if_neg hfr
   rw [hrd] at HY
   clear hfr hrd
   go_enter Tryz.func160, Tryz.ntmps160
   go_wp2_with (first
    | (at_lookup; refine wp_look rfl _ _ 114 rfl Tryz.underlying114 b m g rfl HM.out _ rfl hsf a true (by rw [hgy]; rfl) (by rw [hgy]; rfl) ?_)
    | fail)
   refine (HY.out _ H0.out.2.2.1 H0.out.2.2.2.1).mono ?_; rintro e w1 ⟨rfl, hb1⟩
   clear r0 r1 f0 f1 b0 b1 b2 c0 c1 c2 c3 c4 c5
   obtain ⟨r0, r1⟩ := (H0.out.2.2.2.2.below hb1).cells
   obtain ⟨f0, f1⟩ := (H0.out.2.2.2.2.below hb1).free
   have HB1 := Lib.hid (H0.out.2.1.trans (hb1.mono (Nat.le_of_lt H0.out.1.lt)))
   go_wp2
   exact bodyPost_ret (v := .tuple #[.agg #[.int .i64 p, .int .i64 q], .bool r]) (by simp [results, Tryz.results160, go_sem, r0, r1]) rfl
    ⟨rfl, (HB1.out.setCell (by dsimp only; omega) _).setCell (by dsimp only; omega) _⟩
end Go.Proofs.YtinijleelhbpoaaGreat

/- Texts in ascending order, each once. No program. -/
namespace Go.Proofs.YtinijleelhbpoaaGreat
open Go.RowKit
abbrev Bs := List UInt8
def lt' (a b : Bs) : Prop := Op.bytesLess a b = true
theorem lt_iff : ∀ x y : Bs, Op.bytesLess x y = true ↔ x < y
 | [], [] => by simp [Op.bytesLess]
 | _ :: _, [] => by simp [Op.bytesLess]
 | [], _ :: _ => by simp [Op.bytesLess]
 | a :: x, b :: y => by rw [bl_cons, lt_iff x y, List.cons_lt_cons_iff]
def insU (p : Bs) : List Bs → List Bs
 | [] => [p]
 | x :: r => if Op.bytesLess x p then x :: insU p r else if x = p then x :: r else p :: x :: r
def placesL (l : List Bs) : List Bs := l.foldl (fun o p => insU p o) []
theorem placesL_snoc (l : List Bs) (p : Bs) : placesL (l ++ [p]) = insU p (placesL l) := by simp [placesL]
theorem ins_mem (p y : Bs) : ∀ l, y ∈ insU p l ↔ y = p ∨ y ∈ l
 | [] => by simp [insU]
 | x :: r => by
  unfold insU
  split
  ·rw [List.mem_cons, ins_mem p y r, List.mem_cons]
   constructor
   ·rintro (h | h | h)
    ·exact .inr (.inl h)
    ·exact .inl h
    ·exact .inr (.inr h)
   ·rintro (h | h | h)
    ·exact .inr (.inl h)
    ·exact .inl h
    ·exact .inr (.inr h)
  ·split
   ·rename_i h
    subst h
    constructor
    ·exact .inr
    ·rintro (rfl | h)
     ·exact List.mem_cons_self
     ·exact h
   ·simp
theorem ins_sorted (p : Bs) : ∀ l, l.Pairwise lt' → (insU p l).Pairwise lt'
 | [], _ => by simp [insU]
 | x :: r, h => by
  obtain ⟨h1, h2⟩ := List.pairwise_cons.1 h
  unfold insU
  split
  ·rename_i hx
   refine List.pairwise_cons.2 ⟨fun y hy => ?_, ins_sorted p r h2⟩
   rcases (ins_mem p y r).1 hy with rfl | hy
   ·exact hx
   ·exact h1 y hy
  ·rename_i hx
   split
   ·exact h
   ·rename_i hne
    have hp : lt' p x := by
     cases hh : Op.bytesLess p x with
     | true => exact hh
     | false => exact absurd (bl_total x p (by simpa using hx) hh) hne
    refine List.pairwise_cons.2 ⟨fun y hy => ?_, h⟩
    rcases List.mem_cons.1 hy with rfl | hy
    ·exact hp
    ·exact bl_trans _ _ _ hp (h1 y hy)
theorem pl_step (P : List Bs → Prop) (h0 : P []) (hs : ∀ o p, P o → P (insU p o)) : ∀ (l o : List Bs), P o → P (l.foldl (fun o p => insU p o) o)
 | [], _, h => h
 | p :: l, o, h => pl_step P h0 hs l _ (hs o p h)
theorem pl_sorted (l : List Bs) : (placesL l).Pairwise lt' := pl_step _ List.Pairwise.nil (fun o p h => ins_sorted p o h) l [] List.Pairwise.nil
theorem pl_mem_aux (y : Bs) : ∀ (l o : List Bs), y ∈ l.foldl (fun o p => insU p o) o ↔ y ∈ l ∨ y ∈ o
 | [], o => by simp
 | p :: l, o => by
  rw [List.foldl_cons, pl_mem_aux y l, ins_mem, List.mem_cons]
  constructor
  ·rintro (h | h | h)
   ·exact .inl (.inr h)
   ·exact .inl (.inl h)
   ·exact .inr h
  ·rintro ((h | h) | h)
   ·exact .inr (.inl h)
   ·exact .inl h
   ·exact .inr (.inr h)
theorem pl_mem (l : List Bs) (y : Bs) : y ∈ placesL l ↔ y ∈ l := by
 unfold placesL; rw [pl_mem_aux]; simp
/-- only one list is in order and has these members -/
theorem sorted_eq : ∀ a b : List Bs, a.Pairwise lt' → b.Pairwise lt' → (∀ y, y ∈ a ↔ y ∈ b) → a = b
 | [], b, _, _, h => by
  cases b with
  | nil => rfl
  | cons y r => exact absurd ((h y).2 List.mem_cons_self) (by simp)
 | x :: a, [], _, _, h => absurd ((h x).1 List.mem_cons_self) (by simp)
 | x :: a, y :: b, ha, hb, h => by
  obtain ⟨a1, a2⟩ := List.pairwise_cons.1 ha
  obtain ⟨b1, b2⟩ := List.pairwise_cons.1 hb
  have e : x = y := by
   rcases List.mem_cons.1 ((h x).1 List.mem_cons_self) with e | hx
   ·exact e
   ·rcases List.mem_cons.1 ((h y).2 List.mem_cons_self) with e | hy
    ·exact e.symm
    ·have h1 := b1 x hx
     have h2 := bl_asymm _ _ (a1 y hy)
     unfold lt' at h1
     rw [h1] at h2; cases h2
  subst e
  congr 1
  refine sorted_eq a b a2 b2 fun z => ?_
  constructor
  ·intro hz
   rcases List.mem_cons.1 ((h z).1 (List.mem_cons_of_mem _ hz)) with e | hz'
   ·subst e
    have h1 := a1 z hz
    unfold lt' at h1
    rw [bl_irrefl] at h1; cases h1
   ·exact hz'
  ·intro hz
   rcases List.mem_cons.1 ((h z).2 (List.mem_cons_of_mem _ hz)) with e | hz'
   ·subst e
    have h1 := b1 z hz
    unfold lt' at h1
    rw [bl_irrefl] at h1; cases h1
   ·exact hz'
/-- where a text is put in -/
theorem ins_at (p : Bs) : ∀ (l : List Bs) (k : Nat), k ≤ l.length → (∀ j (hj : j < l.length), j < k → Op.bytesLess l[j] p = true) → (∀ h : k < l.length, Op.bytesLess l[k] p = false) →
  insU p l = if ∃ h : k < l.length, l[k] = p then l else l.take k ++ p :: l.drop k
 | [], k, hk, _, _ => by simp [insU]
 | x :: r, 0, _, _, h2 => by
  have h := h2 (by simp)
  simp only [List.getElem_cons_zero] at h
  unfold insU
  rw [h]
  by_cases e : x = p
  ·simp [e]
  ·simp [e]
 | x :: r, k + 1, hk, h1, h2 => by
  have h := h1 0 (by simp) (by omega)
  simp only [List.getElem_cons_zero] at h
  unfold insU
  rw [if_pos h, ins_at p r k (by simpa using hk) (fun j hj hjk => by have := h1 (j + 1) (by simpa using hj) (by omega); simpa using this) (fun hh => by have := h2 (by simpa using hh); simpa using this)]
  by_cases e : ∃ h : k < r.length, r[k] = p
  ·obtain ⟨e1, e2⟩ := e
   rw [if_pos ⟨e1, e2⟩, if_pos ⟨by simpa using e1, by simpa using e2⟩]
  ·rw [if_neg e, if_neg (fun ⟨e1, e2⟩ => e ⟨by simpa using e1, by simpa using e2⟩)]
   simp
theorem ins_len (p : Bs) : ∀ l, (insU p l).length ≤ l.length + 1
 | [] => by simp [insU]
 | x :: r => by
  unfold insU
  split
  ·have := ins_len p r; simp only [List.length_cons]; omega
  ·split <;> simp
theorem pl_len (l : List Bs) : (placesL l).length ≤ l.length := by
 have aux : ∀ (l o : List Bs), (l.foldl (fun o p => insU p o) o).length ≤ o.length + l.length := by
  intro l
  induction l with
  | nil => intro o; simp
  | cons p l ih =>
   intro o
   have h1 := ih (insU p o)
   have h2 := ins_len p o
   simp only [List.foldl_cons, List.length_cons]
   omega
 simpa [placesL] using aux l []
theorem compact_of (d : Array Bs) (hd : ∀ i j, i < j → j < d.size → ¬ d[j]! < d[i]!) : ∀ m, m ≤ d.size → (∀ x, x ∈ Lib.compactUpTo d m ↔ ∃ j, j < m ∧ d[j]! = x) ∧ (Lib.compactUpTo d m).Pairwise lt'
 | 0, _ => by simp [Lib.compactUpTo]
 | m + 1, hm => by
  obtain ⟨h1, h2⟩ := compact_of d hd m (by omega)
  rw [Lib.compactUpTo_succ]
  cases hk : Lib.keeps d m with
  | true =>
   rw [if_pos rfl]
   refine ⟨fun x => ?_, List.pairwise_append.2 ⟨h2, List.pairwise_singleton _ _, fun a ha b hb => ?_⟩⟩
   ·rw [List.mem_append, h1, List.mem_singleton]
    constructor
    ·rintro (⟨j, hj, e⟩ | rfl)
     ·exact ⟨j, by omega, e⟩
     ·exact ⟨m, by omega, rfl⟩
    ·rintro ⟨j, hj, e⟩
     by_cases hjm : j = m
     ·subst hjm; exact .inr e.symm
     ·exact .inl ⟨j, by omega, e⟩
   ·rw [List.mem_singleton] at hb
    subst hb
    obtain ⟨j, hj, rfl⟩ := (h1 a).1 ha
    have h3 : m ≠ 0 := by omega
    have h4 : d[m]! ≠ d[m - 1]! := by
     simp only [Lib.keeps, decide_eq_true_eq] at hk
     rcases hk with hk | hk
     ·exact absurd hk h3
     ·exact hk
    have h5 := hd (m - 1) m (by omega) (by omega)
    have h6 : d[m - 1]! < d[m]! := by
     rw [← lt_iff]
     cases hh : Op.bytesLess d[m - 1]! d[m]! with
     | true => rfl
     | false => exact absurd (bl_total _ _ (by
       cases hq : Op.bytesLess d[m]! d[m - 1]! with
       | true => exact absurd ((lt_iff _ _).1 hq) h5
       | false => rfl) hh) h4
    by_cases hj1 : j = m - 1
    ·subst hj1; exact (lt_iff _ _).2 h6
    ·have h7 := hd j (m - 1) (by omega) (by omega)
     have h8 : Op.bytesLess d[j]! d[m - 1]! = true ∨ d[j]! = d[m - 1]! := by
      cases hh : Op.bytesLess d[j]! d[m - 1]! with
      | true => exact .inl rfl
      | false => exact .inr (bl_total _ _ hh (by
        cases hq : Op.bytesLess d[m - 1]! d[j]! with
        | true => exact absurd ((lt_iff _ _).1 hq) h7
        | false => rfl))
     rcases h8 with h8 | h8
     ·exact bl_trans _ _ _ h8 ((lt_iff _ _).2 h6)
     ·rw [h8]; exact (lt_iff _ _).2 h6
  | false =>
   have hmz : 0 < m := by
    rcases Nat.eq_zero_or_pos m with rfl | h
    ·simp [Lib.keeps] at hk
    ·exact h
   have e : d[m]! = d[m - 1]! := by
    simp only [Lib.keeps, decide_eq_false_iff_not, not_or, ne_eq, Decidable.not_not] at hk
    exact hk.2
   refine ⟨fun x => ?_, by simpa using h2⟩
   simp only [Bool.false_eq_true, if_false, List.append_nil]
   rw [h1]
   constructor
   ·rintro ⟨j, hj, e'⟩; exact ⟨j, by omega, e'⟩
   ·rintro ⟨j, hj, e'⟩
    by_cases hjm : j = m
    ·subst hjm; exact ⟨j - 1, by omega, by rw [← e, e']⟩
    ·exact ⟨j, by omega, e'⟩
/-- sorted, and compacted -/
theorem compact_sort (l : List Bs) : Lib.compact (l.mergeSort fun x y => decide (x ≤ y)) = placesL l := by
 have hp : (l.mergeSort fun x y => decide (x ≤ y)).Pairwise (fun a b => decide (a ≤ b) = true) := List.pairwise_mergeSort
  (fun a b c h1 h2 => by simp only [decide_eq_true_eq] at *; exact List.le_trans h1 h2)
  (fun a b => by simp only [Bool.or_eq_true, decide_eq_true_eq]; exact List.le_total a b) l
 have hm : ∀ y, y ∈ (l.mergeSort fun x y => decide (x ≤ y)) ↔ y ∈ l := fun y => (List.mergeSort_perm l _).mem_iff
 generalize (l.mergeSort fun x y => decide (x ≤ y)) = s at *
 have h := compact_of s.toArray (fun i j hij hj => by
  have hj' : j < s.length := by simpa using hj
  have := List.pairwise_iff_getElem.1 hp i j (by omega) hj' hij
  simp only [decide_eq_true_eq] at this
  simp only [List.getElem!_toArray, getElem!_pos s j hj', getElem!_pos s i (by omega)]
  exact List.not_lt.2 this) s.length (by simp)
 refine sorted_eq _ _ h.2 (pl_sorted l) fun y => ?_
 unfold Lib.compact
 rw [h.1 y, pl_mem, ← hm y]
 constructor
 ·rintro ⟨j, hj, rfl⟩
  simp only [List.getElem!_toArray, getElem!_pos s j hj]
  exact List.getElem_mem hj
 ·intro hy
  obtain ⟨j, hj, rfl⟩ := List.getElem_of_mem hy
  exact ⟨j, hj, by simp only [List.getElem!_toArray, getElem!_pos s j hj]⟩
end Go.Proofs.YtinijleelhbpoaaGreat

/- The contract of impl.PlacesOf. -/
namespace Go.Proofs.YtinijleelhbpoaaGreat
open Go.RowKit Go.Sort Go.Lib
def flatS (l : List Lg) : List ByteArray := l.flatMap fun r => [r.f, r.t]
theorem flatS_len (l : List Lg) : (flatS l).length = 2 * l.length := by
 unfold flatS
 induction l with
 | nil => rfl
 | cons r l ih => rw [List.flatMap_cons, List.length_append, ih]; simp; omega
theorem flatS_snoc (l : List Lg) (k : Nat) (hk : k < l.length) : flatS (l.take (k + 1)) = flatS (l.take k) ++ [l[k].f, l[k].t] := by
 unfold flatS
 rw [List.take_succ_eq_append_getElem hk, List.flatMap_append, List.flatMap_singleton]
/-- the places of legs, in order, each once -/
def placesB (l : List Lg) : List ByteArray := ofL (placesL (lists (flatS l)))
theorem placesB_len (l : List Lg) : (placesB l).length ≤ 2 * l.length := by
 unfold placesB
 have := pl_len (lists (flatS l))
 rw [lists_len, flatS_len] at this
 rw [ofL_len]; exact this
theorem enc_lists (l : List ByteArray) : (lists l).map encStr = strV l := by
 unfold lists strV
 rw [List.map_map]
 exact List.map_congr_left fun x _ => by cases x; rfl
theorem enc_ofL (l : List (List UInt8)) : strV (ofL l) = l.map encStr := by
 unfold ofL strV
 rw [List.map_map]; rfl
theorem heap_put {w : World} {g n : Nat} {cur : Array Value} {e : TypeId} {fr : Nat × Nat} (d : Array (List UInt8)) (hb : w.heap[g]? = some (.cells cur e fr)) :
  (putRow encStr (Sort.ahead w n) g 0 d).heap[g]? = some (.cells (putCells encStr 0 d cur) e fr) := by
 simp [putRow, mapBlock, Sort.ahead, Array.getElem?_modify, hb, onCells]
theorem grown_put {w : World} {g n : Nat} (d : Array (List UInt8)) : w.grownBy (putRow encStr (Sort.ahead w n) g 0 d) (some g) := by
 refine ⟨rfl, rfl, rfl, by simp, fun k hk hne => ?_⟩
 have : g ≠ k := fun e => hne (by rw [e])
 simp [putRow, mapBlock, Sort.ahead, Array.getElem?_modify, this]
theorem sort_strs {w : World} {base g cap : Nat} {l : List ByteArray} (h : OwnStr w base (.slice (some ⟨g, 0, none⟩) l.length cap) l) (hn : l.length ≤ 17592186044415) :
  Calls Tryz.prog 205 #[.slice (some ⟨g, 0, none⟩) l.length cap] w fun e w' => e = .returned (.tuple #[]) ∧ OwnStr w' base (.slice (some ⟨g, 0, none⟩) l.length cap) (ofL ((lists l).mergeSort fun x y => decide (x ≤ y))) ∧ w.grownBy w' (some g) := by
 rcases h.2 with ⟨e, _⟩ | ⟨g', c, cur, e, hb, hblk, h1, h2, h3, h4⟩
 ·cases e
 cases e
 rw [Nat.mul_one] at h4
 have hl : (lists l).length = l.length := lists_len l
 have hz : ((lists l).mergeSort fun x y => decide (x ≤ y)).length = (lists l).length := List.length_mergeSort _
 have hH := holds_of_block (ss := lists l) hblk (by rw [hl, h4, enc_lists])
 have hS := Tryz.slices_Sort_string g 0 cap (lists l) w hH (Array.getElem?_eq_some_iff.1 hblk).1 (by rw [hl]; omega)
 rw [hl] at hS
 refine hS.mono ?_
 rintro e w' ⟨rfl, n, os, rfl⟩
 refine ⟨rfl, ?_, grownBy_sorted _⟩
 have := ownsRow_sorted (n := n) (os := os) (ss := lists l) hz hb hblk (by rw [hl]; exact h1) h2 (by rw [h3])
 unfold OwnStr
 rw [enc_ofL, ofL_len, hz]
 rw [hl] at this ⊢
 exact this
theorem compact_strs {w : World} {base g cap : Nat} {l : List ByteArray} (h : OwnStr w base (.slice (some ⟨g, 0, none⟩) l.length cap) l) (hn : l.length ≤ 17592186044415) :
  Calls Tryz.prog 206 #[.slice (some ⟨g, 0, none⟩) l.length cap] w fun e w' => ∃ v, e = .returned v ∧ OwnStr w' base v (ofL (Lib.compact (lists l))) ∧ w.grownBy w' (some g) := by
 rcases h.2 with ⟨e, _⟩ | ⟨g', c, cur, e, hb, hblk, h1, h2, h3, h4⟩
 ·cases e
 cases e
 rw [Nat.mul_one] at h4
 have hl : (lists l).length = l.length := lists_len l
 have hc := Lib.compact_length_le (lists l)
 have hH := holds_of_block (ss := lists l) hblk (by rw [hl, h4, enc_lists])
 have hS := Tryz.slices_Compact_string g 0 cap (lists l) w hH (by rw [hl]; omega) (by rw [hl]; exact h1)
 rw [hl] at hS
 refine hS.mono ?_
 rintro e w' ⟨rfl, q, rfl⟩
 refine ⟨_, rfl, ?_, grown_put _⟩
 unfold OwnStr
 rw [enc_ofL, ofL_len]
 refine ⟨by simp, .inr ⟨g, cap, _, rfl, hb, heap_put _ hblk, by omega, h2, by simp [putCells, h3], ?_⟩⟩
 have ht := take_putCells cur (Lib.compact (lists l) ++ List.replicate (l.length - (Lib.compact (lists l)).length) []) (by rw [List.length_append, List.length_replicate, h3]; omega)
 have hx : (Lib.compact (lists l) ++ List.replicate (l.length - (Lib.compact (lists l)).length) ([] : List UInt8)).length = l.length := by rw [List.length_append, List.length_replicate]; omega
 rw [hx] at ht
 have h5 := congrArg (List.take (Lib.compact (lists l)).length) ht
 rw [List.take_take, Nat.min_eq_left (by omega), List.map_append, List.take_left' (by simp)] at h5
 rw [Nat.mul_one]
 exact h5
set_option maxRecDepth 100000 in
set_option maxHeartbeats 2000000 in
theorem places_impl (A : Option Addr) (ca : Nat) (l : List Lg) (D : Option Addr) (cd m : Nat) (x : Int) (w : World) (hA : InK 6 lgC w A l) (hn : l.length ≤ 1048576) :
  Calls Tryz.prog 159 #[.agg #[.slice A l.length ca, .slice D m cd, .int .i64 x]] w fun e w' => (∃ v, e = .returned v ∧ OwnStr w' w.heap.size v (placesB l)) ∧ RowKit.Below w.heap.size w w' := by
 obtain ⟨i0, hi0, hz0, hz1, hz2⟩ := info_parts str_info
 have hB := Box3.new (T := 27) (v0 := .slice A l.length ca) (v1 := .slice D m cd) (v2 := .int .i64 x) w
 have hb0 := (Below.refl w.heap.size w).alloc (Nat.le_refl _) (.cells #[.slice A l.length ca, .slice D m cd, .int .i64 x] 27)
 have HA := Lib.hid hA; clear hA
 go_enter Tryz.func159, Tryz.ntmps159
 go_wp2_with (at_make; refine wpList_make_own _ rfl _ _ 54 rfl w.heap.size 9 i0 _ 1 Tryz.underlying54 hi0 hz0 hz1 _ _ _ (2 * l.length) rfl rfl (by omega) ?c1 ?c2 ?c3 ?_)
 case c1 => rw [hz2]; omega
 case c2 => unfold maxLen; omega
 case c3 => exact hb0.size
 intro w1 hown1 hg1
 have hb1 : RowKit.Below w.heap.size w w1 := hb0.grown hg1 hb0.size (by simp)
 have hbW := (RowKit.Below.refl _ _).grown hg1 (Nat.le_refl _) (by simp)
 have hB1 := hB.below hbW
 obtain ⟨c0, c1, c2⟩ := hB1.cells
 clear hB hb0 hbW hg1 hB1
 go_wp2
 clear c0 c1 c2
 go_loopw [3, 14] (fun v i wr => ∃ k : Nat, k ≤ l.length ∧ i = .int .i64 k ∧ OwnStr wr w.heap.size v (flatS (l.take k)) ∧ RowKit.Below w.heap.size w wr) (fun _ i _ => l.length - (intOf i).toNat)
 case atStart => exact ⟨0, Nat.zero_le _, rfl, hown1, hb1⟩
 case round =>
  obtain ⟨k, hk, rfl, hown, hbb⟩ := hrel
  by_cases hlt : (k : Int) < (l.length : Int)
  ·have hkn : k < l.length := by omega
   obtain ⟨g, rfl, hg, c0, c1, c2, c3, c4, c5⟩ := (HA.out.below hbb).lg k hkn
   have HF := Lib.hid (flatS_snoc l k hkn)
   have hfl : (flatS (l.take k)).length = 2 * k := by rw [flatS_len, List.length_take, Nat.min_eq_left hk]
   obtain ⟨y, hy⟩ : ∃ y, y = l[k] := ⟨_, rfl⟩
   rw [← hy] at c0 c1 c2 c3 c4 c5 HF
   clear hy
   have hsz := hbb.size
   let L : Obj := .cells #[.string y.f, .string y.t, .int .i64 y.s, .int .i64 y.k, .int .i64 y.d, .int .i64 y.r] 62
   have hnw : ∀ j u, (strV [y.f, y.t])[j]? = some u → ((wr.alloc L).alloc (.cells #[.string y.f, .string y.t] 9)).cell? ((⟨wr.heap.size + 1, 0, none⟩ : Addr).add j) = some u := by
    have h := World.news_of_block (cs := #[.string y.f, .string y.t]) (t := 9) (fr := (0, 0)) (heap_alloc_new (wr.alloc L) (.cells #[.string y.f, .string y.t] 9))
    rw [show (wr.alloc L).heap.size = wr.heap.size + 1 by simp] at h
    exact h
   have h1c : ∀ u ∈ strV [y.f, y.t], u.oneCell' = true := by
    intro u hu
    obtain ⟨z, _, rfl⟩ := List.mem_map.1 hu; rfl
   have hc3 : (flatS (l.take k)).length + 2 ≤ maxLen := by rw [hfl]; unfold maxLen; omega
   have hc4 : ((flatS (l.take k)).length + 2) * 16 ≤ 140737488355328 := by rw [hfl]; omega
   have hc5 : w.heap.size ≤ ((wr.alloc L).alloc (.cells #[.string y.f, .string y.t] 9)).heap.size := by simp; omega
   have HW := Lib.hid hnw; clear hnw hfl
   unfold OwnStr at hown
   go_wp2_with (at_builtin; refine wpList_append_own _ rfl (.tmp 18) (.tmp 23) 54 rfl w.heap.size 9 i0 _ 1 16 Tryz.underlying54 hi0 hz0 hz1 hz2 rfl (by omega) _ _ _ rfl ((hown.alloc L).alloc _) ⟨wr.heap.size + 1, 0, none⟩ 2 2 (strV [y.f, y.t]) rfl rfl HW.out h1c hc3 hc4 hc5 ?_; intro v' w4 hown' hg' _)
   go_roundw
   case rel =>
    refine ⟨k + 1, by omega, by go_num, ?_, ((hbb.alloc hsz _).alloc (by simp; omega) _).grown hg' hc5 (fun g h => (hown.lt g h).1)⟩
    rw [HF.out]
    unfold OwnStr
    rw [strV_app, List.length_append]
    exact hown'
   case measure => simp [intOf]; omega
  ·obtain rfl : k = l.length := by omega
   rw [List.take_length] at hown
   have HP := Lib.hid (show ofL (Lib.compact (lists (ofL ((lists (flatS l)).mergeSort fun x y => decide (x ≤ y))))) = placesB l by rw [lists_ofL, compact_sort]; rfl)
   by_cases h0 : flatS l = []
   ·have HE := Lib.hid (show placesB l = [] by unfold placesB; rw [h0]; rfl)
    rw [h0] at hown
    obtain ⟨B, cap, rfl⟩ := own_empty hown
    have HO := Lib.hid hown; clear hown h0
    go_wp2_with fail
    refine (Tryz.slices_Sort_string_none B cap wr).mono ?_; rintro e w' ⟨rfl, rfl⟩
    go_wp2_with fail
    refine (Tryz.slices_Compact_string_empty B cap w').mono ?_; rintro e w'' ⟨rfl, rfl⟩
    go_wp2
    go_ret
    exact ⟨⟨_, rfl, by rw [HE.out]; exact HO.out⟩, hbb⟩
   ·have hpos : 0 < (flatS l).length := List.length_pos_iff.2 h0
    have hlen : (flatS l).length ≤ 17592186044415 := by rw [flatS_len]; omega
    obtain ⟨g, cap, rfl, hbg, hgl⟩ := World.ownsRow.form hown hpos
    have hz : (ofL ((lists (flatS l)).mergeSort fun x y => decide (x ≤ y))).length = (flatS l).length := by rw [ofL_len, List.length_mergeSort, lists_len]
    have HS := Lib.hid (sort_strs hown hlen)
    clear h0 hown
    go_wp2_with fail
    refine HS.out.mono ?_; rintro e w2 ⟨rfl, ho2, hg2⟩
    have hb2 := hbb.grown hg2 hbb.size (fun k h => by cases h; exact hbg)
    rw [← hz] at ho2 hlen
    have HC := Lib.hid (compact_strs ho2 hlen)
    rw [hz] at HC
    clear HS ho2 hlen
    go_wp2_with fail
    refine HC.out.mono ?_; rintro e w3 ⟨v', rfl, ho3, hg3⟩
    rw [HP.out] at ho3
    have HO := Lib.hid ho3; clear ho3
    go_wp2
    go_ret
    exact ⟨⟨_, rfl, HO.out⟩, hb2.grown hg3 hb2.size (fun k h => by cases h; exact hbg)⟩
end Go.Proofs.YtinijleelhbpoaaGreat

/- Contracts of serves, mostLegs, timeOf, and of slices.Index and Contains on texts. -/
namespace Go.Proofs.YtinijleelhbpoaaGreat
open Go.RowKit
theorem own_getD {w : World} {b g cap : Nat} {l : List ByteArray} (h : OwnStr w b (.slice (some ⟨g, 0, none⟩) l.length cap) l) : ∀ j, j < l.length → w.cell? ⟨g, 0 + j, none⟩ = some (.string (l.getD j ByteArray.empty)) := by
 intro j hj
 rw [Nat.zero_add, World.ownsRow.cellAt (w := w) (base := b) (e := 9) (size := 1) h j (by omega)]
 simp [strV, List.getD, hj]
theorem contains_own {w : World} {b : Nat} {v : Value} {l : List ByteArray} (h : OwnStr w b v l) (hl : l.length ≤ 4000000) (s : ByteArray) :
  Calls Tryz.prog 117 #[v, .string s] w fun e w' => e = .returned (.bool (Lib.containsS l s)) ∧ w' = w := by
 by_cases h0 : l = []
 ·subst h0
  obtain ⟨A, cap, rfl⟩ := own_empty h
  exact Tryz.slices_Contains_string_empty A cap s w
 ·obtain ⟨g, cap, rfl, _, _⟩ := own_slice h h0
  have := Tryz.slices_Contains_string g 0 l.length cap l s w (Nat.le_refl _) (by omega) (own_getD h)
  rwa [List.take_length] at this
theorem index_own {w : World} {b : Nat} {v : Value} {l : List ByteArray} (h : OwnStr w b v l) (hl : l.length ≤ 4000000) (s : ByteArray) :
  Calls Tryz.prog 175 #[v, .string s] w fun e w' => e = .returned (.int .i64 (idxI l s)) ∧ w' = w := by
 by_cases h0 : l = []
 ·subst h0
  obtain ⟨A, cap, rfl⟩ := own_empty h
  exact Tryz.slices_Index_string_empty A cap s w
 ·obtain ⟨g, cap, rfl, _, _⟩ := own_slice h h0
  have := Tryz.slices_Index_string g 0 l.length cap l s w (Nat.le_refl _) (by omega) (own_getD h)
  rwa [List.take_length] at this
def servB (l : List Lg) (zs : List Int) (x : Int) (s : ByteArray) : Bool := netB l zs x && Lib.containsS (placesB l) s
set_option maxRecDepth 100000 in
set_option maxHeartbeats 2000000 in
theorem serves_impl (s : ByteArray) (A : Option Addr) (ca : Nat) (l : List Lg) (D : Option Addr) (cd : Nat) (zs : List Int) (x : Int) (w : World) (hA : InK 6 lgC w A l) (hD : IntsIn w D zs) (hs : ∀ z ∈ l, z.f.size ≤ maxLen ∧ z.t.size ≤ maxLen) (hn : l.length ≤ 1048576) (hm : zs.length ≤ 1048576) :
  Calls Tryz.prog 155 #[.agg #[.slice A l.length ca, .slice D zs.length cd, .int .i64 x], .string s] w fun e w' => e = .returned (.bool (servB l zs x s)) ∧ Below w.heap.size w w' := by
 have hB := Box3.new (T := 27) (v0 := .slice A l.length ca) (v1 := .slice D zs.length cd) (v2 := .int .i64 x) w
 have hb0 := (Below.refl w.heap.size w).alloc (Nat.le_refl _) (.cells #[.slice A l.length ca, .slice D zs.length cd, .int .i64 x] 27)
 have H0 := Lib.hid (And.intro hB (And.intro hb0 (And.intro (hA.below hb0) (hD.below hb0)))); clear hB hb0 hA hD
 have HI := Lib.hid (fun W (h1 : InK 6 lgC W A l) (h2 : IntsIn W D zs) => is_net A ca l D cd zs x W h1 h2 hs hn hm)
 have HP := Lib.hid (fun W (h1 : InK 6 lgC W A l) => places_impl A ca l D cd zs.length x W h1 hn)
 have HL := Lib.hid (show (placesB l).length ≤ 4000000 by have := placesB_len l; omega)
 have hSB : servB l zs x s = (netB l zs x && Lib.containsS (placesB l) s) := rfl
 clear hs
 generalize servB l zs x s = R at *
 cases hnet : netB l zs x with
 | false =>
  rw [hnet] at HI hSB; clear hnet
  have HR := Lib.hid hSB; clear hSB
  go_enter Tryz.func155, Tryz.ntmps155
  go_wp2_with fail
  refine (HI.out _ H0.out.2.2.1 H0.out.2.2.2).mono ?_; rintro e w1 ⟨rfl, hb1⟩
  go_wp2
  go_ret
  exact ⟨ret_bool HR.out.symm, H0.out.2.1.trans (hb1.mono (Nat.le_of_lt H0.out.1.lt))⟩
 | true =>
  rw [hnet] at HI hSB; clear hnet
  have HR := Lib.hid hSB; clear hSB
  go_enter Tryz.func155, Tryz.ntmps155
  go_wp2_with fail
  refine (HI.out _ H0.out.2.2.1 H0.out.2.2.2).mono ?_; rintro e w1 ⟨rfl, hb1⟩
  obtain ⟨b0, b1, b2⟩ := (H0.out.1.below hb1).cells
  go_wp2_with fail
  refine (HP.out w1 (H0.out.2.2.1.below hb1)).mono ?_; rintro e w2 ⟨⟨v, rfl, hv⟩, hb2⟩
  have HC := Lib.hid (contains_own hv HL.out s)
  clear hv b0 b1 b2
  generalize Lib.containsS (placesB l) s = V at *
  go_wp2_with fail
  refine HC.out.mono ?_; rintro e w3 ⟨rfl, rfl⟩
  go_wp2
  go_ret
  exact ⟨ret_bool HR.out.symm, H0.out.2.1.trans ((hb1.trans (hb2.mono hb1.size)).mono (Nat.le_of_lt H0.out.1.lt))⟩
set_option maxRecDepth 100000 in
set_option maxHeartbeats 2000000 in
theorem most_legs (A : Option Addr) (ca : Nat) (l : List Lg) (D : Option Addr) (cd m : Nat) (x : Int) (w : World) (hA : InK 6 lgC w A l) (hn : l.length ≤ 1048576) :
  Calls Tryz.prog 91 #[.agg #[.slice A l.length ca, .slice D m cd, .int .i64 x]] w fun e w' => e = .returned (.int .i64 ((placesB l).length : Nat)) ∧ Below w.heap.size w w' := by
 have hB := Box3.new (T := 27) (v0 := .slice A l.length ca) (v1 := .slice D m cd) (v2 := .int .i64 x) w
 have hb0 := (Below.refl w.heap.size w).alloc (Nat.le_refl _) (.cells #[.slice A l.length ca, .slice D m cd, .int .i64 x] 27)
 have H0 := Lib.hid (And.intro hB (And.intro hb0 (hA.below hb0))); clear hB hb0 hA
 have HP := Lib.hid (fun W (h1 : InK 6 lgC W A l) => places_impl A ca l D cd m x W h1 hn)
 go_enter Tryz.func91, Tryz.ntmps91
 go_wp2_with fail
 refine (HP.out _ H0.out.2.2).mono ?_; rintro e w2 ⟨⟨v, rfl, hv⟩, hb2⟩
 have hvo : ∃ (B : Option Addr) (cap : Nat), v = .slice B (placesB l).length cap := by
  by_cases h0 : placesB l = []
  ·rw [h0] at hv
   rw [h0]; exact own_empty hv
  ·obtain ⟨g, cap, rfl, _⟩ := own_slice hv h0
   exact ⟨_, _, rfl⟩
 obtain ⟨B, cap, rfl⟩ := hvo
 clear hv
 go_wp2
 go_ret
 exact ⟨rfl, H0.out.2.1.trans (hb2.mono (Nat.le_of_lt H0.out.1.lt))⟩
def timeB (pl : List ByteArray) (p : ByteArray) (ts : List Int) : Int := if idxI pl p < 0 ∨ (ts.length : Int) ≤ idxI pl p then -1 else ts.getD (idxI pl p).toNat 0
theorem idxF_bd (x : ByteArray) : ∀ (zs : List ByteArray) (i : Nat), Lib.idxFromS zs x i = -1 ∨ ((i : Int) ≤ Lib.idxFromS zs x i ∧ Lib.idxFromS zs x i < (i : Int) + zs.length)
 | [], _ => .inl rfl
 | z :: zs, i => by
  unfold Lib.idxFromS
  by_cases e : z = x
  ·rw [if_pos e]; simp; omega
  ·rw [if_neg e]
   rcases idxF_bd x zs (i + 1) with h | h
   ·exact .inl h
   ·simp only [List.length_cons]; omega
theorem idxI_ge (l : List ByteArray) (p : ByteArray) : -1 ≤ idxI l p ∧ idxI l p < max 1 (l.length : Int) := by
 have h := idxF_bd p l 0
 rw [show idxI l p = Lib.idxFromS l p 0 from rfl]
 omega
set_option maxRecDepth 100000 in
set_option maxHeartbeats 2000000 in
theorem time_of (p : ByteArray) (E : Option Addr) (ce : Nat) (ts : List Int) (A : Option Addr) (ca : Nat) (l : List Lg) (D : Option Addr) (cd m : Nat) (x : Int) (w : World) (hA : InK 6 lgC w A l) (hE : IntsIn w E ts) (hn : l.length ≤ 1048576) :
  Calls Tryz.prog 181 #[.agg #[.slice A l.length ca, .slice D m cd, .int .i64 x], .string p, .slice E ts.length ce] w fun e w' => e = .returned (.int .i64 (timeB (placesB l) p ts)) ∧ Below w.heap.size w w' := by
 have hB := Box3.new (T := 27) (v0 := .slice A l.length ca) (v1 := .slice D m cd) (v2 := .int .i64 x) w
 have hb0 := (Below.refl w.heap.size w).alloc (Nat.le_refl _) (.cells #[.slice A l.length ca, .slice D m cd, .int .i64 x] 27)
 have H0 := Lib.hid (And.intro hB (And.intro hb0 (And.intro (hA.below hb0) (hE.below hb0)))); clear hB hb0 hA hE
 have HP := Lib.hid (fun W (h1 : InK 6 lgC W A l) => places_impl A ca l D cd m x W h1 hn)
 have HL := Lib.hid (show (placesB l).length ≤ 4000000 by have := placesB_len l; omega)
 have hg := idxI_ge (placesB l) p
 have hV : timeB (placesB l) p ts = if idxI (placesB l) p < 0 ∨ (ts.length : Int) ≤ idxI (placesB l) p then -1 else ts.getD (idxI (placesB l) p).toNat 0 := rfl
 generalize timeB (placesB l) p ts = R at *
 go_enter Tryz.func181, Tryz.ntmps181
 go_wp2_with fail
 refine (HP.out _ H0.out.2.2.1).mono ?_; rintro e w2 ⟨⟨v, rfl, hv⟩, hb2⟩
 have HC := Lib.hid (index_own hv HL.out p)
 have HE := Lib.hid (H0.out.2.2.2.below hb2)
 have HB := Lib.hid (H0.out.2.1.trans (hb2.mono (Nat.le_of_lt H0.out.1.lt)))
 clear hv hb2 H0
 generalize idxI (placesB l) p = J at *
 go_wp2_with fail
 refine HC.out.mono ?_; rintro e w3 ⟨rfl, rfl⟩
 by_cases h1 : J < 0
 ·have HR := Lib.hid (hV.trans (if_pos (Or.inl h1))); clear hV
  go_wp2
  go_ret
  exact ⟨ret_int HR.out.symm, HB.out⟩
 ·by_cases h2 : (ts.length : Int) ≤ J
  ·have HR := Lib.hid (hV.trans (if_pos (Or.inr h2))); clear hV
   go_wp2
   go_ret
   exact ⟨ret_int HR.out.symm, HB.out⟩
  ·have hV' := hV.trans (if_neg (by omega))
   clear hV hg
   obtain ⟨k, rfl⟩ : ∃ k : Nat, J = k := ⟨J.toNat, by omega⟩
   have hk : k < ts.length := by omega
   obtain ⟨gb, rfl, hgb, c0⟩ := HE.out k hk
   have HR := Lib.hid (show R = ts[k] by rw [hV']; simp [List.getD, hk]); clear hV'
   obtain ⟨y, hy⟩ : ∃ y, y = ts[k] := ⟨_, rfl⟩
   rw [← hy] at c0 HR
   clear hy
   go_wp2
   go_ret
   exact ⟨ret_int HR.out.symm, HB.out⟩
end Go.Proofs.YtinijleelhbpoaaGreat

/- A slice of maps of times: what it holds. -/
namespace Go.Proofs.YtinijleelhbpoaaGreat
open Go.RowKit
theorem map_info : (Tryz.prog.info? 114).map (fun i => (i.zero, i.size, i.bytes)) = some (some (.map none), 1, 8) := by kernel_rfl
def mapV (bs : List Nat) : List Value := bs.map fun b => .map (some b)
theorem mapV_len (bs : List Nat) : (mapV bs).length = bs.length := by simp [mapV]
theorem mapV_app (a b : List Nat) : mapV (a ++ b) = mapV a ++ mapV b := by simp [mapV]
theorem mapV_at (bs : List Nat) (i : Nat) (h : i < bs.length) : (mapV bs)[i]? = some (.map (some bs[i])) := by simp [mapV, h]
def lenV : Value → Nat
 | .slice _ n _ => n
 | _ => 0
structure ArrR (w : World) (base : Nat) (v : Value) (bs : List Nat) (f : Nat → Tm) : Prop where
 own : w.ownsRow base 114 1 v bs.length (mapV bs)
 maps : ∀ i (h : i < bs.length), base ≤ bs[i] ∧ MapT w bs[i] (1 + 20 * i) (f i)
section
variable {w w' : World} {base : Nat} {v : Value} {bs : List Nat} {f : Nat → Tm}
theorem ArrR.below (h : ArrR w base v bs f) (hb : Below w.heap.size w w') : ArrR w' base v bs f :=
 ⟨World.ownsRow.kept h.own (row := none) ⟨hb.os, hb.tape, hb.output, hb.size, fun i hi _ => hb.block i hi⟩ (by cases v.ownBlock <;> simp), fun i hi => ⟨(h.maps i hi).1, (h.maps i hi).2.below hb⟩⟩
theorem ArrR.form (h : ArrR w base v bs f) (hp : 0 < bs.length) : ∃ g cap, v = .slice (some ⟨g, 0, none⟩) bs.length cap ∧ base ≤ g ∧ g < w.heap.size := World.ownsRow.form h.own hp
theorem ArrR.mono (h : ArrR w base v bs f) {b : Nat} (hb : b ≤ base) : ArrR w b v bs f := by
 refine ⟨⟨h.own.1, ?_⟩, fun i hi => ⟨Nat.le_trans hb (h.maps i hi).1, (h.maps i hi).2⟩⟩
 rcases h.own.2 with h | ⟨g, cap, cur, h1, h2, h3⟩
 ·exact .inl h
 ·exact .inr ⟨g, cap, cur, h1, Nat.le_trans hb h2, h3⟩
theorem ArrR.cell {g cap : Nat} (h : ArrR w base (.slice (some ⟨g, 0, none⟩) bs.length cap) bs f) (i : Nat) (hi : i < bs.length) : w.cell? ⟨g, i, none⟩ = some (.map (some bs[i])) := by
 rw [World.ownsRow.cellAt (w := w) (base := base) (e := 114) (size := 1) h.own i (by omega), mapV_at bs i hi]
/-- the slice's own block is none of the maps -/
theorem map_off {b n : Nat} {g : Tm} (h : w.ownsRow base 114 1 v bs.length (mapV bs)) (hm : MapT w b n g) : some b ≠ v.ownBlock := by
 intro e
 obtain ⟨D, ⟨es, clock, hb, _⟩, _⟩ := hm
 rcases h.2 with ⟨rfl, _⟩ | ⟨g', cap, cur, rfl, _, h2, _⟩
 ·cases e
 ·have : b = g' := Option.some.inj e
  subst this
  rw [hb] at h2
  cases h2
theorem ArrR.push {o : Obj} {u : World} {v' : Value} {b : Nat} (h : ArrR w base v bs f) (hb : base ≤ b) (hm : MapT w b (1 + 20 * bs.length) (f bs.length))
  (hg : (w.alloc o).grownBy u v.ownBlock) (ho : u.ownsRow base 114 1 v' (bs.length + 1) (mapV bs ++ mapV [b])) : ArrR u base v' (bs ++ [b]) f := by
 refine ⟨by rw [List.length_append, mapV_app]; exact ho, fun i hi => ?_⟩
 by_cases e : i < bs.length
 ·rw [List.getElem_append_left e]
  obtain ⟨h1, h2⟩ := h.maps i e
  exact ⟨h1, (h2.alloc o).kept hg (map_off h.own h2)⟩
 ·obtain rfl : i = bs.length := by simp at hi; omega
  rw [List.getElem_append_right (by omega)]
  simp only [Nat.sub_self, List.getElem_cons_zero]
  exact ⟨hb, (hm.alloc o).kept hg (map_off h.own hm)⟩
end
theorem map_news (wr : World) (b : Nat) : ∀ j u, (mapV [b])[j]? = some u → (wr.alloc (.cells #[.map (some b)] 114)).cell? ((⟨wr.heap.size, 0, none⟩ : Addr).add j) = some u := by
 intro j u h
 cases j with
 | zero =>
  have hn : (wr.alloc (.cells #[.map (some b)] 114)).heap[wr.heap.size]? = some (.cells #[.map (some b)] 114 (0, 0)) := heap_alloc_new wr _
  rw [Addr.add_lit, Nat.zero_add, cell_of_row _ _ 0 _ _ _ hn]
  simpa [mapV] using h
 | succ j => simp [mapV] at h
theorem one_map (b : Nat) : ∀ u ∈ mapV [b], u.oneCell' = true := by
 intro u hu
 simp only [mapV, List.map_cons, List.map_nil, List.mem_singleton] at hu
 subst hu; rfl
theorem pl_nodup (l : List Lg) : (placesB l).Nodup := by
 have h := pl_sorted (lists (flatS l))
 unfold placesB ofL
 rw [List.Nodup, List.pairwise_map]
 refine h.imp fun {a b} hab e => ?_
 have e' : a = b := by
  have := congrArg (fun z : ByteArray => z.data.toList) e
  simpa using this
 subst e'
 have h2 := (lt_iff a a).1 hab
 exact absurd h2 (List.lt_irrefl a)
theorem pl_place {l : List Lg} {x : Lg} (h : x ∈ l) : x.f ∈ placesB l ∧ x.t ∈ placesB l := by
 have key : ∀ s : ByteArray, s ∈ flatS l → s ∈ placesB l := fun s hs => by
  unfold placesB ofL
  refine List.mem_map.2 ⟨s.data.toList, (pl_mem _ _).2 (List.mem_map.2 ⟨s, hs, rfl⟩), ?_⟩
  exact str_ext (by simp)
 have hf : ∀ s ∈ [x.f, x.t], s ∈ flatS l := fun s hs => List.mem_flatMap.2 ⟨x, h, hs⟩
 exact ⟨key _ (hf _ (by simp)), key _ (hf _ (by simp))⟩
theorem serv_iff {l : List Lg} {zs : List Int} {x : Int} {s : ByteArray} : servB l zs x s = true ↔ netB l zs x = true ∧ s ∈ placesB l := by
 unfold servB; rw [Bool.and_eq_true, Lib.containsS_iff]
end Go.Proofs.YtinijleelhbpoaaGreat

/- maps.Clone and maps.Equal, laid. -/
namespace Go.Proofs
open Go.Shelf
def Tryz.cloneM_ren : Go.Shelf.Ren := ⟨fun | 5 => 204 | 7 => 226 | n => n, fun | 23 => 114 | 25 => 9 | 3 => 3 | 4 => 4 | 20 => 20 | n => n, fun | n => n⟩
theorem Tryz.cloneM : Go.Proofs.SlLaysW.n5 Tryz.prog Tryz.cloneM_ren := {
 mixed := by kernel_rfl
 f5 := ⟨Tryz.f204.name, by decide, Tryz.func204.trans (congrArg some (by kernel_rfl))⟩
 f7 := Tryz.func226.trans (congrArg some (by kernel_rfl))
 t4 := Tryz.underlying4
 a4 := Tryz.isAgg4
 z4 := Tryz.sizeOf4
 v4 := Tryz.zeroValue4
 t20 := Tryz.underlying20
 a20 := Tryz.isAgg20
 z20 := Tryz.sizeOf20
 v20 := Tryz.zeroValue20
 t23 := Tryz.underlying114
 a23 := Tryz.isAgg114
 z23 := Tryz.sizeOf114
 v23 := Tryz.zeroValue114 }
def Tryz.eqM_ren : Go.Shelf.Ren := ⟨fun | 6 => 158 | n => n, fun | 23 => 114 | 24 => 114 | 26 => 9 | 27 => 3 | 4 => 4 | 3 => 3 | 0 => 0 | 36 => 161 | n => n, fun | n => n⟩
theorem Tryz.eqM : Go.Proofs.SlLaysEq.n6 Tryz.prog Tryz.eqM_ren := {
 mixed := by kernel_rfl
 f6 := ⟨Tryz.f158.name, by decide, Tryz.func158.trans (congrArg some (by kernel_rfl))⟩
 t0 := Tryz.underlying0
 a0 := Tryz.isAgg0
 z0 := Tryz.sizeOf0
 v0 := Tryz.zeroValue0
 t3 := Tryz.underlying3
 a3 := Tryz.isAgg3
 z3 := Tryz.sizeOf3
 v3 := Tryz.zeroValue3
 t4 := Tryz.underlying4
 a4 := Tryz.isAgg4
 z4 := Tryz.sizeOf4
 v4 := Tryz.zeroValue4
 t23 := Tryz.underlying114
 a23 := Tryz.isAgg114
 z23 := Tryz.sizeOf114
 v23 := Tryz.zeroValue114
 t24 := Tryz.underlying114
 a24 := Tryz.isAgg114
 z24 := Tryz.sizeOf114
 v24 := Tryz.zeroValue114
 a26 := Tryz.isAgg9
 z26 := Tryz.sizeOf9
 a27 := Tryz.isAgg3
 z27 := Tryz.sizeOf3
 t36 := Tryz.underlying161
 a36 := Tryz.isAgg161
 z36 := Tryz.sizeOf161 }
end Go.Proofs

/- maps.Clone and maps.Equal on maps of times. -/
namespace Go.Proofs.YtinijleelhbpoaaGreat
open Go.RowKit Go.Maps Go.Shelf
theorem clone_map {w : World} {b n : Nat} {g : Tm} (h : MapT w b n g) :
  Calls Tryz.prog 204 #[.map (some b)] w fun e w' => e = .returned (.map (some w.heap.size)) ∧ MapT w' w.heap.size n g ∧ Below w.heap.size w w' := by
 obtain ⟨es, clock, hb, hn⟩ := h.shape
 refine (AnyW.maps_Clone Tryz.cloneM b es clock w hb).mono fun e w' ⟨he, hw⟩ => ?_
 subst hw
 exact ⟨he, hn, (Below.refl _ _).alloc (Nat.le_refl _) _⟩
theorem neq_int (W : World) (x y : Value) (xd yd : DataW Unit) (xp yp : List MemPlace) (hx : plainElem Tryz.prog 3 x = some (xd, xp)) (hy : plainElem Tryz.prog 3 y = some (yd, yp)) :
  (binOp .neq 3 x y).run Tryz.prog W = .ok (.bool (!sameD xd yd)) W ∧ ∀ (a b : Operand), (eqGuard .neq 3 a b x y).run Tryz.prog W = .ok () W := by
 obtain ⟨a, rfl, h1, _⟩ := plainElem_int_inv Tryz.underlying3 hx
 obtain ⟨b, rfl, h2, _⟩ := plainElem_int_inv Tryz.underlying3 hy
 obtain rfl : xd = .lit (.int .i64 a) := by simpa using (congrArg Prod.fst h1)
 obtain rfl : yd = .lit (.int .i64 b) := by simpa using (congrArg Prod.fst h2)
 refine ⟨?_, fun _ _ => by rw [eqGuard_at_int]; rfl⟩
 simp [go_sem, sameD, binOp]
 rfl
theorem equal_map {w : World} {b1 b2 n1 n2 : Nat} {g1 g2 : Tm} (h1 : MapT w b1 n1 g1) (h2 : MapT w b2 n2 g2) :
  Calls Tryz.prog 158 #[.map (some b1), .map (some b2)] w fun e w' => ∃ r : Bool, e = .returned (.bool r) ∧ (r = true → ∀ s v, g1 s = some v → g2 s = some v) ∧ (r = false → g1 ≠ g2) ∧ Below w.heap.size w w' := by
 obtain ⟨D1, o1, f1⟩ := h1
 obtain ⟨D2, o2, f2⟩ := h2
 refine (AnyEq.maps_Equal Tryz.eqM key_law (plainElem Tryz.prog 3) (plainElem Tryz.prog 3) sameD b1 b2 n1 n2 D1 D2 w o1 o2 (.int .i64 0) Tryz.zeroValue3 (.lit (.int .i64 0)) [] (plainElem_int Tryz.underlying3 (by decide)) neq_int).mono fun e w' ⟨he, hg⟩ => ?_
 refine ⟨_, he, fun hr => equal_yes f1 f2 (o1.tidy key_law) hr, fun hr e => ?_, (Below.refl _ _).grown hg (Nat.le_refl _) (by simp)⟩
 subst e
 rw [equal_same f1 f2 (o1.canon key_law) (o2.canon key_law) (o1.tidy key_law)] at hr
 cases hr
end Go.Proofs.YtinijleelhbpoaaGreat

/- One leg more: the contract of impl.oneLegOn. -/
namespace Go.Proofs.YtinijleelhbpoaaGreat
open Go.RowKit
theorem fold_take {α β : Type} (f : β → α → β) (b : β) (l : List α) (k : Nat) (hk : k < l.length) : (l.take (k + 1)).foldl f b = f ((l.take k).foldl f b) l[k] := by
 rw [List.take_add_one, List.getElem?_eq_getElem hk, Option.toList_some, List.foldl_append]; rfl
theorem oneT_none {zs : List Int} {ch : Int} {fr : ByteArray} {g h : Tm} {x : Lg} (e : legOut zs ch fr g x = none) : oneT zs ch fr g h x = h := by unfold oneT; rw [e]; rfl
theorem oneT_put {zs : List Int} {ch : Int} {fr : ByteArray} {g h : Tm} {x : Lg} {e : Int} (he : legOut zs ch fr g x = some e) (hb : ∀ b, h x.t = some b → e < b) : oneT zs ch fr g h x = putT h x.t e := by
 unfold oneT takeT
 rw [he]
 dsimp only
 cases hx : h x.t with
 | none => rfl
 | some b => dsimp only; rw [if_pos (hb b hx)]
theorem oneT_keep {zs : List Int} {ch : Int} {fr : ByteArray} {g h : Tm} {x : Lg} {e b : Int} (he : legOut zs ch fr g x = some e) (hx : h x.t = some b) (hb : ¬ e < b) : oneT zs ch fr g h x = h := by
 unfold oneT takeT
 rw [he]
 dsimp only
 rw [hx]
 dsimp only
 rw [if_neg hb]
set_option maxRecDepth 100000 in
set_option maxHeartbeats 4000000 in
theorem one_leg (fr : ByteArray) (b m : Nat) (g : Tm) (A : Option Addr) (ca : Nat) (l : List Lg) (D : Option Addr) (cd : Nat) (zs : List Int) (x : Int) (w : World) (hA : InK 6 lgC w A l) (hD : IntsIn w D zs) (hs : ∀ z ∈ l, z.f.size ≤ maxLen ∧ z.t.size ≤ maxLen) (hn : l.length ≤ 1048576) (hm : zs.length ≤ 1048576)
  (hnet : netB l zs x = true) (hM : MapT w b m g) (hmm : m ≤ 1000000) (hg : ∀ q v, g q = some v → 0 ≤ v ∧ v ≤ 100000) :
  Calls Tryz.prog 157 #[.agg #[.slice A l.length ca, .slice D zs.length cd, .int .i64 x], .string fr, .map (some b)] w fun e w' => ∃ b', e = .returned (.map (some b')) ∧ w.heap.size ≤ b' ∧ MapT w' b' (m + l.length) (roundT zs x fr l g) ∧ Below w.heap.size w w' := by
 have hB := Box3.new (T := 27) (v0 := .slice A l.length ca) (v1 := .slice D zs.length cd) (v2 := .int .i64 x) w
 have hb0 := (Below.refl w.heap.size w).alloc (Nat.le_refl _) (.cells #[.slice A l.length ca, .slice D zs.length cd, .int .i64 x] 27)
 have H0 := Lib.hid (And.intro hB (And.intro hb0 (And.intro (hA.below hb0) (And.intro (hD.below hb0) (hM.below hb0))))); clear hB hb0 hA hD hM
 have HS := Lib.hid hs
 have HTR := Lib.hid (fun k (hk : k < l.length) W (h1 : InK 6 lgC W A l) (h2 : IntsIn W D zs) (h3 : MapT W b m g) => trip_on fr b m g k A ca l D cd zs x W h1 h2 hs hn hm hnet hk h3 hg)
 have HEN := Lib.hid (fun k (hk : k < l.length) (d : Int) W (h1 : InK 6 lgC W A l) (h2 : IntsIn W D zs) (hd : 0 ≤ d ∧ d ≤ 60) => end_impl A ca l D cd zs x k d W h1 h2 hk hn hd (leg_bd ((net_at hnet).2.1 k hk)).1 (leg_bd ((net_at hnet).2.1 k hk)).2.1)
 have HLB := Lib.hid (fun k (hk : k < l.length) => leg_bd ((net_at hnet).2.1 k hk))
 have hl20 := (net_at hnet).1
 clear hs hnet hg
 go_enter Tryz.func157, Tryz.ntmps157
 go_wp2_with fail
 generalize hB : w.heap.size = B at *
 have HBE := Lib.hid hB; clear hB
 generalize w.alloc (.cells #[.slice A l.length ca, .slice D zs.length cd, .int .i64 x] 27) = W at *
 refine (clone_map H0.out.2.2.2.2).mono ?_; rintro e w1 ⟨rfl, hM1, hb1⟩
 have hCB : B < W.heap.size := H0.out.1.lt
 have hbC : b < W.heap.size := H0.out.2.2.2.2.lt
 have hW1 : W.heap.size < w1.heap.size := hM1.lt
 have HM1 := Lib.hid hM1; clear hM1
 obtain ⟨b0, b1, b2⟩ := (H0.out.1.below hb1).cells
 go_wp2
 clear b0 b1 b2
 go_loopw [20] (fun i wr => ∃ k : Nat, k ≤ l.length ∧ i = .int .i64 k ∧ MapT wr W.heap.size (m + k) ((l.take k).foldl (oneT zs x fr g) g) ∧ Below W.heap.size W wr) (fun i _ => l.length - (intOf i).toNat)
 case atStart => exact ⟨0, Nat.zero_le _, rfl, HM1.out, hb1⟩
 case round =>
  clear hW1 HM1 hb1
  obtain ⟨k, hk, rfl, hMk, hb⟩ := hrel
  have hCk := hMk.lt
  have HMK := Lib.hid hMk; clear hMk
  have HB := Lib.hid hb
  obtain ⟨b0, b1, b2⟩ := (H0.out.1.below hb).cells
  have hBr : B < wr.heap.size := by omega
  have HBW := Lib.hid (show Below B w wr from H0.out.2.1.trans (hb.mono (Nat.le_of_lt hCB)))
  by_cases hlt : (k : Int) < (l.length : Int)
  ·have hkn : k < l.length := by omega
   have HF := Lib.hid (fold_take (oneT zs x fr g) g l k hkn)
   have HZ := Lib.hid (HS.out l[k] (List.getElem_mem hkn))
   have HLO := Lib.hid (legOut_of (zs := zs) (ch := x) (fr := fr) (g := g) (x := l[k]))
   have HOB := Lib.hid (onD_bd (zs := zs) (ch := x) (fr := fr) (g := g) (x := l[k]))
   have HT1 := Lib.hid (fun W' (h : Below wr.heap.size wr W') => HTR.out k hkn W' ((H0.out.2.2.1.below HB.out).below h) ((H0.out.2.2.2.1.below HB.out).below h) ((H0.out.2.2.2.2.below HB.out).below h))
   have HE1 := Lib.hid (fun d W' (h : Below wr.heap.size wr W') => HEN.out k hkn d W' ((H0.out.2.2.1.below HB.out).below h) ((H0.out.2.2.2.1.below HB.out).below h))
   have hlb := HLB.out k hkn
   have hlb1 := hlb.1; have hlb2 := hlb.2.1
   clear hlb
   obtain ⟨gb, rfl, hgb, c0, c1, c2, c3, c4, c5⟩ := (H0.out.2.2.1.below hb).lg k hkn
   obtain ⟨y, hy⟩ : ∃ y, y = l[k] := ⟨_, rfl⟩
   rw [← hy] at c0 c1 c2 c3 c4 c5 HZ HF HLO HOB HT1 HE1 hlb1 hlb2
   clear hy HB
   obtain ⟨L, hL⟩ : ∃ L : Obj, L = .cells #[.string y.f, .string y.t, .int .i64 y.s, .int .i64 y.k, .int .i64 y.d, .int .i64 y.r] 62 := ⟨_, rfl⟩
   have hbL := (Below.refl wr.heap.size wr).alloc (Nat.le_refl _) L
   by_cases hd : onD zs x fr g y < 0
   ·have HN := Lib.hid (oneT_none (h := (l.take k).foldl (oneT zs x fr g) g) (HLO.out.trans (if_pos hd)))
    have HX := Lib.hid (fun W' h => by
     have h := HT1.out W' h
     rw [trTup_no hd] at h
     exact h)
    clear HT1 HE1 HLO HOB hd
    go_wp2_with fail
    rw [← hL]
    refine (HX.out _ hbL).mono ?_; rintro e w2 ⟨rfl, hb2⟩
    go_wp2
    go_roundw
    case rel => exact ⟨k + 1, by omega, by go_num, by rw [HF.out, HN.out]; exact (((HMK.out.below hbL).below hb2).alloc _).mono (by omega), ((hb.trans (hbL.mono (by omega))).trans (hb2.mono (by have := hbL.size; omega))).alloc (by have := hbL.size; have := hb2.size; omega) _⟩
    case measure => simp [intOf]; omega
   ·have HX := Lib.hid (fun W' h => by
     have h := HT1.out W' h
     rw [trTup_yes hd] at h
     exact h)
    have hdb : 0 ≤ onD zs x fr g y ∧ onD zs x fr g y ≤ 60 := by rcases HOB.out with h | h <;> omega
    have HLS := Lib.hid (HLO.out.trans (if_neg hd))
    clear HT1 HLO HOB hd
    generalize onD zs x fr g y = d at *
    obtain ⟨E, hE⟩ : ∃ E, E = d * 1440 + y.s + y.k := ⟨_, rfl⟩
    have HEE := Lib.hid (fun W' h => by
     have h := HE1.out d W' h hdb
     rw [← hE] at h
     exact h)
    rw [← hE] at HLS
    have HWF := Lib.hid (show (Lit.int .i64 E).wf = true from WalkArith.wf_i64 (by omega))
    clear HE1 hE hlb1 hlb2 hdb
    go_wp2_with fail
    rw [← hL]
    refine (HX.out _ hbL).mono ?_; rintro e w2 ⟨rfl, hb2⟩
    have hLb : w2.heap[wr.heap.size]? = some L := (hb2.block _ (by simp)).trans (heap_alloc_new wr L)
    have hb2' := hbL.trans (hb2.mono hbL.size)
    clear b0 b1 b2
    obtain ⟨b0, b1, b2⟩ := ((H0.out.1.below hb).below hb2').cells
    have hBr2 : B < w2.heap.size := by have := hb2'.size; omega
    have HM2 := Lib.hid (HMK.out.below hb2')
    clear HMK HX hb2 c0 c1 c2 c3 c4 c5
    go_wp2_with fail
    have hbT := (Below.refl w2.heap.size w2).alloc (Nat.le_refl _) (.cells #[.int .i64 (k : Int), .int .i64 d] 32)
    refine (HEE.out _ (hb2'.trans (hbT.mono hb2'.size))).mono ?_; rintro e w3 ⟨rfl, hb3⟩
    have hb3' := hbT.trans (hb3.mono hbT.size)
    have hL3 : w3.cell? ⟨wr.heap.size, 1, none⟩ = some (.string y.t) := by
     rw [cell_of_row w3 wr.heap.size 1 _ _ (0, 0) ((hb3'.block _ (Array.getElem?_eq_some_iff.1 hLb).1).trans (hL ▸ hLb))]; rfl
    have HM3 := Lib.hid (HM2.out.below hb3')
    have hb4 := hb2'.trans (hb3'.mono hb2'.size)
    have HB3 := Lib.hid (hb.trans (hb4.mono (Nat.le_of_lt hCk)))
    have hz3 : W.heap.size < w3.heap.size := HM3.out.lt
    have hwz : wr.heap.size < w3.heap.size := by have := hb3'.size; have := (Array.getElem?_eq_some_iff.1 hLb).1; omega
    clear HM2 HEE hbT hb3 hb3' hb2' hLb b0 b1 b2 hb4
    obtain ⟨h, hh0⟩ : ∃ h, h = (l.take k).foldl (oneT zs x fr g) g := ⟨_, rfl⟩
    rw [← hh0] at HM3 HF
    clear hh0
    cases hh : h y.t with
    | none =>
     have HN := Lib.hid (oneT_put (h := h) HLS.out (fun b hb => by rw [hh] at hb; cases hb))
     go_wp2_with (first
      | (at_lookup; refine wp_look rfl _ _ 114 rfl Tryz.underlying114 W.heap.size (m + k) h rfl HM3.out _ rfl HZ.out.2 0 false (by rw [hh]; rfl) (by rw [hh]; rfl) ?_)
      | (at_mapUpdate; refine wp_store rfl _ _ _ 114 rfl Tryz.underlying114 W.heap.size (m + k) h rfl HM3.out (by omega) _ E rfl rfl HZ.out.2 HWF.out ?_; intro w4 hM4 hg4)
      | fail)
     go_roundw
     case rel => exact ⟨k + 1, by omega, by go_num, by rw [HF.out, HN.out]; exact hM4, HB3.out.grown hg4 (by omega) (by simp)⟩
     case measure => simp [intOf]; omega
    | some e0 =>
     by_cases hlt0 : E < e0
     ·have HN := Lib.hid (oneT_put (h := h) HLS.out (fun b hb => by rw [hh] at hb; cases hb; exact hlt0))
      go_wp2_with (first
       | (at_lookup; refine wp_look rfl _ _ 114 rfl Tryz.underlying114 W.heap.size (m + k) h rfl HM3.out _ rfl HZ.out.2 e0 true (by rw [hh]; rfl) (by rw [hh]; rfl) ?_)
       | (at_mapUpdate; refine wp_store rfl _ _ _ 114 rfl Tryz.underlying114 W.heap.size (m + k) h rfl HM3.out (by omega) _ E rfl rfl HZ.out.2 HWF.out ?_; intro w4 hM4 hg4)
       | fail)
      go_roundw
      case rel => exact ⟨k + 1, by omega, by go_num, by rw [HF.out, HN.out]; exact hM4, HB3.out.grown hg4 (by omega) (by simp)⟩
      case measure => simp [intOf]; omega
     ·have HN := Lib.hid (oneT_keep HLS.out hh hlt0)
      go_wp2_with (first
       | (at_lookup; refine wp_look rfl _ _ 114 rfl Tryz.underlying114 W.heap.size (m + k) h rfl HM3.out _ rfl HZ.out.2 e0 true (by rw [hh]; rfl) (by rw [hh]; rfl) ?_)
       | fail)
      go_roundw
      case rel => exact ⟨k + 1, by omega, by go_num, by rw [HF.out, HN.out]; exact HM3.out.mono (by omega), HB3.out⟩
      case measure => simp [intOf]; omega
  ·obtain rfl : k = l.length := by omega
   go_wp2
   go_ret
   exact ⟨_, rfl, by have := HBW.out.size; have := H0.out.2.1.size; omega, by have h := HMK.out; rw [List.take_length] at h; exact h, by rw [HBE.out]; exact HBW.out⟩
end Go.Proofs.YtinijleelhbpoaaGreat

/- The contract of impl.arrivalsByLegs. -/
namespace Go.Proofs.YtinijleelhbpoaaGreat
open Go.RowKit
theorem initT_put (fr : ByteArray) (a : Int) : putT (fun _ => none) fr a = initT fr a := rfl
/-- what arrivalsByLegs answers where a way begins -/
structure ByL (l : List Lg) (zs : List Int) (x : Int) (fr : ByteArray) (a legs : Int) (bs : List Nat) : Prop where
 pos : 0 < bs.length
 le : (bs.length : Int) ≤ legs + 1
 pl : bs.length ≤ (placesB l).length
 new : ∀ i, i + 1 < bs.length → arrT l zs x fr a (i + 1) ≠ arrT l zs x fr a i
 fin : (bs.length : Int) = legs + 1 ∨ arrT l zs x fr a bs.length = arrT l zs x fr a (bs.length - 1)
set_option maxRecDepth 100000 in
set_option maxHeartbeats 4000000 in
theorem by_legs (fr : ByteArray) (at_ legs : Int) (A : Option Addr) (ca : Nat) (l : List Lg) (D : Option Addr) (cd : Nat) (zs : List Int) (x : Int) (w : World) (hA : InK 6 lgC w A l) (hD : IntsIn w D zs) (hs : ∀ z ∈ l, z.f.size ≤ maxLen ∧ z.t.size ≤ maxLen) (hn : l.length ≤ 1048576) (hm : zs.length ≤ 1048576)
  (hf : fr.size ≤ maxLen) (hsv : servB l zs x fr = true) (hat : at_ ≤ 100000) (hlg : 0 ≤ legs) (hlg2 : legs ≤ 9223372036854775807) (hat2 : -9223372036854775808 ≤ at_) :
  Calls Tryz.prog 90 #[.agg #[.slice A l.length ca, .slice D zs.length cd, .int .i64 x], .string fr, .int .i64 at_, .int .i64 legs] w fun e w' => ∃ v bs, e = .returned v ∧ ArrR w' w.heap.size v bs (arrT l zs x fr (max at_ 0)) ∧ ByL l zs x fr (max at_ 0) legs bs ∧ Below w.heap.size w w' := by
 obtain ⟨hnet, hfr⟩ := serv_iff.1 hsv
 have hB := Box3.new (T := 27) (v0 := .slice A l.length ca) (v1 := .slice D zs.length cd) (v2 := .int .i64 x) w
 have hb0 := (Below.refl w.heap.size w).alloc (Nat.le_refl _) (.cells #[.slice A l.length ca, .slice D zs.length cd, .int .i64 x] 27)
 have H0 := Lib.hid (And.intro hB (And.intro hb0 (And.intro (hA.below hb0) (hD.below hb0)))); clear hB hb0 hA hD
 have HSV := Lib.hid (fun W (h1 : InK 6 lgC W A l) (h2 : IntsIn W D zs) => by
  have h := serves_impl fr A ca l D cd zs x W h1 h2 hs hn hm
  rw [hsv] at h
  exact h)
 have hl20 := (net_at hnet).1
 have ha := (show 0 ≤ max at_ 0 ∧ max at_ 0 ≤ 100000 by omega)
 have hok : ∀ z ∈ l, legOk z = true := fun z hz => by obtain ⟨j, hj, rfl⟩ := List.getElem_of_mem hz; exact (net_at hnet).2.1 j hj
 have HBD := Lib.hid (fun k => arr_bd (zs := zs) (ch := x) (fr := fr) hok ha k)
 have HFIX := Lib.hid (fun k hk => arr_fix (l := l) (zs := zs) (ch := x) (fr := fr) (a := max at_ 0) (pl := placesB l) hok (net_at hnet).2.2.2.1 hfr (fun z hz => (pl_place hz).2) (k := k) hk)
 have HON := Lib.hid (fun b m g W (h1 : InK 6 lgC W A l) (h2 : IntsIn W D zs) (h3 : MapT W b m g) (hmm : m ≤ 1000000) (hg : ∀ q v, g q = some v → 0 ≤ v ∧ v ≤ 100000) => one_leg fr b m g A ca l D cd zs x W h1 h2 hs hn hm hnet h3 hmm hg)
 have HMX := Lib.hid (fun W => max_impl at_ 0 W)
 have hP1 : (placesB l).length ≤ 40 := by have := placesB_len l; omega
 have hP0 : 0 < (placesB l).length := List.length_pos_of_mem hfr
 obtain ⟨a, hae⟩ : ∃ a, a = max at_ 0 := ⟨_, rfl⟩
 rw [← hae] at ha HBD HFIX HMX ⊢
 clear hs hsv hfr hok hae hnet
 obtain ⟨i0, hi0, hz0, hz1, hz2⟩ := info_parts map_info
 have hmm := @run_makeMap Tryz.prog
 go_enter Tryz.func90, Tryz.ntmps90
 go_wp2_with fail
 generalize hB : w.heap.size = B at *
 have HBE := Lib.hid hB; clear hB
 generalize w.alloc (.cells #[.slice A l.length ca, .slice D zs.length cd, .int .i64 x] 27) = W0 at *
 refine (HSV.out _ H0.out.2.2.1 H0.out.2.2.2).mono ?_; rintro e W ⟨rfl, hb1⟩
 have H1 := Lib.hid (And.intro (H0.out.1.below hb1) (And.intro (H0.out.2.1.trans (hb1.mono (Nat.le_of_lt H0.out.1.lt))) (And.intro (H0.out.2.2.1.below hb1) (H0.out.2.2.2.below hb1)))); clear H0 hb1 HSV
 have hWB : B < W.heap.size := H1.out.1.lt
 go_wp2_with fail
 refine (HMX.out _).mono ?_; rintro e w1 ⟨rfl, rfl⟩
 have hM0 := MapT.made W
 have hbm : Below W.heap.size W (W.alloc (.map #[] 0)) := (Below.refl _ _).alloc (Nat.le_refl _) _
 have hwf : (Lit.int .i64 a).wf = true := WalkArith.wf_i64 (by omega)
 generalize hC : W.heap.size = C at *
 have HCE := Lib.hid hC; clear hC
 clear hmm
 go_wp2_with (first
  | (refine wp_insert rfl _ _ _ 114 rfl Tryz.underlying114 C 0 _ rfl hM0 (by omega) fr a rfl rfl hf hwf ?_; intro w2 hM2 hg2)
  | fail)
 rw [initT_put] at hM2
 have hb2 : Below C W w2 := hbm.grown hg2 (by have := hbm.size; have := HCE.out; omega) (fun k h => by cases h; exact Nat.le_refl _)
 have hC2 : C < w2.heap.size := hM2.lt
 have HS0 := Lib.hid (show ArrR (w2.alloc (.cells #[.map (some C)] 114)) C (.slice (some ⟨w2.heap.size, 0, none⟩) 1 1) [C] (arrT l zs x fr a) from
  ⟨⟨rfl, .inr ⟨w2.heap.size, 1, #[.map (some C)], rfl, by omega, heap_alloc_new w2 _, Nat.le_refl _, by unfold maxLen; omega, rfl, rfl⟩⟩, fun i hi => by
   obtain rfl : i = 0 := by simp at hi; omega
   exact ⟨Nat.le_refl _, hM2.alloc _⟩⟩)
 have HB0 := Lib.hid (hb2.alloc (Nat.le_of_lt hC2) (.cells #[.map (some C)] 114))
 clear hb2 hM2 hg2 hbm hM0
 generalize w2.alloc (.cells #[.map (some C)] 114) = w3 at *
 obtain ⟨V3, hV3⟩ : ∃ V3 : Value, V3 = .slice (some ⟨w2.heap.size, 0, none⟩) 1 1 := ⟨_, rfl⟩
 rw [← hV3] at HS0 ⊢
 have HV3 := Lib.hid (show lenV V3 = 1 by rw [hV3]; rfl)
 clear hV3 hC2
 go_loopw [9, 10] (fun m9 v wr => ∃ (bs : List Nat) (k b : Nat), bs.length = k + 1 ∧ m9 = .map (some b) ∧ bs[k]? = some b ∧ lenV v = k + 1 ∧ ArrR wr C v bs (arrT l zs x fr a) ∧ (k : Int) ≤ legs ∧ Hid (∀ i, i < k → arrT l zs x fr a (i + 1) ≠ arrT l zs x fr a i) ∧ Below C W wr) (fun _ v _ => 41 - lenV v)
 case atStart => exact ⟨[C], 0, C, rfl, rfl, rfl, HV3.out, HS0.out, by omega, Lib.hid (fun i h => by omega), HB0.out⟩
 case round =>
  clear HS0 HB0 HV3
  obtain ⟨bs, k, b, hbl, rfl, hbk, hlv, hR, hkl, hne, hb⟩ := hrel
  have hkP : k < (placesB l).length := by
   by_cases h : k < (placesB l).length
   ·exact h
   ·exfalso
    exact hne.out ((placesB l).length - 1) (by omega) (HFIX.out _ (by omega))
  obtain ⟨gv, cap, rfl, hgv1, hgv2⟩ := hR.form (by omega)
  have hbk' : bs[k]'(by omega) = b := by rw [List.getElem?_eq_getElem (by omega)] at hbk; exact Option.some.inj hbk
  have hMk := (hR.maps k (by omega)).2
  rw [hbk'] at hMk
  have HMK := Lib.hid hMk; clear hMk hbk'
  have HR := Lib.hid hR; clear hR
  obtain ⟨b0, b1, b2⟩ := (H1.out.1.below (by rw [HCE.out]; exact hb)).cells
  have hBr : B < wr.heap.size := by have := hb.size; omega
  have HBW := Lib.hid (show Below B w wr from H1.out.2.1.trans (hb.mono (Nat.le_of_lt hWB)))
  have HA1 := Lib.hid (H1.out.2.2.1.below (by rw [HCE.out]; exact hb))
  have HD1 := Lib.hid (H1.out.2.2.2.below (by rw [HCE.out]; exact hb))
  have hlr : (bs.length : Int) = (k : Int) + 1 := by omega
  by_cases hlt : (k : Int) + 1 ≤ legs
  ·go_wp2_with fail
   refine (HON.out b _ _ wr HA1.out HD1.out HMK.out (by omega) (fun q v h => HBD.out k q v h)).mono ?_; rintro e w4 ⟨b', rfl, hbb, hM4, hb4⟩
   have HM4 := Lib.hid (show MapT w4 b' (1 + 20 * bs.length) (arrT l zs x fr a bs.length) by rw [hbl]; exact MapT.mono hM4 (by omega))
   have HM4' := Lib.hid (HMK.out.below hb4)
   have HR4 := Lib.hid (HR.out.below hb4)
   have HB4 := Lib.hid (hb.trans (hb4.mono (by have := hb.size; omega)))
   have hCr : C ≤ wr.heap.size := by have := hb.size; have := HCE.out; omega
   clear HMK HR hM4 HA1 HD1 b0 b1 b2
   go_wp2_with fail
   refine (equal_map HM4.out HM4'.out).mono ?_; rintro e w5 ⟨r, rfl, hr1, hr0, hb5⟩
   have HM5 := Lib.hid (HM4.out.below hb5)
   have HR5 := Lib.hid (HR4.out.below hb5)
   have HB5 := Lib.hid (HB4.out.trans (hb5.mono (by have := HB4.out.size; have := HCE.out; omega)))
   clear HM4' HR4
   cases r with
   | true =>
    have HEQ := Lib.hid (show arrT l zs x fr a (k + 1) = arrT l zs x fr a k from by
     rw [← hbl]
     funext q
     have h1 := hr1 rfl q
     cases hq : arrT l zs x fr a bs.length q with
     | some v => exact (h1 v hq).symm
     | none =>
      cases hk' : arrT l zs x fr a k q with
      | none => rfl
      | some v =>
       obtain ⟨e, he, _⟩ := round_le (zs := zs) (ch := x) (fr := fr) (l := l) hk'
       rw [hbl] at hq
       exact absurd (hq.symm.trans he) (by simp))
    clear hr1 hr0 HM4 HM5 HB4
    go_wp2
    go_ret
    exact ⟨_, bs, rfl, (by rw [HBE.out]; have h := HR5.out.mono (Nat.le_of_lt hWB); rw [hbl] at h; exact h), ⟨by omega, by omega, by omega, fun i hi => hne.out i (by omega), .inr (by rw [hbl]; exact HEQ.out)⟩, by rw [HBE.out]; exact H1.out.2.1.trans (HB5.out.mono (Nat.le_of_lt hWB))⟩
   | false =>
    have HNE := Lib.hid (show arrT l zs x fr a (k + 1) ≠ arrT l zs x fr a k by rw [← hbl]; exact hr0 rfl)
    clear hr1 hr0 HM4 HB4
    have hz5 : C ≤ w5.heap.size := by have := HB5.out.size; have := HCE.out; omega
    have hown5 : w5.ownsRow C 114 1 (.slice (some ⟨gv, 0, none⟩) (k + 1) cap) (k + 1) (mapV bs) := by
     have h := HR5.out.own
     rw [hbl] at h
     exact h
    have hmoff : some b' ≠ (Value.slice (some ⟨gv, 0, none⟩) (k + 1) cap).ownBlock := by
     have h := map_off HR5.out.own HM5.out
     exact h
    have HMO := Lib.hid hmoff; clear hmoff
    go_wp2_with (at_builtin; refine wpList_append_own _ rfl _ _ 106 rfl C 114 i0 _ 1 8 Tryz.underlying106 hi0 hz0 hz1 hz2 rfl (by omega) _ (k + 1) (mapV bs) rfl (hown5.kept (World.grownBy_alloc _ _ none) (by cases h : (Value.slice (some ⟨gv, 0, none⟩) (k + 1) cap).ownBlock <;> simp)) ⟨w5.heap.size, 0, none⟩ 1 1 (mapV [b']) rfl rfl (map_news _ _) (one_map _) (by unfold maxLen; omega) (by omega) (by simp; omega) ?_; intro v' w6 hown' hgr hnil)
    obtain ⟨g6, cap6, hv6, hg6, _⟩ := World.ownsRow.form hown' (by omega)
    have hlv6 : lenV v' = k + 2 := by rw [hv6]; rfl
    clear hv6
    go_roundw
    case rel =>
     refine ⟨bs ++ [b'], k + 1, b', by simp [hbl], rfl, by rw [← hbl]; simp, hlv6, ?_, by omega, Lib.hid (fun i hi => by
      by_cases e : i = k
      ·subst e; exact HNE.out
      ·exact hne.out i (by omega)), ?_⟩
     ·refine ArrR.push HR5.out (Nat.le_trans hCr hbb) HM5.out (by rw [hbl]; exact hgr) ?_
      rw [hbl]; exact hown'
     ·exact (HB5.out.alloc (by omega) _).grown hgr (by have := HB5.out.size; simp; have := HCE.out; omega) (fun j h => by cases h; exact hgv1)
    case measure =>
     rw [hlv6]
     show 41 - (k + 2) < 41 - bs.length
     omega
  ·go_wp2
   go_ret
   exact ⟨_, rfl, bs, (by rw [HBE.out]; have h := HR.out.mono (Nat.le_of_lt hWB); first | exact h | (rw [hbl] at h; exact h)), ⟨by omega, by omega, by omega, fun i hi => hne.out i (by omega), .inl (by omega)⟩, by rw [HBE.out]; exact HBW.out⟩
end Go.Proofs.YtinijleelhbpoaaGreat

/- Contracts of spec.l4Index, l4Ready, l4First. -/
namespace Go.Proofs.YtinijleelhbpoaaGreat
open Go.RowKit
/-- texts that can be read, from the head of a block on -/
def StrsIn (w : World) (A : Option Addr) (l : List ByteArray) : Prop := ∀ j (hj : j < l.length), ∃ g, A = some ⟨g, 0, none⟩ ∧ g < w.heap.size ∧ w.cell? ⟨g, j, none⟩ = some (.string l[j])
theorem StrsIn.below {w w' : World} {A : Option Addr} {l : List ByteArray} (h : StrsIn w A l) (hb : Below w.heap.size w w') : StrsIn w' A l := by
 intro j hj
 obtain ⟨g, h1, h2, h3⟩ := h j hj
 exact ⟨g, h1, Nat.lt_of_lt_of_le h2 hb.size, by rw [← h3]; exact hb.cell h2⟩
theorem own_strs {w : World} {b : Nat} {v : Value} {l : List ByteArray} (h : OwnStr w b v l) : ∃ (A : Option Addr) (cap : Nat), v = .slice A l.length cap ∧ StrsIn w A l := by
 by_cases h0 : l = []
 ·subst h0
  obtain ⟨A, cap, rfl⟩ := own_empty h
  exact ⟨A, cap, rfl, fun j hj => by simp at hj⟩
 ·obtain ⟨g, cap, rfl, h1, h2⟩ := own_slice h h0
  refine ⟨_, cap, rfl, fun j hj => ⟨g, rfl, h2, ?_⟩⟩
  have := own_getD h j hj
  rw [Nat.zero_add] at this
  rw [this]; simp [List.getD, hj]
set_option maxRecDepth 100000 in
set_option maxHeartbeats 1000000 in
theorem index_spec (A : Option Addr) (ca : Nat) (l : List ByteArray) (p : ByteArray) (w : World) (hA : StrsIn w A l) (hl : l.length ≤ 4000000) :
  Calls Tryz.prog 96 #[.slice A l.length ca, .string p] w fun e w' => e = .returned (.int .i64 (idxI l p)) ∧ w' = w := by
 have HA := Lib.hid hA; clear hA
 generalize hR : idxI l p = R
 have HR := Lib.hid hR; clear hR
 go_enter Tryz.func96, Tryz.ntmps96
 go_wp2
 go_loop [5] (fun i => ∃ k : Nat, k ≤ l.length ∧ i = .int .i64 k ∧ Hid (∀ j (_ : j < l.length), j < k → l[j] ≠ p)) (fun i => l.length - (intOf i).toNat)
 case atStart => exact ⟨0, Nat.zero_le _, rfl, Lib.hid (fun j _ h => by omega)⟩
 case round =>
  obtain ⟨k, hk, rfl, hd⟩ := hrel
  by_cases hlt : (k : Int) < (l.length : Int)
  ·have hkn : k < l.length := by omega
   obtain ⟨g, rfl, hg, c0⟩ := HA.out k hkn
   by_cases h1 : l[k] = p
   ·have HN := Lib.hid (idx_hit hkn (fun j hj => hd.out j (by omega) hj) h1)
    have hq := str_eq h1
    clear h1
    generalize l[k] = y at *
    go_wp2
    go_ret
    exact ⟨ret_int (HN.out.symm.trans HR.out), rfl⟩
   ·have hq := str_ne h1
    have HN := Lib.hid h1
    clear h1
    obtain ⟨y, hy⟩ : ∃ y, y = l[k] := ⟨_, rfl⟩
    rw [← hy] at c0 hq
    clear hy
    go_wp2
    go_round
    case rel => exact ⟨k + 1, by omega, by go_num, Lib.hid (fun j hj hjk => by
     by_cases e : j = k
     ·subst e; exact HN.out
     ·exact hd.out j hj (by omega))⟩
    case measure => simp [intOf]; omega
  ·go_wp2
   go_ret
   exact ⟨ret_int ((idx_none (fun hm => by
    obtain ⟨j, hj, e⟩ := List.getElem_of_mem hm
    exact hd.out j hj (by omega) e)).symm.trans HR.out), rfl⟩
set_option maxRecDepth 100000 in
set_option maxHeartbeats 1000000 in
theorem ready_spec (v0 v1 : Value) (x a : Int) (first : Bool) (w : World) (hx : 0 ≤ x ∧ x ≤ 240) (ha : -1 ≤ a ∧ a ≤ 100000) :
  Calls Tryz.prog 165 #[.agg #[v0, v1, .int .i64 x], .int .i64 a, .bool first] w fun e w' => e = .returned (.int .i64 (if first then a else a + x)) ∧ Below w.heap.size w w' := by
 have hB := Box3.new (T := 27) (v0 := v0) (v1 := v1) (v2 := .int .i64 x) w
 have hb0 := (Below.refl w.heap.size w).alloc (Nat.le_refl _) (.cells #[v0, v1, .int .i64 x] 27)
 obtain ⟨b0, b1, b2⟩ := hB.cells
 clear hB
 cases first with
 | true =>
  go_enter Tryz.func165, Tryz.ntmps165
  go_wp2
  go_ret
  exact ⟨rfl, hb0⟩
 | false =>
  go_enter Tryz.func165, Tryz.ntmps165
  go_wp2
  go_ret
  exact ⟨rfl, hb0⟩
theorem initT_map (pl : List ByteArray) (hn : pl.Nodup) (k : Nat) (hk : k < pl.length) (a : Int) (j : Nat) (hj : j < pl.length) : ((initT pl[k] a) pl[j]).getD (-1) = if j = k then a else -1 := by
 unfold initT
 by_cases e : j = k
 ·subst e; rw [if_pos rfl, if_pos rfl]; rfl
 ·rw [if_neg e, if_neg (fun h => e ((List.getElem_inj hn).1 h))]; rfl
/-- the first k times of a list in which one place has a time -/
def firstL (f : Nat) (a : Int) (k : Nat) : List Int := (List.range k).map fun j => if j = f then a else -1
theorem firstL_succ (f : Nat) (a : Int) (k : Nat) : firstL f a (k + 1) = firstL f a k ++ [if k = f then a else -1] := by simp [firstL, List.range_succ]
theorem firstL_len (f : Nat) (a : Int) (k : Nat) : (firstL f a k).length = k := by simp [firstL]
theorem firstL_all {pl : List ByteArray} (hn : pl.Nodup) {k : Nat} (hk : k < pl.length) (a : Int) : firstL k a pl.length = listT pl (initT pl[k] a) := by
 refine List.ext_getElem (by simp [firstL, listT_len]) fun j h1 h2 => ?_
 rw [listT_get, initT_map pl hn k hk a j (by simpa [firstL] using h1)]
 simp [firstL]
set_option maxRecDepth 100000 in
set_option maxHeartbeats 2000000 in
theorem first_spec (A : Option Addr) (ca n : Nat) (f : Nat) (at_ : Int) (w : World) (hn : n ≤ 4000000) :
  Calls Tryz.prog 162 #[.slice A n ca, .int .i64 (f : Int), .int .i64 at_] w fun e w' => ∃ v, e = .returned v ∧ OwnI w' w.heap.size v (firstL f (max at_ 0) n) ∧ Below w.heap.size w w' := by
 obtain ⟨i0, hi0, hz0, hz1, hz2⟩ := info_parts int_info
 have HMX := Lib.hid (fun W => max_spec at_ 0 W)
 generalize max at_ 0 = a at *
 have hb0 := (Below.refl w.heap.size w).alloc (Nat.le_refl _) (.cells #[] 3)
 have ho0 := ownI_new w
 go_enter Tryz.func162, Tryz.ntmps162
 go_wp2
 have hB : w.heap.size < (w.alloc (.cells #[] 3)).heap.size := by simp
 obtain ⟨V0, hV0⟩ : ∃ V0 : Value, V0 = .slice (some ⟨w.heap.size, 0, none⟩) 0 0 := ⟨_, rfl⟩
 rw [← hV0] at ho0 ⊢
 clear hV0
 generalize w.alloc (.cells #[] 3) = W at *
 go_loopw [7, 8] (fun v i wr => ∃ k : Nat, k ≤ n ∧ i = .int .i64 k ∧ OwnI wr w.heap.size v (firstL f a k) ∧ Below w.heap.size w wr) (fun _ i _ => n - (intOf i).toNat)
 case atStart => exact ⟨0, Nat.zero_le _, rfl, ho0, hb0⟩
 case round =>
  clear ho0 hb0 hB
  obtain ⟨k, hk, rfl, ho, hb⟩ := hrel
  have hbz := hb.size
  have hfl := firstL_len f a k
  have HO := Lib.hid ho
  unfold OwnI at ho
  rw [hfl] at ho
  have hlt' := fun g h => (HO.out.lt g h).1
  by_cases hlt : (k : Int) < (n : Int)
  ·by_cases hkf : k = f
   ·have HF := Lib.hid (show firstL f a (k + 1) = firstL f a k ++ [a] by rw [firstL_succ, if_pos hkf])
    have hkf' : (k : Int) = (f : Int) := by omega
    clear hkf
    go_wp2_with fail
    refine (HMX.out _).mono ?_; rintro e w1 ⟨rfl, rfl⟩
    go_wp2_with (at_builtin; refine wpList_append_own _ rfl _ _ 25 rfl w.heap.size 3 i0 _ 1 8 Tryz.underlying25 hi0 hz0 hz1 hz2 rfl (by decide) _ k (intV (firstL f a k)) rfl (ho.alloc _) ⟨w1.heap.size, 0, none⟩ 1 1 (intV [a]) rfl rfl (int_news _ _) (one_int _) (by unfold maxLen; omega) (by omega) (by simp; omega) ?_; intro v' w2 hown' hgr hnil)
    go_roundw
    case rel => exact ⟨k + 1, by omega, by go_num, by rw [HF.out]; exact ownI_push hown' hfl, (hb.alloc hbz _).grown hgr (by simp; omega) hlt'⟩
    case measure => simp [intOf]; omega
   ·have HF := Lib.hid (show firstL f a (k + 1) = firstL f a k ++ [-1] by rw [firstL_succ, if_neg hkf])
    have hkf' : ¬ (k : Int) = (f : Int) := by omega
    clear hkf
    go_wp2_with (at_builtin; refine wpList_append_own _ rfl _ _ 25 rfl w.heap.size 3 i0 _ 1 8 Tryz.underlying25 hi0 hz0 hz1 hz2 rfl (by decide) _ k (intV (firstL f a k)) rfl (ho.alloc _) ⟨wr.heap.size, 0, none⟩ 1 1 (intV [-1]) rfl rfl (int_news _ _) (one_int _) (by unfold maxLen; omega) (by omega) (by simp; omega) ?_; intro v' w2 hown' hgr hnil)
    go_roundw
    case rel => exact ⟨k + 1, by omega, by go_num, by rw [HF.out]; exact ownI_push hown' hfl, (hb.alloc hbz _).grown hgr (by simp; omega) hlt'⟩
    case measure => simp [intOf]; omega
  ·obtain rfl : k = n := by omega
   go_wp2
   go_ret
   exact ⟨_, rfl, HO.out, hb⟩
end Go.Proofs.YtinijleelhbpoaaGreat

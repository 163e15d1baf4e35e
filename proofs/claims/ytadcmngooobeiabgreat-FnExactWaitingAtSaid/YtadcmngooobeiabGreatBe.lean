/- Several texts in one: WayM MapT TripOn PlM PlI Serv ArrR ShelfM MapC OneLeg ByLegs SpecW. -/
import Derived.Test.YtadcmngooobeiabGreatBb
import Derived.Lib.SlicesS
import Derived.Maps.Own
import Derived.Maps.OwnOps
import Derived.Maps.OwnSet
import Derived.Lib.SlMapEqual
import Derived.WalkSpells
import Derived.Test.YtadcmngooobeiabGreatBd
import Derived.Test.YtadcmngooobeiabGreatBa
import Derived.Lib.SlicesCompact
import Derived.Lib.RowBridge
import Derived.Test.YtadcmngooobeiabGreatShelfS
import Derived.Sort.OwnSorted
import Derived.Shelf.SlMaps.Clone
import Derived.Shelf.SlMaps.Equal
import Derived.Test.YtadcmngooobeiabGreatProg
import Derived.Test.YtadcmngooobeiabGreatBc
/- The plain mathematics of ways: arrivals by place, round by round. -/
namespace Go.Proofs.YtadcmngooobeiabGreat
open Go.RowKit
/-- times by place -/
abbrev Tm := ByteArray → Option Int
def readyI (ch : Int) (fr p : ByteArray) (a : Int) : Int := if p = fr then a else a + ch
/-- the end of the next trip of a leg from a time on -/
def legEnd (zs : List Int) (x : Lg) (r : Int) : Option Int :=
  if firstD (nextP x zs r) 61 < 0 then none else some (firstD (nextP x zs r) 61 * 1440 + x.s + x.k)
def legOut (zs : List Int) (ch : Int) (fr : ByteArray) (g : Tm) (x : Lg) : Option Int := (g x.f).bind fun a => legEnd zs x (readyI ch fr x.f a)
def putT (h : Tm) (p : ByteArray) (e : Int) : Tm := fun q => if q = p then some e else h q
/-- a time that comes for a place: taken if it is earlier -/
def takeT (h : Tm) (p : ByteArray) : Option Int → Tm
  | none => h
  | some e => match h p with
    | none => putT h p e
    | some b => if e < b then putT h p e else h
def oneT (zs : List Int) (ch : Int) (fr : ByteArray) (g h : Tm) (x : Lg) : Tm := takeT h x.t (legOut zs ch fr g x)
def roundT (zs : List Int) (ch : Int) (fr : ByteArray) (l : List Lg) (g : Tm) : Tm := l.foldl (oneT zs ch fr g) g
def initT (fr : ByteArray) (a : Int) : Tm := fun q => if q = fr then some a else none
def arrT (l : List Lg) (zs : List Int) (ch : Int) (fr : ByteArray) (a : Int) : Nat → Tm
  | 0 => initT fr a
  | k + 1 => roundT zs ch fr l (arrT l zs ch fr a k)
theorem putT_same (h : Tm) (p : ByteArray) (e : Int) : putT h p e p = some e := if_pos rfl
theorem putT_other (h : Tm) (p q : ByteArray) (e : Int) (n : q ≠ p) : putT h p e q = h q := if_neg n
theorem firstD_spec {P : Nat → Bool} {n : Nat} (h : ¬ firstD P n < 0) : ∃ d : Nat, firstD P n = d ∧ d < n ∧ P d = true := by
  unfold firstD at h ⊢
  cases e : (List.range n).find? P with
  | none => rw [e] at h; simp at h
  | some d => exact ⟨d, rfl, List.mem_range.1 (List.mem_of_find?_eq_some e), List.find?_some e⟩
theorem legEnd_gt {zs : List Int} {x : Lg} {r e : Int} (hx : legOk x = true) (h : legEnd zs x r = some e) : r < e := by
  unfold legEnd at h
  split at h
  · cases h
  next hn =>
    obtain ⟨d, hd, _, hp⟩ := firstD_spec hn
    rw [hd] at h
    cases h
    have := (leg_bd hx).2.1
    unfold nextP at hp
    simp only [Bool.and_eq_true, decide_eq_true_eq] at hp
    omega
theorem legEnd_bd {zs : List Int} {x : Lg} {r e : Int} (hx : legOk x = true) (h : legEnd zs x r = some e) : 0 ≤ e ∧ e ≤ 100000 := by
  unfold legEnd at h
  split at h
  · cases h
  next hn =>
    obtain ⟨d, hd, hl, hp⟩ := firstD_spec hn
    rw [hd] at h
    cases h
    have := leg_bd hx
    omega
theorem ready_ge {ch : Int} {fr p : ByteArray} {a : Int} (hc : 0 ≤ ch) : a ≤ readyI ch fr p a := by unfold readyI; split <;> omega
theorem legOut_some {zs : List Int} {ch : Int} {fr : ByteArray} {g : Tm} {x : Lg} {e : Int} (h : legOut zs ch fr g x = some e) : ∃ a, g x.f = some a ∧ legEnd zs x (readyI ch fr x.f a) = some e := by
  unfold legOut at h
  cases ha : g x.f with
  | none => rw [ha] at h; cases h
  | some a => rw [ha] at h; exact ⟨a, rfl, h⟩
/-- what a place has is taken over or made earlier -/
theorem takeT_le (h : Tm) (p q : ByteArray) (o : Option Int) {b : Int} (hb : h q = some b) : ∃ e, takeT h p o q = some e ∧ e ≤ b := by
  unfold takeT
  cases o with
  | none => exact ⟨b, hb, Int.le_refl _⟩
  | some e =>
    by_cases n : q = p
    · subst n
      dsimp only
      rw [hb]
      dsimp only
      split
      next he => exact ⟨e, putT_same _ _ _, by omega⟩
      next he => exact ⟨b, hb, Int.le_refl _⟩
    · dsimp only
      cases hp : h p with
      | none => exact ⟨b, (putT_other _ _ _ _ n).trans hb, Int.le_refl _⟩
      | some c =>
        dsimp only
        split
        next he => exact ⟨b, (putT_other _ _ _ _ n).trans hb, Int.le_refl _⟩
        next he => exact ⟨b, hb, Int.le_refl _⟩
theorem takeT_hit (h : Tm) (p : ByteArray) (e : Int) : ∃ e', takeT h p (some e) p = some e' ∧ e' ≤ e := by
  unfold takeT
  dsimp only
  cases hp : h p with
  | none => exact ⟨e, putT_same _ _ _, Int.le_refl _⟩
  | some b =>
    dsimp only
    split
    next he => exact ⟨e, putT_same _ _ _, Int.le_refl _⟩
    next he => exact ⟨b, hp, by omega⟩
/-- a place whose time has turned has the time that came, which is earlier than what was -/
theorem takeT_new (h : Tm) (p q : ByteArray) (o : Option Int) (hne : takeT h p o q ≠ h q) : q = p ∧ ∃ e, o = some e ∧ takeT h p o q = some e ∧ ∀ b, h q = some b → e < b := by
  unfold takeT at hne ⊢
  cases o with
  | none => exact absurd rfl hne
  | some e =>
    dsimp only at hne ⊢
    by_cases n : q = p
    · subst n
      refine ⟨rfl, e, rfl, ?_⟩
      cases hp : h q with
      | none => exact ⟨putT_same _ _ _, fun b hb => by cases hb⟩
      | some c =>
        rw [hp] at hne
        dsimp only at hne ⊢
        split at hne
        next he => rw [if_pos he]; exact ⟨putT_same _ _ _, fun b hb => by cases hb; exact he⟩
        next he => exact absurd hp hne
    · exfalso
      cases hp : h p with
      | none => rw [hp] at hne; exact hne (putT_other _ _ _ _ n)
      | some c =>
        rw [hp] at hne
        dsimp only at hne
        split at hne
        · exact hne (putT_other _ _ _ _ n)
        · exact hne rfl
theorem fold_le (zs : List Int) (ch : Int) (fr : ByteArray) (g : Tm) : ∀ (l : List Lg) (h : Tm) (q : ByteArray) {b : Int}, h q = some b → ∃ e, l.foldl (oneT zs ch fr g) h q = some e ∧ e ≤ b
  | [], h, q, b, hb => ⟨b, hb, Int.le_refl _⟩
  | x :: l, h, q, b, hb => by
    obtain ⟨c, hc, hcb⟩ := takeT_le h x.t q (legOut zs ch fr g x) hb
    obtain ⟨e, he, hec⟩ := fold_le zs ch fr g l (oneT zs ch fr g h x) q hc
    exact ⟨e, he, by omega⟩
theorem fold_hit (zs : List Int) (ch : Int) (fr : ByteArray) (g : Tm) : ∀ (l : List Lg) (h : Tm) (x : Lg), x ∈ l → ∀ {e : Int}, legOut zs ch fr g x = some e → ∃ e', l.foldl (oneT zs ch fr g) h x.t = some e' ∧ e' ≤ e
  | y :: l, h, x, hx, e, he => by
    rcases List.mem_cons.1 hx with rfl | hx
    · obtain ⟨c, hc, hce⟩ := takeT_hit h x.t e
      rw [← he] at hc
      obtain ⟨e', h1, h2⟩ := fold_le zs ch fr g l (oneT zs ch fr g h x) x.t hc
      exact ⟨e', h1, by omega⟩
    · exact fold_hit zs ch fr g l (oneT zs ch fr g h y) x hx he
theorem fold_new (zs : List Int) (ch : Int) (fr : ByteArray) (g : Tm) : ∀ (l : List Lg) (h : Tm) (q : ByteArray), l.foldl (oneT zs ch fr g) h q ≠ h q → ∃ x ∈ l, x.t = q ∧ ∃ e, legOut zs ch fr g x = some e ∧ l.foldl (oneT zs ch fr g) h q = some e ∧ ∀ b, h q = some b → e < b
  | [], h, q, hne => absurd rfl hne
  | y :: l, h, q, hne => by
    by_cases hn : l.foldl (oneT zs ch fr g) (oneT zs ch fr g h y) q = oneT zs ch fr g h y q
    · have hy : oneT zs ch fr g h y q ≠ h q := fun e => hne (hn.trans e)
      obtain ⟨hq, e, h1, h2, h3⟩ := takeT_new h y.t q _ hy
      exact ⟨y, List.mem_cons_self .., hq.symm, e, h1, hn.trans h2, h3⟩
    · obtain ⟨x, hx, ht, e, h1, h2, h3⟩ := fold_new zs ch fr g l (oneT zs ch fr g h y) q hn
      refine ⟨x, List.mem_cons_of_mem _ hx, ht, e, h1, h2, fun b hb => ?_⟩
      obtain ⟨c, hc, hcb⟩ := takeT_le h y.t q (legOut zs ch fr g y) hb
      have := h3 c hc
      omega
theorem round_le {zs : List Int} {ch : Int} {fr : ByteArray} {l : List Lg} {g : Tm} {q : ByteArray} {b : Int} (hb : g q = some b) : ∃ e, roundT zs ch fr l g q = some e ∧ e ≤ b := fold_le zs ch fr g l g q hb
theorem round_new {zs : List Int} {ch : Int} {fr : ByteArray} {l : List Lg} {g : Tm} {q : ByteArray} (h : roundT zs ch fr l g q ≠ g q) : ∃ x ∈ l, x.t = q ∧ ∃ e, legOut zs ch fr g x = some e ∧ roundT zs ch fr l g q = some e ∧ ∀ b, g q = some b → e < b := fold_new zs ch fr g l g q h
theorem round_hit {zs : List Int} {ch : Int} {fr : ByteArray} {l : List Lg} {g : Tm} {x : Lg} (hx : x ∈ l) {e : Int} (he : legOut zs ch fr g x = some e) : ∃ e', roundT zs ch fr l g x.t = some e' ∧ e' ≤ e := fold_hit zs ch fr g l g x hx he
theorem nodup_len {α : Type} [DecidableEq α] : ∀ (c l : List α), c.Nodup → (∀ q ∈ c, q ∈ l) → c.length ≤ l.length
  | [], _, _, _ => Nat.zero_le _
  | a :: c, l, hn, hs => by
    have ha : a ∈ l := hs a (List.mem_cons_self ..)
    have hna := List.nodup_cons.1 hn
    have := nodup_len c (l.erase a) hna.2 (fun q hq => (List.mem_erase_of_ne (fun e : q = a => hna.1 (e ▸ hq))).2 (hs q (List.mem_cons_of_mem _ hq)))
    rw [List.length_erase_of_mem ha] at this
    have := List.length_pos_of_mem ha
    simp only [List.length_cons]
    omega
/-- what turns in a round has a chain of places behind it, one more than rounds -/
theorem arr_chain {l : List Lg} {zs : List Int} {ch : Int} {fr : ByteArray} {a : Int} {pl : List ByteArray} (hok : ∀ x ∈ l, legOk x = true) (hc : 0 ≤ ch) (hfr : fr ∈ pl) (hpl : ∀ x ∈ l, x.t ∈ pl) : ∀ (r : Nat) (p : ByteArray) (v : Int),
    arrT l zs ch fr a r p = some v → (r = 0 ∨ arrT l zs ch fr a r p ≠ arrT l zs ch fr a (r - 1) p) →
    ∃ c : List ByteArray, c.Nodup ∧ c.length = r + 1 ∧ p ∈ c ∧ ∀ q ∈ c, q ∈ pl ∧ ∃ b, arrT l zs ch fr a r q = some b ∧ b ≤ v
  | 0, p, v, hv, _ => by
    have hp : p = fr := by
      unfold arrT initT at hv
      split at hv
      · assumption
      · cases hv
    refine ⟨[p], by simp, rfl, List.mem_singleton.2 rfl, fun q hq => ?_⟩
    obtain rfl := List.mem_singleton.1 hq
    exact ⟨hp ▸ hfr, v, hv, Int.le_refl _⟩
  | r + 1, p, v, hv, hne => by
    have hne' : roundT zs ch fr l (arrT l zs ch fr a r) p ≠ arrT l zs ch fr a r p := by
      rcases hne with h | h
      · omega
      · exact h
    obtain ⟨x, hx, rfl, e, ho, he, hb⟩ := round_new hne'
    have hve : e = v := by
      have := he.symm.trans hv
      exact Option.some.inj this
    subst hve
    obtain ⟨u, hu, hle⟩ := legOut_some ho
    have hue : u < e := Int.lt_of_le_of_lt (ready_ge hc) (legEnd_gt (hok x hx) hle)
    have hfrom : r = 0 ∨ arrT l zs ch fr a r x.f ≠ arrT l zs ch fr a (r - 1) x.f := by
      by_cases h0 : r = 0
      · exact .inl h0
      · refine .inr fun heq => ?_
        obtain ⟨r', rfl⟩ : ∃ r', r = r' + 1 := ⟨r - 1, by omega⟩
        rw [Nat.add_sub_cancel] at heq
        have ho' : legOut zs ch fr (arrT l zs ch fr a r') x = some e := by
          rw [← ho]; unfold legOut; rw [heq]
        obtain ⟨e', h1, h2⟩ := round_hit hx ho'
        have := hb e' h1
        omega
    obtain ⟨c, hn, hl, hm, hall⟩ := arr_chain hok hc hfr hpl r x.f u hu hfrom
    have hnot : x.t ∉ c := fun hin => by
      obtain ⟨_, b, hb1, hb2⟩ := hall _ hin
      have := hb b hb1
      omega
    refine ⟨x.t :: c, List.nodup_cons.2 ⟨hnot, hn⟩, by simp [hl], List.mem_cons_self .., fun q hq => ?_⟩
    rcases List.mem_cons.1 hq with rfl | hq
    · exact ⟨hpl x hx, e, hv, Int.le_refl _⟩
    · obtain ⟨h1, b, hb1, hb2⟩ := hall q hq
      obtain ⟨b', h3, h4⟩ := round_le (zs := zs) (ch := ch) (fr := fr) (l := l) hb1
      exact ⟨h1, b', h3, by omega⟩
/-- behind as many rounds as there are places nothing turns -/
theorem arr_fix {l : List Lg} {zs : List Int} {ch : Int} {fr : ByteArray} {a : Int} {pl : List ByteArray} (hok : ∀ x ∈ l, legOk x = true) (hc : 0 ≤ ch) (hfr : fr ∈ pl) (hpl : ∀ x ∈ l, x.t ∈ pl) {k : Nat} (hk : pl.length ≤ k + 1) : arrT l zs ch fr a (k + 1) = arrT l zs ch fr a k := by
  funext p
  by_cases h : arrT l zs ch fr a (k + 1) p = arrT l zs ch fr a k p
  · exact h
  · exfalso
    cases hv : arrT l zs ch fr a (k + 1) p with
    | none =>
      cases hb : arrT l zs ch fr a k p with
      | none => exact h (hv.trans hb.symm)
      | some b =>
        obtain ⟨e, he, _⟩ := round_le (zs := zs) (ch := ch) (fr := fr) (l := l) hb
        exact absurd (hv.symm.trans he) (by simp)
    | some v =>
      obtain ⟨c, h1, h2, _, h4⟩ := arr_chain hok hc hfr hpl (k + 1) p v hv (.inr (by simpa using h))
      have := nodup_len c pl h1 (fun q hq => (h4 q hq).1)
      omega
theorem arr_stay {l : List Lg} {zs : List Int} {ch : Int} {fr : ByteArray} {a : Int} {k : Nat} (h : arrT l zs ch fr a (k + 1) = arrT l zs ch fr a k) : ∀ m, arrT l zs ch fr a (k + m) = arrT l zs ch fr a k
  | 0 => rfl
  | m + 1 => by
    have := arr_stay h m
    show roundT zs ch fr l (arrT l zs ch fr a (k + m)) = _
    rw [this]
    exact h
theorem arr_same {l : List Lg} {zs : List Int} {ch : Int} {fr : ByteArray} {a : Int} {k m : Nat} (h : arrT l zs ch fr a (k + 1) = arrT l zs ch fr a k) (hm : k ≤ m) : arrT l zs ch fr a m = arrT l zs ch fr a k := by
  have := arr_stay h (m - k)
  rwa [show k + (m - k) = m by omega] at this
/-- the times are of the clock -/
theorem fold_bd (zs : List Int) (ch : Int) (fr : ByteArray) (g : Tm) : ∀ (l : List Lg) (h : Tm), (∀ x ∈ l, legOk x = true) → (∀ q b, h q = some b → 0 ≤ b ∧ b ≤ 100000) → ∀ q b, l.foldl (oneT zs ch fr g) h q = some b → 0 ≤ b ∧ b ≤ 100000
  | [], h, _, hb, q, b, e => hb q b e
  | x :: l, h, hok, hb, q, b, e => by
    refine fold_bd zs ch fr g l (oneT zs ch fr g h x) (fun y hy => hok y (List.mem_cons_of_mem _ hy)) (fun p c hc => ?_) q b e
    by_cases hn : takeT h x.t (legOut zs ch fr g x) p = h p
    · exact hb p c (hn.symm.trans hc)
    · obtain ⟨_, e', h1, h2, _⟩ := takeT_new _ _ _ _ hn
      obtain ⟨u, _, hu⟩ := legOut_some h1
      have hce : e' = c := Option.some.inj (h2.symm.trans hc)
      subst hce
      exact legEnd_bd (hok x (List.mem_cons_self ..)) hu
theorem arr_bd {l : List Lg} {zs : List Int} {ch : Int} {fr : ByteArray} {a : Int} (hok : ∀ x ∈ l, legOk x = true) (ha : 0 ≤ a ∧ a ≤ 100000) : ∀ (k : Nat) (q : ByteArray) (b : Int), arrT l zs ch fr a k q = some b → 0 ≤ b ∧ b ≤ 100000
  | 0, q, b, h => by
    unfold arrT initT at h
    split at h
    · cases h; exact ha
    · cases h
  | k + 1, q, b, h => fold_bd zs ch fr _ l _ hok (arr_bd hok ha k) q b h
/-- only places have times -/
theorem fold_dom (zs : List Int) (ch : Int) (fr : ByteArray) (g : Tm) (pl : List ByteArray) : ∀ (l : List Lg) (h : Tm), (∀ x ∈ l, x.t ∈ pl) → (∀ q b, h q = some b → q ∈ pl) → ∀ q b, l.foldl (oneT zs ch fr g) h q = some b → q ∈ pl
  | [], h, _, hb, q, b, e => hb q b e
  | x :: l, h, hok, hb, q, b, e => by
    refine fold_dom zs ch fr g pl l (oneT zs ch fr g h x) (fun y hy => hok y (List.mem_cons_of_mem _ hy)) (fun p c hc => ?_) q b e
    by_cases hn : takeT h x.t (legOut zs ch fr g x) p = h p
    · exact hb p c (hn.symm.trans hc)
    · obtain ⟨hp, _⟩ := takeT_new _ _ _ _ hn
      exact hp ▸ hok x (List.mem_cons_self ..)
theorem arr_dom {l : List Lg} {zs : List Int} {ch : Int} {fr : ByteArray} {a : Int} {pl : List ByteArray} (hfr : fr ∈ pl) (hpl : ∀ x ∈ l, x.t ∈ pl) : ∀ (k : Nat) (q : ByteArray) (b : Int), arrT l zs ch fr a k q = some b → q ∈ pl
  | 0, q, b, h => by
    unfold arrT initT at h
    split at h
    next e => exact e ▸ hfr
    · cases h
  | k + 1, q, b, h => fold_dom zs ch fr _ pl l _ hpl (arr_dom hfr hpl k) q b h
/-- the times of the places in order, -1 where there is none -/
def listT (pl : List ByteArray) (g : Tm) : List Int := pl.map fun p => (g p).getD (-1)
theorem listT_len (pl : List ByteArray) (g : Tm) : (listT pl g).length = pl.length := by simp [listT]
theorem listT_at (pl : List ByteArray) (g : Tm) (j : Nat) (h : j < pl.length) : (listT pl g).getD j 0 = (g pl[j]).getD (-1) := by simp [listT, List.getD, h]
theorem listT_get (pl : List ByteArray) (g : Tm) (j : Nat) (h : j < (listT pl g).length) : (listT pl g)[j] = (g (pl[j]'(by rwa [listT_len] at h))).getD (-1) := by simp [listT]
theorem listT_put {pl : List ByteArray} (hn : pl.Nodup) (g : Tm) (j : Nat) (h : j < pl.length) (e : Int) : (listT pl g).set j e = listT pl (putT g pl[j] e) := by
  refine List.ext_getElem (by simp [listT_len]) fun i h1 h2 => ?_
  rw [List.getElem_set]
  have hi : i < pl.length := by rwa [listT_len] at h2
  rw [listT_get, listT_get]
  by_cases e1 : j = i
  · subst e1; rw [if_pos rfl, putT_same]; rfl
  · rw [if_neg e1, putT_other]
    intro e2
    exact e1 ((List.getElem_inj hn).1 e2).symm
/-- the index of a text, -1 if it is not there -/
abbrev idxI (l : List ByteArray) (p : ByteArray) : Int := Lib.idxOfS l p
theorem idx_hit {l : List ByteArray} {p : ByteArray} {k : Nat} (hk : k < l.length) (h : ∀ j (hj : j < k), l[j]'(by omega) ≠ p) (hp : l[k] = p) : idxI l p = k := by
  have := Lib.idxOfS_hit l l.length k p hk (Nat.le_refl _) (by simp [List.getD, hk, hp]) (fun j hj => by
    have hjl : j < l.length := by omega
    simpa [List.getD, hjl] using h j hj)
  rwa [List.take_length] at this
theorem idx_none {l : List ByteArray} {p : ByteArray} (h : p ∉ l) : idxI l p = -1 := by
  have := Lib.idxOfS_miss l l.length p (fun j hj => by
    simp only [List.getD, List.getElem?_eq_getElem hj, Option.getD_some]
    exact fun e => h (e ▸ List.getElem_mem hj))
  rwa [List.take_length] at this
theorem idx_mem {l : List ByteArray} (hn : l.Nodup) {p : ByteArray} (h : p ∈ l) : ∃ k : Nat, idxI l p = k ∧ ∃ hk : k < l.length, l[k] = p := by
  obtain ⟨k, hk, e⟩ := List.getElem_of_mem h
  exact ⟨k, idx_hit hk (fun j hj e' => by have := (List.getElem_inj hn).1 (e'.trans e.symm); omega) e, hk, e⟩
theorem idx_at {l : List ByteArray} (hn : l.Nodup) {k : Nat} (hk : k < l.length) : idxI l l[k] = k :=
  idx_hit hk (fun j hj e => by have := (List.getElem_inj hn).1 e; omega) rfl
end Go.Proofs.YtadcmngooobeiabGreat

/- Maps from texts to times: what a map's block holds, as a table of times by place. -/
namespace Go.Proofs.YtadcmngooobeiabGreat
open Go.RowKit Go.Maps
def ksL (s : ByteArray) : Lit := .string s.data.toList
theorem ksL_inj {s t : ByteArray} (h : ksL s = ksL t) : s = t := by
  have h1 : s.data.toList = t.data.toList := by simpa [ksL] using h
  have h2 : s.data = t.data := Array.toList_inj.1 h1
  cases s; cases t; simp_all
theorem ksL_ne {s t : ByteArray} (h : s ≠ t) : ksL s ≠ ksL t := fun e => h (ksL_inj e)
theorem ksL_key (s : ByteArray) : WideAt.IsKeyLit (ksL s) := trivial
def iD (v : Int) : DataW Unit := .lit (.int .i64 v)
structure FitT (D : DataW Unit) (g : Tm) : Prop where
  has : ∀ s, Maps.has D (ksL s) = (g s).isSome
  at_ : ∀ s v, g s = some v → ∀ z, D.atKey (ksL s) z = iD v
  key : ∀ k, Maps.has D k = true → ∃ s, k = ksL s
theorem FitT.empty : FitT (.map []) (fun _ => none) := ⟨fun _ => rfl, fun _ _ h => (by cases h), fun _ h => (by cases h)⟩
theorem FitT.put {D : DataW Unit} {g : Tm} (h : FitT D g) (hD : Maps.IsMap D) (s : ByteArray) (e : Int) : FitT (D.put (ksL s) (iD e)) (putT g s e) := by
  refine ⟨fun q => ?_, fun q v hq z => ?_, fun k hk => ?_⟩
  · by_cases n : q = s
    · subst n; rw [has_put_same hD (ksL_key q), putT_same]; rfl
    · rw [has_put_other (ksL_ne n), putT_other _ _ _ _ n, h.has]
  · by_cases n : q = s
    · subst n; rw [putT_same] at hq; cases hq; exact atKey_put_same hD (ksL_key q) _ _
    · rw [putT_other _ _ _ _ n] at hq; rw [atKey_put_other (ksL_ne n)]; exact h.at_ q v hq z
  · by_cases n : k = ksL s
    · exact ⟨s, n⟩
    · rw [has_put_other n] at hk; exact h.key k hk
/-- block b is a map of at most n entries that holds these times -/
def MapT (w : World) (b n : Nat) (g : Tm) : Prop := ∃ D : DataW Unit, w.ownsMap Tryz.prog 9 (plainElem Tryz.prog 3) b n D ∧ FitT D g
theorem key_law : Keyed Tryz.prog 9 := string_keyed Tryz.underlying9
theorem zero_int (w : World) : (zeroValue 3).run Tryz.prog w = .ok (.int .i64 0) w := by kernel_rfl
section
variable {w w' : World} {b n : Nat} {g : Tm}
theorem MapT.made (w : World) : MapT (w.alloc (.map #[] 0)) w.heap.size 0 (fun _ => none) := ⟨_, World.ownsMap_made _ _ _ _, FitT.empty⟩
theorem MapT.mono (h : MapT w b n g) {m : Nat} (hm : n ≤ m) : MapT w b m g := let ⟨D, h1, h2⟩ := h; ⟨D, h1.mono hm, h2⟩
theorem MapT.lt (h : MapT w b n g) : b < w.heap.size := let ⟨_, h1, _⟩ := h; h1.lt
theorem MapT.kept {row : Option Nat} (h : MapT w b n g) (hg : w.grownBy w' row) (hne : some b ≠ row) : MapT w' b n g := let ⟨D, h1, h2⟩ := h; ⟨D, h1.kept hg hne, h2⟩
theorem MapT.below (h : MapT w b n g) (hb : Below w.heap.size w w') : MapT w' b n g := by
  obtain ⟨D, ⟨es, clock, h1, h2⟩, h3⟩ := h
  exact ⟨D, ⟨es, clock, (hb.block b (Array.getElem?_eq_some_iff.1 h1).1).trans h1, h2⟩, h3⟩
theorem MapT.alloc (h : MapT w b n g) (o : Obj) : MapT (w.alloc o) b n g := let ⟨D, h1, h2⟩ := h; ⟨D, h1.alloc o, h2⟩
/-- maps.Clone -/
theorem MapT.shape (h : MapT w b n g) : ∃ es clock, w.heap[b]? = some (.map es clock) ∧ MapT (w.alloc (.map es clock)) w.heap.size n g := by
  obtain ⟨D, ⟨es, clock, h1, h2⟩, h3⟩ := h
  exact ⟨es, clock, h1, D, ⟨es, clock, (MapKept.heap_alloc w _).1, h2⟩, h3⟩
end
theorem look_val {D : DataW Unit} {g : Tm} (h : FitT D g) {s : ByteArray} {c : Int} (hc : D.atKey (ksL s) (.lit (.int .i64 0)) = .lit (.int .i64 c)) : c = (g s).getD 0 := by
  cases hgs : g s with
  | none =>
    rw [Maps.atKey_of_not_has (by rw [h.has s, hgs]; rfl)] at hc
    simp at hc
    exact hc.symm
  | some v =>
    rw [h.at_ s v hgs] at hc
    simp [iD] at hc
    exact hc.symm
/-- 'v, ok := m[k]' -/
theorem wp_look {w : World} {ops : Array Oper} {rest : List Oper} {o : Oper} {a : Act} {Q : Exit → Act → World → Prop}
    (hg : o.guard = none) (m x : Operand) (t : TypeId) (hop : o.op = Op.lookup t m x true) (ht : Tryz.prog.underlying t = some (.map 9 3)) (b n : Nat) (g : Tm)
    (hm : a.eval m = .map (some b)) (hown : MapT w b n g) (s : ByteArray) (hx : a.eval x = .string s) (hs : s.size ≤ maxLen) (u : Int) (ok : Bool) (hu : (g s).getD 0 = u) (hok : (g s).isSome = ok)
    (hK : wpList Tryz.prog ops Q rest (a.put o.dst (.tuple #[.int .i64 u, .bool ok])) w) :
    wpList Tryz.prog ops Q (o :: rest) a w := by
  obtain ⟨D, h1, h2⟩ := hown
  refine wpList_lookup_own_ok_int w hg m x t hop 9 3 .i64 key_law ht Tryz.underlying3 (zero_int w) b n D hm h1 (.string s) (ksL s) hx (WideMaps.keyOf_string_mk Tryz.underlying9 hs) (fun c hc _ => ?_)
  rw [h2.has s, hok]
  rw [show c = u from (look_val h2 hc).trans hu]
  exact hK
/-- 'm[k]' -/
theorem wp_look1 {w : World} {ops : Array Oper} {rest : List Oper} {o : Oper} {a : Act} {Q : Exit → Act → World → Prop}
    (hg : o.guard = none) (m x : Operand) (t : TypeId) (hop : o.op = Op.lookup t m x false) (ht : Tryz.prog.underlying t = some (.map 9 3)) (b n : Nat) (g : Tm)
    (hm : a.eval m = .map (some b)) (hown : MapT w b n g) (s : ByteArray) (hx : a.eval x = .string s) (hs : s.size ≤ maxLen) (u : Int) (hu : (g s).getD 0 = u)
    (hK : wpList Tryz.prog ops Q rest (a.put o.dst (.int .i64 u)) w) :
    wpList Tryz.prog ops Q (o :: rest) a w := by
  obtain ⟨D, h1, h2⟩ := hown
  refine wpList_lookup_own_int w hg m x t hop 9 3 .i64 key_law ht Tryz.underlying3 (zero_int w) b n D hm h1 (.string s) (ksL s) hx (WideMaps.keyOf_string_mk Tryz.underlying9 hs) (fun c hc _ => ?_)
  rw [show c = u from (look_val h2 hc).trans hu]
  exact hK
/-- 'm[k] = v' -/
theorem wp_store {w : World} {ops : Array Oper} {rest : List Oper} {o : Oper} {a : Act} {Q : Exit → Act → World → Prop}
    (hg : o.guard = none) (m x v : Operand) (t : TypeId) (hop : o.op = Op.mapUpdate t m x v) (ht : Tryz.prog.underlying t = some (.map 9 3)) (b n : Nat) (g : Tm)
    (hm : a.eval m = .map (some b)) (hown : MapT w b n g) (hn : n < 4194304) (s : ByteArray) (e : Int) (hx : a.eval x = .string s) (hv : a.eval v = .int .i64 e) (hs : s.size ≤ maxLen) (he : (Lit.int .i64 e).wf = true)
    (hK : ∀ w', MapT w' b (n + 1) (putT g s e) → w.grownBy w' (some b) → wpList Tryz.prog ops Q rest (a.put o.dst undef) w') :
    wpList Tryz.prog ops Q (o :: rest) a w := by
  obtain ⟨D, h1, h2⟩ := hown
  exact wpList_mapUpdate_own w hg m x v t hop 9 3 key_law ht (plainElem Tryz.prog 3) b n D hm h1 (by unfold maxLen; omega) (.string s) (.int .i64 e) (ksL s) hx hv (WideMaps.keyOf_string_mk Tryz.underlying9 hs) (iD e) [] (plainElem_int Tryz.underlying3 he)
    (fun w' h3 h4 => hK w' ⟨_, h3, h2.put (h1.tidy key_law).isMap s e⟩ h4)
/-- an entry of a map literal -/
theorem wp_insert {w : World} {ops : Array Oper} {rest : List Oper} {o : Oper} {a : Act} {Q : Exit → Act → World → Prop}
    (hg : o.guard = none) (m x v : Operand) (t : TypeId) (hop : o.op = Op.insert t m x v) (ht : Tryz.prog.underlying t = some (.map 9 3)) (b n : Nat) (g : Tm)
    (hm : a.eval m = .map (some b)) (hown : MapT w b n g) (hn : n < 4194304) (s : ByteArray) (e : Int) (hx : a.eval x = .string s) (hv : a.eval v = .int .i64 e) (hs : s.size ≤ maxLen) (he : (Lit.int .i64 e).wf = true)
    (hK : ∀ w', MapT w' b (n + 1) (putT g s e) → w.grownBy w' (some b) → wpList Tryz.prog ops Q rest (a.put o.dst undef) w') :
    wpList Tryz.prog ops Q (o :: rest) a w := by
  obtain ⟨D, h1, h2⟩ := hown
  refine wpList_plain hg fun K' hK' => ?_
  obtain ⟨w', hrun, r1, r2⟩ := h1.update key_law ht (by unfold maxLen; omega) (WideMaps.keyOf_string_mk Tryz.underlying9 hs) (plainElem_int Tryz.underlying3 he)
  unfold Oper.wp
  simp [execOp, hop, hm, hx, hv, hrun, Result.andThen]
  exact hK' _ _ (hK w' ⟨_, r1, h2.put (h1.tidy key_law).isMap s e⟩ r2)
/-- two times are one -/
def sameD : DataW Unit → DataW Unit → Bool
  | .lit (.int _ a), .lit (.int _ b) => a == b
  | _, _ => false
theorem equal_yes {D1 D2 : DataW Unit} {g1 g2 : Tm} (h1 : FitT D1 g1) (h2 : FitT D2 g2) (t1 : Maps.Tidy D1) (he : Lib.equalFuncD sameD D1 D2 = true) (s : ByteArray) (v : Int) (hv : g1 s = some v) : g2 s = some v := by
  obtain ⟨es, rfl, hp⟩ := t1
  unfold Lib.equalFuncD at he
  simp only [Bool.and_eq_true, List.all_eq_true] at he
  have hh : Maps.has (.map es) (ksL s) = true := by rw [h1.has, hv]; rfl
  obtain ⟨p, hpm, hps⟩ := List.any_eq_true.1 (show es.any (fun p => p.1.sameKey (ksL s)) = true from hh)
  have e1 : p.1 = ksL s := WideAt.sameKey_eq hps
  have e2 : p.2 = iD v := (WideAt.atKey_mem .nil (ksL_key s) hp (by rw [← e1]; exact hpm)).symm.trans (h1.at_ s v hv .nil)
  have hg := he.2 p hpm
  unfold Lib.goodD at hg
  simp only [Bool.and_eq_true] at hg
  rw [e1, h2.has] at hg
  cases hw : g2 s with
  | none => rw [hw] at hg; exact absurd hg.1 (by simp)
  | some u =>
    have h3 := hg.2
    rw [h2.at_ s u hw, e2] at h3
    have h4 : (v == u) = true := h3
    rw [eq_of_beq h4]
theorem equal_same {D1 D2 : DataW Unit} {g : Tm} (h1 : FitT D1 g) (h2 : FitT D2 g) (c1 : Maps.Canon D1) (c2 : Maps.Canon D2) (t1 : Maps.Tidy D1) : Lib.equalFuncD sameD D1 D2 = true := by
  have : D1 = D2 := Maps.ext c1 c2
    (fun k => by
      cases ha : Maps.has D1 k with
      | true => obtain ⟨s, rfl⟩ := h1.key k ha; rw [h1.has] at ha; rw [h2.has]; exact ha.symm
      | false =>
        cases hb : Maps.has D2 k with
        | false => rfl
        | true => obtain ⟨s, rfl⟩ := h2.key k hb; rw [h2.has] at hb; rw [h1.has, hb] at ha; cases ha)
    (fun k z ha => by
      obtain ⟨s, rfl⟩ := h1.key k ha
      rw [h1.has] at ha
      obtain ⟨v, hv⟩ := Option.isSome_iff_exists.1 ha
      rw [h1.at_ s v hv, h2.at_ s v hv])
  subst this
  obtain ⟨es, rfl, hp⟩ := t1
  unfold Lib.equalFuncD
  simp only [decide_true, Bool.true_and, List.all_eq_true]
  intro p hpm
  obtain ⟨es', he', _, hk'⟩ := c1
  obtain rfl : es = es' := by cases he'; rfl
  have hh : Maps.has (.map es) p.1 = true := List.any_eq_true.2 ⟨p, hpm, WideAt.sameKey_self (hk' p hpm)⟩
  obtain ⟨s, hs⟩ := h1.key p.1 hh
  unfold Lib.goodD
  rw [hh, Bool.true_and]
  have hv : (g s).isSome = true := by rw [← h1.has, ← hs]; exact hh
  obtain ⟨v, hv⟩ := Option.isSome_iff_exists.1 hv
  have e2 : p.2 = iD v := (WideAt.atKey_mem .nil (hk' p hpm) hp hpm).symm.trans (by rw [hs]; exact h1.at_ s v hv .nil)
  rw [e2, hs, h1.at_ s v hv]
  show (v == v) = true
  simp
end Go.Proofs.YtadcmngooobeiabGreat

/- The first trip of a leg for what has arrived at its start. -/
namespace Go.Proofs.YtadcmngooobeiabGreat
open Go.RowKit
/-- the day of the next trip of a leg, -1 if nothing has arrived at its start or none runs -/
def onD (zs : List Int) (ch : Int) (fr : ByteArray) (g : Tm) (x : Lg) : Int := match g x.f with
  | none => -1
  | some a => firstD (nextP x zs (readyI ch fr x.f a)) 61
theorem onD_none {zs : List Int} {ch : Int} {fr : ByteArray} {g : Tm} {x : Lg} (h : g x.f = none) : onD zs ch fr g x = -1 := by unfold onD; rw [h]
theorem onD_some {zs : List Int} {ch : Int} {fr : ByteArray} {g : Tm} {x : Lg} {a : Int} (h : g x.f = some a) : onD zs ch fr g x = firstD (nextP x zs (readyI ch fr x.f a)) 61 := by unfold onD; rw [h]
theorem legOut_of {zs : List Int} {ch : Int} {fr : ByteArray} {g : Tm} {x : Lg} : legOut zs ch fr g x = if onD zs ch fr g x < 0 then none else some (onD zs ch fr g x * 1440 + x.s + x.k) := by
  unfold legOut onD
  cases g x.f with
  | none => rfl
  | some a => rfl
theorem onD_bd {zs : List Int} {ch : Int} {fr : ByteArray} {g : Tm} {x : Lg} : onD zs ch fr g x = -1 ∨ (0 ≤ onD zs ch fr g x ∧ onD zs ch fr g x ≤ 60) := by
  unfold onD
  cases g x.f with
  | none => exact .inl rfl
  | some a =>
    dsimp only
    rcases firstD_bd (nextP x zs (readyI ch fr x.f a)) 61 with h | h
    · by_cases h0 : firstD (nextP x zs (readyI ch fr x.f a)) 61 = -1
      · exact .inl h0
      · exact .inr (by omega)
    · exact .inl h
theorem str_ext {s t : ByteArray} (h : s.data.toList = t.data.toList) : s = t := by cases s; cases t; simp_all [Array.toList_inj]
theorem str_eq {s t : ByteArray} (h : s = t) : (s.toList == t.toList) = true := by rw [h]; simp
theorem str_ne {s t : ByteArray} (h : s ≠ t) : (s.toList == t.toList) = false := by
  have : s.toList ≠ t.toList := fun e => h (str_ext (by rw [← ByteArray.toList_eq, ← ByteArray.toList_eq]; exact e))
  simpa using this
theorem trOk_net {l : List Lg} {zs : List Int} {x : Int} {k : Nat} (h : netB l zs x = true) (hk : k < l.length) : trOk l zs x k = true := by
  unfold trOk; rw [h, decide_eq_true (by omega)]; rfl
end Go.Proofs.YtadcmngooobeiabGreat

/- Texts in ascending order, each once. No program. -/
namespace Go.Proofs.YtadcmngooobeiabGreat
open Go.RowKit
abbrev Bs := List UInt8
def lt' (a b : Bs) : Prop := Op.bytesLess a b = true
theorem lt_iff : ∀ x y : Bs, Op.bytesLess x y = true ↔ x < y
  | [], [] => by simp [Op.bytesLess]
  | _ :: _, [] => by simp [Op.bytesLess]
  | [], _ :: _ => by simp [Op.bytesLess]
  | a :: x, b :: y => by rw [bl_cons, lt_iff x y, List.cons_lt_cons_iff]
def insU (p : Bs) : List Bs → List Bs
  | [] => [p]
  | x :: r => if Op.bytesLess x p then x :: insU p r else if x = p then x :: r else p :: x :: r
def placesL (l : List Bs) : List Bs := l.foldl (fun o p => insU p o) []
theorem placesL_snoc (l : List Bs) (p : Bs) : placesL (l ++ [p]) = insU p (placesL l) := by simp [placesL]
theorem ins_mem (p y : Bs) : ∀ l, y ∈ insU p l ↔ y = p ∨ y ∈ l
  | [] => by simp [insU]
  | x :: r => by
    unfold insU
    split
    · rw [List.mem_cons, ins_mem p y r, List.mem_cons]
      constructor
      · rintro (h | h | h)
        · exact .inr (.inl h)
        · exact .inl h
        · exact .inr (.inr h)
      · rintro (h | h | h)
        · exact .inr (.inl h)
        · exact .inl h
        · exact .inr (.inr h)
    · split
      · rename_i h
        subst h
        constructor
        · exact .inr
        · rintro (rfl | h)
          · exact List.mem_cons_self
          · exact h
      · simp
theorem ins_sorted (p : Bs) : ∀ l, l.Pairwise lt' → (insU p l).Pairwise lt'
  | [], _ => by simp [insU]
  | x :: r, h => by
    obtain ⟨h1, h2⟩ := List.pairwise_cons.1 h
    unfold insU
    split
    · rename_i hx
      refine List.pairwise_cons.2 ⟨fun y hy => ?_, ins_sorted p r h2⟩
      rcases (ins_mem p y r).1 hy with rfl | hy
      · exact hx
      · exact h1 y hy
    · rename_i hx
      split
      · exact h
      · rename_i hne
        have hp : lt' p x := by
          cases hh : Op.bytesLess p x with
          | true => exact hh
          | false => exact absurd (bl_total x p (by simpa using hx) hh) hne
        refine List.pairwise_cons.2 ⟨fun y hy => ?_, h⟩
        rcases List.mem_cons.1 hy with rfl | hy
        · exact hp
        · exact bl_trans _ _ _ hp (h1 y hy)
theorem pl_step (P : List Bs → Prop) (h0 : P []) (hs : ∀ o p, P o → P (insU p o)) : ∀ (l o : List Bs), P o → P (l.foldl (fun o p => insU p o) o)
  | [], _, h => h
  | p :: l, o, h => pl_step P h0 hs l _ (hs o p h)
theorem pl_sorted (l : List Bs) : (placesL l).Pairwise lt' := pl_step _ List.Pairwise.nil (fun o p h => ins_sorted p o h) l [] List.Pairwise.nil
theorem pl_mem_aux (y : Bs) : ∀ (l o : List Bs), y ∈ l.foldl (fun o p => insU p o) o ↔ y ∈ l ∨ y ∈ o
  | [], o => by simp
  | p :: l, o => by
    rw [List.foldl_cons, pl_mem_aux y l, ins_mem, List.mem_cons]
    constructor
    · rintro (h | h | h)
      · exact .inl (.inr h)
      · exact .inl (.inl h)
      · exact .inr h
    · rintro ((h | h) | h)
      · exact .inr (.inl h)
      · exact .inl h
      · exact .inr (.inr h)
theorem pl_mem (l : List Bs) (y : Bs) : y ∈ placesL l ↔ y ∈ l := by
  unfold placesL; rw [pl_mem_aux]; simp
/-- only one list is in order and has these members -/
theorem sorted_eq : ∀ a b : List Bs, a.Pairwise lt' → b.Pairwise lt' → (∀ y, y ∈ a ↔ y ∈ b) → a = b
  | [], b, _, _, h => by
    cases b with
    | nil => rfl
    | cons y r => exact absurd ((h y).2 List.mem_cons_self) (by simp)
  | x :: a, [], _, _, h => absurd ((h x).1 List.mem_cons_self) (by simp)
  | x :: a, y :: b, ha, hb, h => by
    obtain ⟨a1, a2⟩ := List.pairwise_cons.1 ha
    obtain ⟨b1, b2⟩ := List.pairwise_cons.1 hb
    have e : x = y := by
      rcases List.mem_cons.1 ((h x).1 List.mem_cons_self) with e | hx
      · exact e
      · rcases List.mem_cons.1 ((h y).2 List.mem_cons_self) with e | hy
        · exact e.symm
        · have h1 := b1 x hx
          have h2 := bl_asymm _ _ (a1 y hy)
          unfold lt' at h1
          rw [h1] at h2; cases h2
    subst e
    congr 1
    refine sorted_eq a b a2 b2 fun z => ?_
    constructor
    · intro hz
      rcases List.mem_cons.1 ((h z).1 (List.mem_cons_of_mem _ hz)) with e | hz'
      · subst e
        have h1 := a1 z hz
        unfold lt' at h1
        rw [bl_irrefl] at h1; cases h1
      · exact hz'
    · intro hz
      rcases List.mem_cons.1 ((h z).2 (List.mem_cons_of_mem _ hz)) with e | hz'
      · subst e
        have h1 := b1 z hz
        unfold lt' at h1
        rw [bl_irrefl] at h1; cases h1
      · exact hz'
/-- where a text is put in -/
theorem ins_at (p : Bs) : ∀ (l : List Bs) (k : Nat), k ≤ l.length → (∀ j (hj : j < l.length), j < k → Op.bytesLess l[j] p = true) → (∀ h : k < l.length, Op.bytesLess l[k] p = false) →
    insU p l = if ∃ h : k < l.length, l[k] = p then l else l.take k ++ p :: l.drop k
  | [], k, hk, _, _ => by simp [insU]
  | x :: r, 0, _, _, h2 => by
    have h := h2 (by simp)
    simp only [List.getElem_cons_zero] at h
    unfold insU
    rw [h]
    by_cases e : x = p
    · simp [e]
    · simp [e]
  | x :: r, k + 1, hk, h1, h2 => by
    have h := h1 0 (by simp) (by omega)
    simp only [List.getElem_cons_zero] at h
    unfold insU
    rw [if_pos h, ins_at p r k (by simpa using hk) (fun j hj hjk => by have := h1 (j + 1) (by simpa using hj) (by omega); simpa using this) (fun hh => by have := h2 (by simpa using hh); simpa using this)]
    by_cases e : ∃ h : k < r.length, r[k] = p
    · obtain ⟨e1, e2⟩ := e
      rw [if_pos ⟨e1, e2⟩, if_pos ⟨by simpa using e1, by simpa using e2⟩]
    · rw [if_neg e, if_neg (fun ⟨e1, e2⟩ => e ⟨by simpa using e1, by simpa using e2⟩)]
      simp
theorem ins_len (p : Bs) : ∀ l, (insU p l).length ≤ l.length + 1
  | [] => by simp [insU]
  | x :: r => by
    unfold insU
    split
    · have := ins_len p r; simp only [List.length_cons]; omega
    · split <;> simp
theorem pl_len (l : List Bs) : (placesL l).length ≤ l.length := by
  have aux : ∀ (l o : List Bs), (l.foldl (fun o p => insU p o) o).length ≤ o.length + l.length := by
    intro l
    induction l with
    | nil => intro o; simp
    | cons p l ih =>
      intro o
      have h1 := ih (insU p o)
      have h2 := ins_len p o
      simp only [List.foldl_cons, List.length_cons]
      omega
  simpa [placesL] using aux l []
theorem compact_of (d : Array Bs) (hd : ∀ i j, i < j → j < d.size → ¬ d[j]! < d[i]!) : ∀ m, m ≤ d.size → (∀ x, x ∈ Lib.compactUpTo d m ↔ ∃ j, j < m ∧ d[j]! = x) ∧ (Lib.compactUpTo d m).Pairwise lt'
  | 0, _ => by simp [Lib.compactUpTo]
  | m + 1, hm => by
    obtain ⟨h1, h2⟩ := compact_of d hd m (by omega)
    rw [Lib.compactUpTo_succ]
    cases hk : Lib.keeps d m with
    | true =>
      rw [if_pos rfl]
      refine ⟨fun x => ?_, List.pairwise_append.2 ⟨h2, List.pairwise_singleton _ _, fun a ha b hb => ?_⟩⟩
      · rw [List.mem_append, h1, List.mem_singleton]
        constructor
        · rintro (⟨j, hj, e⟩ | rfl)
          · exact ⟨j, by omega, e⟩
          · exact ⟨m, by omega, rfl⟩
        · rintro ⟨j, hj, e⟩
          by_cases hjm : j = m
          · subst hjm; exact .inr e.symm
          · exact .inl ⟨j, by omega, e⟩
      · rw [List.mem_singleton] at hb
        subst hb
        obtain ⟨j, hj, rfl⟩ := (h1 a).1 ha
        have h3 : m ≠ 0 := by omega
        have h4 : d[m]! ≠ d[m - 1]! := by
          simp only [Lib.keeps, decide_eq_true_eq] at hk
          rcases hk with hk | hk
          · exact absurd hk h3
          · exact hk
        have h5 := hd (m - 1) m (by omega) (by omega)
        have h6 : d[m - 1]! < d[m]! := by
          rw [← lt_iff]
          cases hh : Op.bytesLess d[m - 1]! d[m]! with
          | true => rfl
          | false => exact absurd (bl_total _ _ (by
              cases hq : Op.bytesLess d[m]! d[m - 1]! with
              | true => exact absurd ((lt_iff _ _).1 hq) h5
              | false => rfl) hh) h4
        by_cases hj1 : j = m - 1
        · subst hj1; exact (lt_iff _ _).2 h6
        · have h7 := hd j (m - 1) (by omega) (by omega)
          have h8 : Op.bytesLess d[j]! d[m - 1]! = true ∨ d[j]! = d[m - 1]! := by
            cases hh : Op.bytesLess d[j]! d[m - 1]! with
            | true => exact .inl rfl
            | false => exact .inr (bl_total _ _ hh (by
                cases hq : Op.bytesLess d[m - 1]! d[j]! with
                | true => exact absurd ((lt_iff _ _).1 hq) h7
                | false => rfl))
          rcases h8 with h8 | h8
          · exact bl_trans _ _ _ h8 ((lt_iff _ _).2 h6)
          · rw [h8]; exact (lt_iff _ _).2 h6
    | false =>
      have hmz : 0 < m := by
        rcases Nat.eq_zero_or_pos m with rfl | h
        · simp [Lib.keeps] at hk
        · exact h
      have e : d[m]! = d[m - 1]! := by
        simp only [Lib.keeps, decide_eq_false_iff_not, not_or, ne_eq, Decidable.not_not] at hk
        exact hk.2
      refine ⟨fun x => ?_, by simpa using h2⟩
      simp only [Bool.false_eq_true, if_false, List.append_nil]
      rw [h1]
      constructor
      · rintro ⟨j, hj, e'⟩; exact ⟨j, by omega, e'⟩
      · rintro ⟨j, hj, e'⟩
        by_cases hjm : j = m
        · subst hjm; exact ⟨j - 1, by omega, by rw [← e, e']⟩
        · exact ⟨j, by omega, e'⟩
/-- sorted, and compacted -/
theorem compact_sort (l : List Bs) : Lib.compact (l.mergeSort fun x y => decide (x ≤ y)) = placesL l := by
  have hp : (l.mergeSort fun x y => decide (x ≤ y)).Pairwise (fun a b => decide (a ≤ b) = true) := List.pairwise_mergeSort
    (fun a b c h1 h2 => by simp only [decide_eq_true_eq] at *; exact List.le_trans h1 h2)
    (fun a b => by simp only [Bool.or_eq_true, decide_eq_true_eq]; exact List.le_total a b) l
  have hm : ∀ y, y ∈ (l.mergeSort fun x y => decide (x ≤ y)) ↔ y ∈ l := fun y => (List.mergeSort_perm l _).mem_iff
  generalize (l.mergeSort fun x y => decide (x ≤ y)) = s at *
  have h := compact_of s.toArray (fun i j hij hj => by
    have hj' : j < s.length := by simpa using hj
    have := List.pairwise_iff_getElem.1 hp i j (by omega) hj' hij
    simp only [decide_eq_true_eq] at this
    simp only [List.getElem!_toArray, getElem!_pos s j hj', getElem!_pos s i (by omega)]
    exact List.not_lt.2 this) s.length (by simp)
  refine sorted_eq _ _ h.2 (pl_sorted l) fun y => ?_
  unfold Lib.compact
  rw [h.1 y, pl_mem, ← hm y]
  constructor
  · rintro ⟨j, hj, rfl⟩
    simp only [List.getElem!_toArray, getElem!_pos s j hj]
    exact List.getElem_mem hj
  · intro hy
    obtain ⟨j, hj, rfl⟩ := List.getElem_of_mem hy
    exact ⟨j, hj, by simp only [List.getElem!_toArray, getElem!_pos s j hj]⟩
end Go.Proofs.YtadcmngooobeiabGreat

/- The contract of impl.PlacesOf. -/
namespace Go.Proofs.YtadcmngooobeiabGreat
open Go.RowKit Go.Sort Go.Lib
def flatS (l : List Lg) : List ByteArray := l.flatMap fun r => [r.f, r.t]
theorem flatS_len (l : List Lg) : (flatS l).length = 2 * l.length := by
  unfold flatS
  induction l with
  | nil => rfl
  | cons r l ih => rw [List.flatMap_cons, List.length_append, ih]; simp; omega
theorem flatS_snoc (l : List Lg) (k : Nat) (hk : k < l.length) : flatS (l.take (k + 1)) = flatS (l.take k) ++ [l[k].f, l[k].t] := by
  unfold flatS
  rw [List.take_succ_eq_append_getElem hk, List.flatMap_append, List.flatMap_singleton]
/-- the places of legs, in order, each once -/
def placesB (l : List Lg) : List ByteArray := ofL (placesL (lists (flatS l)))
theorem placesB_len (l : List Lg) : (placesB l).length ≤ 2 * l.length := by
  unfold placesB
  have := pl_len (lists (flatS l))
  rw [lists_len, flatS_len] at this
  rw [ofL_len]; exact this
theorem enc_lists (l : List ByteArray) : (lists l).map encStr = strV l := by
  unfold lists strV
  rw [List.map_map]
  exact List.map_congr_left fun x _ => by cases x; rfl
theorem enc_ofL (l : List (List UInt8)) : strV (ofL l) = l.map encStr := by
  unfold ofL strV
  rw [List.map_map]; rfl
theorem heap_put {w : World} {g n : Nat} {cur : Array Value} {e : TypeId} {fr : Nat × Nat} (d : Array (List UInt8)) (hb : w.heap[g]? = some (.cells cur e fr)) :
    (putRow encStr (Sort.ahead w n) g 0 d).heap[g]? = some (.cells (putCells encStr 0 d cur) e fr) := by
  simp [putRow, mapBlock, Sort.ahead, Array.getElem?_modify, hb, onCells]
theorem grown_put {w : World} {g n : Nat} (d : Array (List UInt8)) : w.grownBy (putRow encStr (Sort.ahead w n) g 0 d) (some g) := by
  refine ⟨rfl, rfl, rfl, by simp, fun k hk hne => ?_⟩
  have : g ≠ k := fun e => hne (by rw [e])
  simp [putRow, mapBlock, Sort.ahead, Array.getElem?_modify, this]
theorem sort_strs {w : World} {base g cap : Nat} {l : List ByteArray} (h : OwnStr w base (.slice (some ⟨g, 0, none⟩) l.length cap) l) (hn : l.length ≤ 17592186044415) :
    Calls Tryz.prog 130 #[.slice (some ⟨g, 0, none⟩) l.length cap] w fun e w' => e = .returned (.tuple #[]) ∧ OwnStr w' base (.slice (some ⟨g, 0, none⟩) l.length cap) (ofL ((lists l).mergeSort fun x y => decide (x ≤ y))) ∧ w.grownBy w' (some g) := by
  rcases h.2 with ⟨e, _⟩ | ⟨g', c, cur, e, hb, hblk, h1, h2, h3, h4⟩
  · cases e
  cases e
  rw [Nat.mul_one] at h4
  have hl : (lists l).length = l.length := lists_len l
  have hz : ((lists l).mergeSort fun x y => decide (x ≤ y)).length = (lists l).length := List.length_mergeSort _
  have hH := holds_of_block (ss := lists l) hblk (by rw [hl, h4, enc_lists])
  have hS := Tryz.slices_Sort_string g 0 cap (lists l) w hH (Array.getElem?_eq_some_iff.1 hblk).1 (by rw [hl]; omega)
  rw [hl] at hS
  refine hS.mono ?_
  rintro e w' ⟨rfl, n, os, rfl⟩
  refine ⟨rfl, ?_, grownBy_sorted _⟩
  have := ownsRow_sorted (n := n) (os := os) (ss := lists l) hz hb hblk (by rw [hl]; exact h1) h2 (by rw [h3])
  unfold OwnStr
  rw [enc_ofL, ofL_len, hz]
  rw [hl] at this ⊢
  exact this
theorem compact_strs {w : World} {base g cap : Nat} {l : List ByteArray} (h : OwnStr w base (.slice (some ⟨g, 0, none⟩) l.length cap) l) (hn : l.length ≤ 17592186044415) :
    Calls Tryz.prog 131 #[.slice (some ⟨g, 0, none⟩) l.length cap] w fun e w' => ∃ v, e = .returned v ∧ OwnStr w' base v (ofL (Lib.compact (lists l))) ∧ w.grownBy w' (some g) := by
  rcases h.2 with ⟨e, _⟩ | ⟨g', c, cur, e, hb, hblk, h1, h2, h3, h4⟩
  · cases e
  cases e
  rw [Nat.mul_one] at h4
  have hl : (lists l).length = l.length := lists_len l
  have hc := Lib.compact_length_le (lists l)
  have hH := holds_of_block (ss := lists l) hblk (by rw [hl, h4, enc_lists])
  have hS := Tryz.slices_Compact_string g 0 cap (lists l) w hH (by rw [hl]; omega) (by rw [hl]; exact h1)
  rw [hl] at hS
  refine hS.mono ?_
  rintro e w' ⟨rfl, q, rfl⟩
  refine ⟨_, rfl, ?_, grown_put _⟩
  unfold OwnStr
  rw [enc_ofL, ofL_len]
  refine ⟨by simp, .inr ⟨g, cap, _, rfl, hb, heap_put _ hblk, by omega, h2, by simp [putCells, h3], ?_⟩⟩
  have ht := take_putCells cur (Lib.compact (lists l) ++ List.replicate (l.length - (Lib.compact (lists l)).length) []) (by rw [List.length_append, List.length_replicate, h3]; omega)
  have hx : (Lib.compact (lists l) ++ List.replicate (l.length - (Lib.compact (lists l)).length) ([] : List UInt8)).length = l.length := by rw [List.length_append, List.length_replicate]; omega
  rw [hx] at ht
  have h5 := congrArg (List.take (Lib.compact (lists l)).length) ht
  rw [List.take_take, Nat.min_eq_left (by omega), List.map_append, List.take_left' (by simp)] at h5
  rw [Nat.mul_one]
  exact h5
set_option maxRecDepth 100000 in
set_option maxHeartbeats 2000000 in
theorem places_impl (A : Option Addr) (ca : Nat) (l : List Lg) (D : Option Addr) (cd m : Nat) (x : Int) (w : World) (hA : InK 6 lgC w A l) (hn : l.length ≤ 1048576) :
    Calls Tryz.prog 120 #[.agg #[.slice A l.length ca, .slice D m cd, .int .i64 x]] w fun e w' => (∃ v, e = .returned v ∧ OwnStr w' w.heap.size v (placesB l)) ∧ RowKit.Below w.heap.size w w' := by
  obtain ⟨i0, hi0, hz0, hz1, hz2⟩ := info_parts str_info
  have hB := Box3.new (T := 36) (v0 := .slice A l.length ca) (v1 := .slice D m cd) (v2 := .int .i64 x) w
  have hb0 := (Below.refl w.heap.size w).alloc (Nat.le_refl _) (.cells #[.slice A l.length ca, .slice D m cd, .int .i64 x] 36)
  have HA := Lib.hid hA; clear hA
  go_enter Tryz.func120, Tryz.ntmps120
  go_wp2_with (at_make; refine wpList_make_own _ rfl _ _ 131 rfl w.heap.size 9 i0 _ 1 Tryz.underlying131 hi0 hz0 hz1 _ _ _ (2 * l.length) rfl rfl (by omega) ?c1 ?c2 ?c3 ?_)
  case c1 => rw [hz2]; omega
  case c2 => unfold maxLen; omega
  case c3 => exact hb0.size
  intro w1 hown1 hg1
  have hb1 : RowKit.Below w.heap.size w w1 := hb0.grown hg1 hb0.size (by simp)
  have hbW := (RowKit.Below.refl _ _).grown hg1 (Nat.le_refl _) (by simp)
  have hB1 := hB.below hbW
  obtain ⟨c0, c1, c2⟩ := hB1.cells
  clear hB hb0 hbW hg1 hB1
  go_wp2
  clear c0 c1 c2
  go_loopw [3, 14] (fun v i wr => ∃ k : Nat, k ≤ l.length ∧ i = .int .i64 k ∧ OwnStr wr w.heap.size v (flatS (l.take k)) ∧ RowKit.Below w.heap.size w wr) (fun _ i _ => l.length - (intOf i).toNat)
  case atStart => exact ⟨0, Nat.zero_le _, rfl, hown1, hb1⟩
  case round =>
    obtain ⟨k, hk, rfl, hown, hbb⟩ := hrel
    by_cases hlt : (k : Int) < (l.length : Int)
    · have hkn : k < l.length := by omega
      obtain ⟨g, rfl, hg, c0, c1, c2, c3, c4, c5⟩ := (HA.out.below hbb).lg k hkn
      have HF := Lib.hid (flatS_snoc l k hkn)
      have hfl : (flatS (l.take k)).length = 2 * k := by rw [flatS_len, List.length_take, Nat.min_eq_left hk]
      obtain ⟨y, hy⟩ : ∃ y, y = l[k] := ⟨_, rfl⟩
      rw [← hy] at c0 c1 c2 c3 c4 c5 HF
      clear hy
      have hsz := hbb.size
      let L : Obj := .cells #[.string y.f, .string y.t, .int .i64 y.s, .int .i64 y.k, .int .i64 y.d, .int .i64 y.r] 121
      have hnw : ∀ j u, (strV [y.f, y.t])[j]? = some u → ((wr.alloc L).alloc (.cells #[.string y.f, .string y.t] 9)).cell? ((⟨wr.heap.size + 1, 0, none⟩ : Addr).add j) = some u := by
        have h := World.news_of_block (cs := #[.string y.f, .string y.t]) (t := 9) (fr := (0, 0)) (heap_alloc_new (wr.alloc L) (.cells #[.string y.f, .string y.t] 9))
        rw [show (wr.alloc L).heap.size = wr.heap.size + 1 by simp] at h
        exact h
      have h1c : ∀ u ∈ strV [y.f, y.t], u.oneCell' = true := by
        intro u hu
        obtain ⟨z, _, rfl⟩ := List.mem_map.1 hu; rfl
      have hc3 : (flatS (l.take k)).length + 2 ≤ maxLen := by rw [hfl]; unfold maxLen; omega
      have hc4 : ((flatS (l.take k)).length + 2) * 16 ≤ 140737488355328 := by rw [hfl]; omega
      have hc5 : w.heap.size ≤ ((wr.alloc L).alloc (.cells #[.string y.f, .string y.t] 9)).heap.size := by simp; omega
      have HW := Lib.hid hnw; clear hnw hfl
      unfold OwnStr at hown
      go_wp2_with (at_builtin; refine wpList_append_own _ rfl (.tmp 18) (.tmp 23) 131 rfl w.heap.size 9 i0 _ 1 16 Tryz.underlying131 hi0 hz0 hz1 hz2 rfl (by omega) _ _ _ rfl ((hown.alloc L).alloc _) ⟨wr.heap.size + 1, 0, none⟩ 2 2 (strV [y.f, y.t]) rfl rfl HW.out h1c hc3 hc4 hc5 ?_; intro v' w4 hown' hg' _)
      go_roundw
      case rel =>
        refine ⟨k + 1, by omega, by go_num, ?_, ((hbb.alloc hsz _).alloc (by simp; omega) _).grown hg' hc5 (fun g h => (hown.lt g h).1)⟩
        rw [HF.out]
        unfold OwnStr
        rw [strV_app, List.length_append]
        exact hown'
      case measure => simp [intOf]; omega
    · obtain rfl : k = l.length := by omega
      rw [List.take_length] at hown
      have HP := Lib.hid (show ofL (Lib.compact (lists (ofL ((lists (flatS l)).mergeSort fun x y => decide (x ≤ y))))) = placesB l by rw [lists_ofL, compact_sort]; rfl)
      by_cases h0 : flatS l = []
      · have HE := Lib.hid (show placesB l = [] by unfold placesB; rw [h0]; rfl)
        rw [h0] at hown
        obtain ⟨B, cap, rfl⟩ := own_empty hown
        have HO := Lib.hid hown; clear hown h0
        go_wp2_with fail
        refine (Tryz.slices_Sort_string_none B cap wr).mono ?_; rintro e w' ⟨rfl, rfl⟩
        go_wp2_with fail
        refine (Tryz.slices_Compact_string_empty B cap w').mono ?_; rintro e w'' ⟨rfl, rfl⟩
        go_wp2
        go_ret
        exact ⟨⟨_, rfl, by rw [HE.out]; exact HO.out⟩, hbb⟩
      · have hpos : 0 < (flatS l).length := List.length_pos_iff.2 h0
        have hlen : (flatS l).length ≤ 17592186044415 := by rw [flatS_len]; omega
        obtain ⟨g, cap, rfl, hbg, hgl⟩ := World.ownsRow.form hown hpos
        have hz : (ofL ((lists (flatS l)).mergeSort fun x y => decide (x ≤ y))).length = (flatS l).length := by rw [ofL_len, List.length_mergeSort, lists_len]
        have HS := Lib.hid (sort_strs hown hlen)
        clear h0 hown
        go_wp2_with fail
        refine HS.out.mono ?_; rintro e w2 ⟨rfl, ho2, hg2⟩
        have hb2 := hbb.grown hg2 hbb.size (fun k h => by cases h; exact hbg)
        rw [← hz] at ho2 hlen
        have HC := Lib.hid (compact_strs ho2 hlen)
        rw [hz] at HC
        clear HS ho2 hlen
        go_wp2_with fail
        refine HC.out.mono ?_; rintro e w3 ⟨v', rfl, ho3, hg3⟩
        rw [HP.out] at ho3
        have HO := Lib.hid ho3; clear ho3
        go_wp2
        go_ret
        exact ⟨⟨_, rfl, HO.out⟩, hb2.grown hg3 hb2.size (fun k h => by cases h; exact hbg)⟩
end Go.Proofs.YtadcmngooobeiabGreat

/- Contracts of serves, mostLegs, timeOf, and of slices.Index and Contains on texts. -/
namespace Go.Proofs.YtadcmngooobeiabGreat
open Go.RowKit
theorem own_getD {w : World} {b g cap : Nat} {l : List ByteArray} (h : OwnStr w b (.slice (some ⟨g, 0, none⟩) l.length cap) l) : ∀ j, j < l.length → w.cell? ⟨g, 0 + j, none⟩ = some (.string (l.getD j ByteArray.empty)) := by
  intro j hj
  rw [Nat.zero_add, World.ownsRow.cellAt (w := w) (base := b) (e := 9) (size := 1) h j (by omega)]
  simp [strV, List.getD, hj]
theorem contains_own {w : World} {b : Nat} {v : Value} {l : List ByteArray} (h : OwnStr w b v l) (hl : l.length ≤ 4000000) (s : ByteArray) :
    Calls Tryz.prog 121 #[v, .string s] w fun e w' => e = .returned (.bool (Lib.containsS l s)) ∧ w' = w := by
  by_cases h0 : l = []
  · subst h0
    obtain ⟨A, cap, rfl⟩ := own_empty h
    exact Tryz.slices_Contains_string_empty A cap s w
  · obtain ⟨g, cap, rfl, _, _⟩ := own_slice h h0
    have := Tryz.slices_Contains_string g 0 l.length cap l s w (Nat.le_refl _) (by omega) (own_getD h)
    rwa [List.take_length] at this
theorem index_own {w : World} {b : Nat} {v : Value} {l : List ByteArray} (h : OwnStr w b v l) (hl : l.length ≤ 4000000) (s : ByteArray) :
    Calls Tryz.prog 132 #[v, .string s] w fun e w' => e = .returned (.int .i64 (idxI l s)) ∧ w' = w := by
  by_cases h0 : l = []
  · subst h0
    obtain ⟨A, cap, rfl⟩ := own_empty h
    exact Tryz.slices_Index_string_empty A cap s w
  · obtain ⟨g, cap, rfl, _, _⟩ := own_slice h h0
    have := Tryz.slices_Index_string g 0 l.length cap l s w (Nat.le_refl _) (by omega) (own_getD h)
    rwa [List.take_length] at this
def servB (l : List Lg) (zs : List Int) (x : Int) (s : ByteArray) : Bool := netB l zs x && Lib.containsS (placesB l) s
set_option maxRecDepth 100000 in
set_option maxHeartbeats 2000000 in
theorem serves_impl (s : ByteArray) (A : Option Addr) (ca : Nat) (l : List Lg) (D : Option Addr) (cd : Nat) (zs : List Int) (x : Int) (w : World) (hA : InK 6 lgC w A l) (hD : IntsIn w D zs) (hs : ∀ z ∈ l, z.f.size ≤ maxLen ∧ z.t.size ≤ maxLen) (hn : l.length ≤ 1048576) (hm : zs.length ≤ 1048576) :
    Calls Tryz.prog 133 #[.agg #[.slice A l.length ca, .slice D zs.length cd, .int .i64 x], .string s] w fun e w' => e = .returned (.bool (servB l zs x s)) ∧ Below w.heap.size w w' := by
  have hB := Box3.new (T := 36) (v0 := .slice A l.length ca) (v1 := .slice D zs.length cd) (v2 := .int .i64 x) w
  have hb0 := (Below.refl w.heap.size w).alloc (Nat.le_refl _) (.cells #[.slice A l.length ca, .slice D zs.length cd, .int .i64 x] 36)
  have H0 := Lib.hid (And.intro hB (And.intro hb0 (And.intro (hA.below hb0) (hD.below hb0)))); clear hB hb0 hA hD
  have HI := Lib.hid (fun W (h1 : InK 6 lgC W A l) (h2 : IntsIn W D zs) => is_net A ca l D cd zs x W h1 h2 hs hn hm)
  have HP := Lib.hid (fun W (h1 : InK 6 lgC W A l) => places_impl A ca l D cd zs.length x W h1 hn)
  have HL := Lib.hid (show (placesB l).length ≤ 4000000 by have := placesB_len l; omega)
  have hSB : servB l zs x s = (netB l zs x && Lib.containsS (placesB l) s) := rfl
  clear hs
  generalize servB l zs x s = R at *
  cases hnet : netB l zs x with
  | false =>
    rw [hnet] at HI hSB; clear hnet
    have HR := Lib.hid hSB; clear hSB
    go_enter Tryz.func133, Tryz.ntmps133
    go_wp2_with fail
    refine (HI.out _ H0.out.2.2.1 H0.out.2.2.2).mono ?_; rintro e w1 ⟨rfl, hb1⟩
    go_wp2
    go_ret
    exact ⟨ret_bool HR.out.symm, H0.out.2.1.trans (hb1.mono (Nat.le_of_lt H0.out.1.lt))⟩
  | true =>
    rw [hnet] at HI hSB; clear hnet
    have HR := Lib.hid hSB; clear hSB
    go_enter Tryz.func133, Tryz.ntmps133
    go_wp2_with fail
    refine (HI.out _ H0.out.2.2.1 H0.out.2.2.2).mono ?_; rintro e w1 ⟨rfl, hb1⟩
    obtain ⟨b0, b1, b2⟩ := (H0.out.1.below hb1).cells
    go_wp2_with fail
    refine (HP.out w1 (H0.out.2.2.1.below hb1)).mono ?_; rintro e w2 ⟨⟨v, rfl, hv⟩, hb2⟩
    have HC := Lib.hid (contains_own hv HL.out s)
    clear hv b0 b1 b2
    generalize Lib.containsS (placesB l) s = V at *
    go_wp2_with fail
    refine HC.out.mono ?_; rintro e w3 ⟨rfl, rfl⟩
    go_wp2
    go_ret
    exact ⟨ret_bool HR.out.symm, H0.out.2.1.trans ((hb1.trans (hb2.mono hb1.size)).mono (Nat.le_of_lt H0.out.1.lt))⟩
def timeB (pl : List ByteArray) (p : ByteArray) (ts : List Int) : Int := if idxI pl p < 0 ∨ (ts.length : Int) ≤ idxI pl p then -1 else ts.getD (idxI pl p).toNat 0
theorem idxF_bd (x : ByteArray) : ∀ (zs : List ByteArray) (i : Nat), Lib.idxFromS zs x i = -1 ∨ ((i : Int) ≤ Lib.idxFromS zs x i ∧ Lib.idxFromS zs x i < (i : Int) + zs.length)
  | [], _ => .inl rfl
  | z :: zs, i => by
    unfold Lib.idxFromS
    by_cases e : z = x
    · rw [if_pos e]; simp; omega
    · rw [if_neg e]
      rcases idxF_bd x zs (i + 1) with h | h
      · exact .inl h
      · simp only [List.length_cons]; omega
theorem idxI_ge (l : List ByteArray) (p : ByteArray) : -1 ≤ idxI l p ∧ idxI l p < max 1 (l.length : Int) := by
  have h := idxF_bd p l 0
  rw [show idxI l p = Lib.idxFromS l p 0 from rfl]
  omega
end Go.Proofs.YtadcmngooobeiabGreat

/- A slice of maps of times: what it holds. -/
namespace Go.Proofs.YtadcmngooobeiabGreat
open Go.RowKit
theorem pl_place {l : List Lg} {x : Lg} (h : x ∈ l) : x.f ∈ placesB l ∧ x.t ∈ placesB l := by
  have key : ∀ s : ByteArray, s ∈ flatS l → s ∈ placesB l := fun s hs => by
    unfold placesB ofL
    refine List.mem_map.2 ⟨s.data.toList, (pl_mem _ _).2 (List.mem_map.2 ⟨s, hs, rfl⟩), ?_⟩
    exact str_ext (by simp)
  have hf : ∀ s ∈ [x.f, x.t], s ∈ flatS l := fun s hs => List.mem_flatMap.2 ⟨x, h, hs⟩
  exact ⟨key _ (hf _ (by simp)), key _ (hf _ (by simp))⟩
theorem serv_iff {l : List Lg} {zs : List Int} {x : Int} {s : ByteArray} : servB l zs x s = true ↔ netB l zs x = true ∧ s ∈ placesB l := by
  unfold servB; rw [Bool.and_eq_true, Lib.containsS_iff]
end Go.Proofs.YtadcmngooobeiabGreat




/- Contracts of spec.l4Index, l4Ready, l4First. -/
namespace Go.Proofs.YtadcmngooobeiabGreat
open Go.RowKit
/-- texts that can be read, from the head of a block on -/
def StrsIn (w : World) (A : Option Addr) (l : List ByteArray) : Prop := ∀ j (hj : j < l.length), ∃ g, A = some ⟨g, 0, none⟩ ∧ g < w.heap.size ∧ w.cell? ⟨g, j, none⟩ = some (.string l[j])
theorem StrsIn.below {w w' : World} {A : Option Addr} {l : List ByteArray} (h : StrsIn w A l) (hb : Below w.heap.size w w') : StrsIn w' A l := by
  intro j hj
  obtain ⟨g, h1, h2, h3⟩ := h j hj
  exact ⟨g, h1, Nat.lt_of_lt_of_le h2 hb.size, by rw [← h3]; exact hb.cell h2⟩
theorem own_strs {w : World} {b : Nat} {v : Value} {l : List ByteArray} (h : OwnStr w b v l) : ∃ (A : Option Addr) (cap : Nat), v = .slice A l.length cap ∧ StrsIn w A l := by
  by_cases h0 : l = []
  · subst h0
    obtain ⟨A, cap, rfl⟩ := own_empty h
    exact ⟨A, cap, rfl, fun j hj => by simp at hj⟩
  · obtain ⟨g, cap, rfl, h1, h2⟩ := own_slice h h0
    refine ⟨_, cap, rfl, fun j hj => ⟨g, rfl, h2, ?_⟩⟩
    have := own_getD h j hj
    rw [Nat.zero_add] at this
    rw [this]; simp [List.getD, hj]
set_option maxRecDepth 100000 in
set_option maxHeartbeats 1000000 in
theorem index_spec (A : Option Addr) (ca : Nat) (l : List ByteArray) (p : ByteArray) (w : World) (hA : StrsIn w A l) (hl : l.length ≤ 4000000) :
    Calls Tryz.prog 91 #[.slice A l.length ca, .string p] w fun e w' => e = .returned (.int .i64 (idxI l p)) ∧ w' = w := by
  have HA := Lib.hid hA; clear hA
  generalize hR : idxI l p = R
  have HR := Lib.hid hR; clear hR
  go_enter Tryz.func91, Tryz.ntmps91
  go_wp2
  go_loop [5] (fun i => ∃ k : Nat, k ≤ l.length ∧ i = .int .i64 k ∧ Hid (∀ j (_ : j < l.length), j < k → l[j] ≠ p)) (fun i => l.length - (intOf i).toNat)
  case atStart => exact ⟨0, Nat.zero_le _, rfl, Lib.hid (fun j _ h => by omega)⟩
  case round =>
    obtain ⟨k, hk, rfl, hd⟩ := hrel
    by_cases hlt : (k : Int) < (l.length : Int)
    · have hkn : k < l.length := by omega
      obtain ⟨g, rfl, hg, c0⟩ := HA.out k hkn
      by_cases h1 : l[k] = p
      · have HN := Lib.hid (idx_hit hkn (fun j hj => hd.out j (by omega) hj) h1)
        have hq := str_eq h1
        clear h1
        generalize l[k] = y at *
        go_wp2
        go_ret
        exact ⟨ret_int (HN.out.symm.trans HR.out), rfl⟩
      · have hq := str_ne h1
        have HN := Lib.hid h1
        clear h1
        obtain ⟨y, hy⟩ : ∃ y, y = l[k] := ⟨_, rfl⟩
        rw [← hy] at c0 hq
        clear hy
        go_wp2
        go_round
        case rel => exact ⟨k + 1, by omega, by go_num, Lib.hid (fun j hj hjk => by
          by_cases e : j = k
          · subst e; exact HN.out
          · exact hd.out j hj (by omega))⟩
        case measure => simp [intOf]; omega
    · go_wp2
      go_ret
      exact ⟨ret_int ((idx_none (fun hm => by
        obtain ⟨j, hj, e⟩ := List.getElem_of_mem hm
        exact hd.out j hj (by omega) e)).symm.trans HR.out), rfl⟩
theorem initT_map (pl : List ByteArray) (hn : pl.Nodup) (k : Nat) (hk : k < pl.length) (a : Int) (j : Nat) (hj : j < pl.length) : ((initT pl[k] a) pl[j]).getD (-1) = if j = k then a else -1 := by
  unfold initT
  by_cases e : j = k
  · subst e; rw [if_pos rfl, if_pos rfl]; rfl
  · rw [if_neg e, if_neg (fun h => e ((List.getElem_inj hn).1 h))]; rfl
end Go.Proofs.YtadcmngooobeiabGreat

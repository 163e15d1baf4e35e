/- The plain mathematics of ways: arrivals by place, round by round. -/
import Derived.Test.YtamlbiagjipedaaBb
import Derived.Lib.SlicesS
namespace Go.Proofs.Ytamlbiagjipedaa
open Go.RowKit
/-- times by place -/
abbrev Tm := ByteArray → Option Int
def readyI (ch : Int) (fr p : ByteArray) (a : Int) : Int := if p = fr then a else a + ch
/-- the end of the next trip of a leg from a time on -/
def legEnd (zs : List Int) (x : Lg) (r : Int) : Option Int :=
  if firstD (nextP x zs r) 61 < 0 then none else some (firstD (nextP x zs r) 61 * 1440 + x.s + x.k)
def legOut (zs : List Int) (ch : Int) (fr : ByteArray) (g : Tm) (x : Lg) : Option Int := (g x.f).bind fun a => legEnd zs x (readyI ch fr x.f a)
def putT (h : Tm) (p : ByteArray) (e : Int) : Tm := fun q => if q = p then some e else h q
/-- a time that comes for a place: taken if it is earlier -/
def takeT (h : Tm) (p : ByteArray) : Option Int → Tm
  | none => h
  | some e => match h p with
    | none => putT h p e
    | some b => if e < b then putT h p e else h
def oneT (zs : List Int) (ch : Int) (fr : ByteArray) (g h : Tm) (x : Lg) : Tm := takeT h x.t (legOut zs ch fr g x)
def roundT (zs : List Int) (ch : Int) (fr : ByteArray) (l : List Lg) (g : Tm) : Tm := l.foldl (oneT zs ch fr g) g
def initT (fr : ByteArray) (a : Int) : Tm := fun q => if q = fr then some a else none
def arrT (l : List Lg) (zs : List Int) (ch : Int) (fr : ByteArray) (a : Int) : Nat → Tm
  | 0 => initT fr a
  | k + 1 => roundT zs ch fr l (arrT l zs ch fr a k)
theorem putT_same (h : Tm) (p : ByteArray) (e : Int) : putT h p e p = some e := if_pos rfl
theorem putT_other (h : Tm) (p q : ByteArray) (e : Int) (n : q ≠ p) : putT h p e q = h q := if_neg n
theorem firstD_spec {P : Nat → Bool} {n : Nat} (h : ¬ firstD P n < 0) : ∃ d : Nat, firstD P n = d ∧ d < n ∧ P d = true := by
  unfold firstD at h ⊢
  cases e : (List.range n).find? P with
  | none => rw [e] at h; simp at h
  | some d => exact ⟨d, rfl, List.mem_range.1 (List.mem_of_find?_eq_some e), List.find?_some e⟩
theorem legEnd_gt {zs : List Int} {x : Lg} {r e : Int} (hx : legOk x = true) (h : legEnd zs x r = some e) : r < e := by
  unfold legEnd at h
  split at h
  · cases h
  next hn =>
    obtain ⟨d, hd, _, hp⟩ := firstD_spec hn
    rw [hd] at h
    cases h
    have := (leg_bd hx).2.1
    unfold nextP at hp
    simp only [Bool.and_eq_true, decide_eq_true_eq] at hp
    omega
theorem legEnd_bd {zs : List Int} {x : Lg} {r e : Int} (hx : legOk x = true) (h : legEnd zs x r = some e) : 0 ≤ e ∧ e ≤ 100000 := by
  unfold legEnd at h
  split at h
  · cases h
  next hn =>
    obtain ⟨d, hd, hl, hp⟩ := firstD_spec hn
    rw [hd] at h
    cases h
    have := leg_bd hx
    omega
theorem ready_ge {ch : Int} {fr p : ByteArray} {a : Int} (hc : 0 ≤ ch) : a ≤ readyI ch fr p a := by unfold readyI; split <;> omega
theorem legOut_some {zs : List Int} {ch : Int} {fr : ByteArray} {g : Tm} {x : Lg} {e : Int} (h : legOut zs ch fr g x = some e) : ∃ a, g x.f = some a ∧ legEnd zs x (readyI ch fr x.f a) = some e := by
  unfold legOut at h
  cases ha : g x.f with
  | none => rw [ha] at h; cases h
  | some a => rw [ha] at h; exact ⟨a, rfl, h⟩
/-- what a place has is taken over or made earlier -/
theorem takeT_le (h : Tm) (p q : ByteArray) (o : Option Int) {b : Int} (hb : h q = some b) : ∃ e, takeT h p o q = some e ∧ e ≤ b := by
  unfold takeT
  cases o with
  | none => exact ⟨b, hb, Int.le_refl _⟩
  | some e =>
    by_cases n : q = p
    · subst n
      dsimp only
      rw [hb]
      dsimp only
      split
      next he => exact ⟨e, putT_same _ _ _, by omega⟩
      next he => exact ⟨b, hb, Int.le_refl _⟩
    · dsimp only
      cases hp : h p with
      | none => exact ⟨b, (putT_other _ _ _ _ n).trans hb, Int.le_refl _⟩
      | some c =>
        dsimp only
        split
        next he => exact ⟨b, (putT_other _ _ _ _ n).trans hb, Int.le_refl _⟩
        next he => exact ⟨b, hb, Int.le_refl _⟩
theorem takeT_hit (h : Tm) (p : ByteArray) (e : Int) : ∃ e', takeT h p (some e) p = some e' ∧ e' ≤ e := by
  unfold takeT
  dsimp only
  cases hp : h p with
  | none => exact ⟨e, putT_same _ _ _, Int.le_refl _⟩
  | some b =>
    dsimp only
    split
    next he => exact ⟨e, putT_same _ _ _, Int.le_refl _⟩
    next he => exact ⟨b, hp, by omega⟩
/-- a place whose time has turned has the time that came, which is earlier than what was -/
theorem takeT_new (h : Tm) (p q : ByteArray) (o : Option Int) (hne : takeT h p o q ≠ h q) : q = p ∧ ∃ e, o = some e ∧ takeT h p o q = some e ∧ ∀ b, h q = some b → e < b := by
  unfold takeT at hne ⊢
  cases o with
  | none => exact absurd rfl hne
  | some e =>
    dsimp only at hne ⊢
    by_cases n : q = p
    · subst n
      refine ⟨rfl, e, rfl, ?_⟩
      cases hp : h q with
      | none => exact ⟨putT_same _ _ _, fun b hb => by cases hb⟩
      | some c =>
        rw [hp] at hne
        dsimp only at hne ⊢
        split at hne
        next he => rw [if_pos he]; exact ⟨putT_same _ _ _, fun b hb => by cases hb; exact he⟩
        next he => exact absurd hp hne
    · exfalso
      cases hp : h p with
      | none => rw [hp] at hne; exact hne (putT_other _ _ _ _ n)
      | some c =>
        rw [hp] at hne
        dsimp only at hne
        split at hne
        · exact hne (putT_other _ _ _ _ n)
        · exact hne rfl
theorem fold_le (zs : List Int) (ch : Int) (fr : ByteArray) (g : Tm) : ∀ (l : List Lg) (h : Tm) (q : ByteArray) {b : Int}, h q = some b → ∃ e, l.foldl (oneT zs ch fr g) h q = some e ∧ e ≤ b
  | [], h, q, b, hb => ⟨b, hb, Int.le_refl _⟩
  | x :: l, h, q, b, hb => by
    obtain ⟨c, hc, hcb⟩ := takeT_le h x.t q (legOut zs ch fr g x) hb
    obtain ⟨e, he, hec⟩ := fold_le zs ch fr g l (oneT zs ch fr g h x) q hc
    exact ⟨e, he, by omega⟩
theorem fold_hit (zs : List Int) (ch : Int) (fr : ByteArray) (g : Tm) : ∀ (l : List Lg) (h : Tm) (x : Lg), x ∈ l → ∀ {e : Int}, legOut zs ch fr g x = some e → ∃ e', l.foldl (oneT zs ch fr g) h x.t = some e' ∧ e' ≤ e
  | y :: l, h, x, hx, e, he => by
    rcases List.mem_cons.1 hx with rfl | hx
    · obtain ⟨c, hc, hce⟩ := takeT_hit h x.t e
      rw [← he] at hc
      obtain ⟨e', h1, h2⟩ := fold_le zs ch fr g l (oneT zs ch fr g h x) x.t hc
      exact ⟨e', h1, by omega⟩
    · exact fold_hit zs ch fr g l (oneT zs ch fr g h y) x hx he
theorem fold_new (zs : List Int) (ch : Int) (fr : ByteArray) (g : Tm) : ∀ (l : List Lg) (h : Tm) (q : ByteArray), l.foldl (oneT zs ch fr g) h q ≠ h q → ∃ x ∈ l, x.t = q ∧ ∃ e, legOut zs ch fr g x = some e ∧ l.foldl (oneT zs ch fr g) h q = some e ∧ ∀ b, h q = some b → e < b
  | [], h, q, hne => absurd rfl hne
  | y :: l, h, q, hne => by
    by_cases hn : l.foldl (oneT zs ch fr g) (oneT zs ch fr g h y) q = oneT zs ch fr g h y q
    · have hy : oneT zs ch fr g h y q ≠ h q := fun e => hne (hn.trans e)
      obtain ⟨hq, e, h1, h2, h3⟩ := takeT_new h y.t q _ hy
      exact ⟨y, List.mem_cons_self .., hq.symm, e, h1, hn.trans h2, h3⟩
    · obtain ⟨x, hx, ht, e, h1, h2, h3⟩ := fold_new zs ch fr g l (oneT zs ch fr g h y) q hn
      refine ⟨x, List.mem_cons_of_mem _ hx, ht, e, h1, h2, fun b hb => ?_⟩
      obtain ⟨c, hc, hcb⟩ := takeT_le h y.t q (legOut zs ch fr g y) hb
      have := h3 c hc
      omega
theorem round_le {zs : List Int} {ch : Int} {fr : ByteArray} {l : List Lg} {g : Tm} {q : ByteArray} {b : Int} (hb : g q = some b) : ∃ e, roundT zs ch fr l g q = some e ∧ e ≤ b := fold_le zs ch fr g l g q hb
theorem round_new {zs : List Int} {ch : Int} {fr : ByteArray} {l : List Lg} {g : Tm} {q : ByteArray} (h : roundT zs ch fr l g q ≠ g q) : ∃ x ∈ l, x.t = q ∧ ∃ e, legOut zs ch fr g x = some e ∧ roundT zs ch fr l g q = some e ∧ ∀ b, g q = some b → e < b := fold_new zs ch fr g l g q h
theorem round_hit {zs : List Int} {ch : Int} {fr : ByteArray} {l : List Lg} {g : Tm} {x : Lg} (hx : x ∈ l) {e : Int} (he : legOut zs ch fr g x = some e) : ∃ e', roundT zs ch fr l g x.t = some e' ∧ e' ≤ e := fold_hit zs ch fr g l g x hx he
theorem nodup_len {α : Type} [DecidableEq α] : ∀ (c l : List α), c.Nodup → (∀ q ∈ c, q ∈ l) → c.length ≤ l.length
  | [], _, _, _ => Nat.zero_le _
  | a :: c, l, hn, hs => by
    have ha : a ∈ l := hs a (List.mem_cons_self ..)
    have hna := List.nodup_cons.1 hn
    have := nodup_len c (l.erase a) hna.2 (fun q hq => (List.mem_erase_of_ne (fun e : q = a => hna.1 (e ▸ hq))).2 (hs q (List.mem_cons_of_mem _ hq)))
    rw [List.length_erase_of_mem ha] at this
    have := List.length_pos_of_mem ha
    simp only [List.length_cons]
    omega
/-- what turns in a round has a chain of places behind it, one more than rounds -/
theorem arr_chain {l : List Lg} {zs : List Int} {ch : Int} {fr : ByteArray} {a : Int} {pl : List ByteArray} (hok : ∀ x ∈ l, legOk x = true) (hc : 0 ≤ ch) (hfr : fr ∈ pl) (hpl : ∀ x ∈ l, x.t ∈ pl) : ∀ (r : Nat) (p : ByteArray) (v : Int),
    arrT l zs ch fr a r p = some v → (r = 0 ∨ arrT l zs ch fr a r p ≠ arrT l zs ch fr a (r - 1) p) →
    ∃ c : List ByteArray, c.Nodup ∧ c.length = r + 1 ∧ p ∈ c ∧ ∀ q ∈ c, q ∈ pl ∧ ∃ b, arrT l zs ch fr a r q = some b ∧ b ≤ v
  | 0, p, v, hv, _ => by
    have hp : p = fr := by
      unfold arrT initT at hv
      split at hv
      · assumption
      · cases hv
    refine ⟨[p], by simp, rfl, List.mem_singleton.2 rfl, fun q hq => ?_⟩
    obtain rfl := List.mem_singleton.1 hq
    exact ⟨hp ▸ hfr, v, hv, Int.le_refl _⟩
  | r + 1, p, v, hv, hne => by
    have hne' : roundT zs ch fr l (arrT l zs ch fr a r) p ≠ arrT l zs ch fr a r p := by
      rcases hne with h | h
      · omega
      · exact h
    obtain ⟨x, hx, rfl, e, ho, he, hb⟩ := round_new hne'
    have hve : e = v := by
      have := he.symm.trans hv
      exact Option.some.inj this
    subst hve
    obtain ⟨u, hu, hle⟩ := legOut_some ho
    have hue : u < e := Int.lt_of_le_of_lt (ready_ge hc) (legEnd_gt (hok x hx) hle)
    have hfrom : r = 0 ∨ arrT l zs ch fr a r x.f ≠ arrT l zs ch fr a (r - 1) x.f := by
      by_cases h0 : r = 0
      · exact .inl h0
      · refine .inr fun heq => ?_
        obtain ⟨r', rfl⟩ : ∃ r', r = r' + 1 := ⟨r - 1, by omega⟩
        rw [Nat.add_sub_cancel] at heq
        have ho' : legOut zs ch fr (arrT l zs ch fr a r') x = some e := by
          rw [← ho]; unfold legOut; rw [heq]
        obtain ⟨e', h1, h2⟩ := round_hit hx ho'
        have := hb e' h1
        omega
    obtain ⟨c, hn, hl, hm, hall⟩ := arr_chain hok hc hfr hpl r x.f u hu hfrom
    have hnot : x.t ∉ c := fun hin => by
      obtain ⟨_, b, hb1, hb2⟩ := hall _ hin
      have := hb b hb1
      omega
    refine ⟨x.t :: c, List.nodup_cons.2 ⟨hnot, hn⟩, by simp [hl], List.mem_cons_self .., fun q hq => ?_⟩
    rcases List.mem_cons.1 hq with rfl | hq
    · exact ⟨hpl x hx, e, hv, Int.le_refl _⟩
    · obtain ⟨h1, b, hb1, hb2⟩ := hall q hq
      obtain ⟨b', h3, h4⟩ := round_le (zs := zs) (ch := ch) (fr := fr) (l := l) hb1
      exact ⟨h1, b', h3, by omega⟩
/-- behind as many rounds as there are places nothing turns -/
theorem arr_fix {l : List Lg} {zs : List Int} {ch : Int} {fr : ByteArray} {a : Int} {pl : List ByteArray} (hok : ∀ x ∈ l, legOk x = true) (hc : 0 ≤ ch) (hfr : fr ∈ pl) (hpl : ∀ x ∈ l, x.t ∈ pl) {k : Nat} (hk : pl.length ≤ k + 1) : arrT l zs ch fr a (k + 1) = arrT l zs ch fr a k := by
  funext p
  by_cases h : arrT l zs ch fr a (k + 1) p = arrT l zs ch fr a k p
  · exact h
  · exfalso
    cases hv : arrT l zs ch fr a (k + 1) p with
    | none =>
      cases hb : arrT l zs ch fr a k p with
      | none => exact h (hv.trans hb.symm)
      | some b =>
        obtain ⟨e, he, _⟩ := round_le (zs := zs) (ch := ch) (fr := fr) (l := l) hb
        exact absurd (hv.symm.trans he) (by simp)
    | some v =>
      obtain ⟨c, h1, h2, _, h4⟩ := arr_chain hok hc hfr hpl (k + 1) p v hv (.inr (by simpa using h))
      have := nodup_len c pl h1 (fun q hq => (h4 q hq).1)
      omega
theorem arr_stay {l : List Lg} {zs : List Int} {ch : Int} {fr : ByteArray} {a : Int} {k : Nat} (h : arrT l zs ch fr a (k + 1) = arrT l zs ch fr a k) : ∀ m, arrT l zs ch fr a (k + m) = arrT l zs ch fr a k
  | 0 => rfl
  | m + 1 => by
    have := arr_stay h m
    show roundT zs ch fr l (arrT l zs ch fr a (k + m)) = _
    rw [this]
    exact h
theorem arr_same {l : List Lg} {zs : List Int} {ch : Int} {fr : ByteArray} {a : Int} {k m : Nat} (h : arrT l zs ch fr a (k + 1) = arrT l zs ch fr a k) (hm : k ≤ m) : arrT l zs ch fr a m = arrT l zs ch fr a k := by
  have := arr_stay h (m - k)
  rwa [show k + (m - k) = m by omega] at this
/-- the times are of the clock -/
theorem fold_bd (zs : List Int) (ch : Int) (fr : ByteArray) (g : Tm) : ∀ (l : List Lg) (h : Tm), (∀ x ∈ l, legOk x = true) → (∀ q b, h q = some b → 0 ≤ b ∧ b ≤ 100000) → ∀ q b, l.foldl (oneT zs ch fr g) h q = some b → 0 ≤ b ∧ b ≤ 100000
  | [], h, _, hb, q, b, e => hb q b e
  | x :: l, h, hok, hb, q, b, e => by
    refine fold_bd zs ch fr g l (oneT zs ch fr g h x) (fun y hy => hok y (List.mem_cons_of_mem _ hy)) (fun p c hc => ?_) q b e
    by_cases hn : takeT h x.t (legOut zs ch fr g x) p = h p
    · exact hb p c (hn.symm.trans hc)
    · obtain ⟨_, e', h1, h2, _⟩ := takeT_new _ _ _ _ hn
      obtain ⟨u, _, hu⟩ := legOut_some h1
      have hce : e' = c := Option.some.inj (h2.symm.trans hc)
      subst hce
      exact legEnd_bd (hok x (List.mem_cons_self ..)) hu
theorem arr_bd {l : List Lg} {zs : List Int} {ch : Int} {fr : ByteArray} {a : Int} (hok : ∀ x ∈ l, legOk x = true) (ha : 0 ≤ a ∧ a ≤ 100000) : ∀ (k : Nat) (q : ByteArray) (b : Int), arrT l zs ch fr a k q = some b → 0 ≤ b ∧ b ≤ 100000
  | 0, q, b, h => by
    unfold arrT initT at h
    split at h
    · cases h; exact ha
    · cases h
  | k + 1, q, b, h => fold_bd zs ch fr _ l _ hok (arr_bd hok ha k) q b h
/-- only places have times -/
theorem fold_dom (zs : List Int) (ch : Int) (fr : ByteArray) (g : Tm) (pl : List ByteArray) : ∀ (l : List Lg) (h : Tm), (∀ x ∈ l, x.t ∈ pl) → (∀ q b, h q = some b → q ∈ pl) → ∀ q b, l.foldl (oneT zs ch fr g) h q = some b → q ∈ pl
  | [], h, _, hb, q, b, e => hb q b e
  | x :: l, h, hok, hb, q, b, e => by
    refine fold_dom zs ch fr g pl l (oneT zs ch fr g h x) (fun y hy => hok y (List.mem_cons_of_mem _ hy)) (fun p c hc => ?_) q b e
    by_cases hn : takeT h x.t (legOut zs ch fr g x) p = h p
    · exact hb p c (hn.symm.trans hc)
    · obtain ⟨hp, _⟩ := takeT_new _ _ _ _ hn
      exact hp ▸ hok x (List.mem_cons_self ..)
theorem arr_dom {l : List Lg} {zs : List Int} {ch : Int} {fr : ByteArray} {a : Int} {pl : List ByteArray} (hfr : fr ∈ pl) (hpl : ∀ x ∈ l, x.t ∈ pl) : ∀ (k : Nat) (q : ByteArray) (b : Int), arrT l zs ch fr a k q = some b → q ∈ pl
  | 0, q, b, h => by
    unfold arrT initT at h
    split at h
    next e => exact e ▸ hfr
    · cases h
  | k + 1, q, b, h => fold_dom zs ch fr _ pl l _ hpl (arr_dom hfr hpl k) q b h
/-- the times of the places in order, -1 where there is none -/
def listT (pl : List ByteArray) (g : Tm) : List Int := pl.map fun p => (g p).getD (-1)
theorem listT_len (pl : List ByteArray) (g : Tm) : (listT pl g).length = pl.length := by simp [listT]
theorem listT_at (pl : List ByteArray) (g : Tm) (j : Nat) (h : j < pl.length) : (listT pl g).getD j 0 = (g pl[j]).getD (-1) := by simp [listT, List.getD, h]
theorem listT_get (pl : List ByteArray) (g : Tm) (j : Nat) (h : j < (listT pl g).length) : (listT pl g)[j] = (g (pl[j]'(by rwa [listT_len] at h))).getD (-1) := by simp [listT]
theorem listT_put {pl : List ByteArray} (hn : pl.Nodup) (g : Tm) (j : Nat) (h : j < pl.length) (e : Int) : (listT pl g).set j e = listT pl (putT g pl[j] e) := by
  refine List.ext_getElem (by simp [listT_len]) fun i h1 h2 => ?_
  rw [List.getElem_set]
  have hi : i < pl.length := by rwa [listT_len] at h2
  rw [listT_get, listT_get]
  by_cases e1 : j = i
  · subst e1; rw [if_pos rfl, putT_same]; rfl
  · rw [if_neg e1, putT_other]
    intro e2
    exact e1 ((List.getElem_inj hn).1 e2).symm
/-- the index of a text, -1 if it is not there -/
abbrev idxI (l : List ByteArray) (p : ByteArray) : Int := Lib.idxOfS l p
theorem idx_hit {l : List ByteArray} {p : ByteArray} {k : Nat} (hk : k < l.length) (h : ∀ j (hj : j < k), l[j]'(by omega) ≠ p) (hp : l[k] = p) : idxI l p = k := by
  have := Lib.idxOfS_hit l l.length k p hk (Nat.le_refl _) (by simp [List.getD, hk, hp]) (fun j hj => by
    have hjl : j < l.length := by omega
    simpa [List.getD, hjl] using h j hj)
  rwa [List.take_length] at this
theorem idx_none {l : List ByteArray} {p : ByteArray} (h : p ∉ l) : idxI l p = -1 := by
  have := Lib.idxOfS_miss l l.length p (fun j hj => by
    simp only [List.getD, List.getElem?_eq_getElem hj, Option.getD_some]
    exact fun e => h (e ▸ List.getElem_mem hj))
  rwa [List.take_length] at this
theorem idx_mem {l : List ByteArray} (hn : l.Nodup) {p : ByteArray} (h : p ∈ l) : ∃ k : Nat, idxI l p = k ∧ ∃ hk : k < l.length, l[k] = p := by
  obtain ⟨k, hk, e⟩ := List.getElem_of_mem h
  exact ⟨k, idx_hit hk (fun j hj e' => by have := (List.getElem_inj hn).1 (e'.trans e.symm); omega) e, hk, e⟩
theorem idx_at {l : List ByteArray} (hn : l.Nodup) {k : Nat} (hk : k < l.length) : idxI l l[k] = k :=
  idx_hit hk (fun j hj e => by have := (List.getElem_inj hn).1 e; omega) rfl
end Go.Proofs.Ytamlbiagjipedaa

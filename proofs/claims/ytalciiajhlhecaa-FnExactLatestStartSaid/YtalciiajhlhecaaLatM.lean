/- The plain mathematics of latest starts: rounds in place. -/
import Derived.Test.YtalciiajhlhecaaWayM
namespace Go.Proofs.Ytalciiajhlhecaa
open Go.RowKit
/-- the start of the last trip of a leg that ends by a time -/
def legStart (zs : List Int) (x : Lg) (b : Int) : Option Int :=
  if lastD (lastP x zs b) 61 < 0 then none else some (lastD (lastP x zs b) 61 * 1440 + x.s)
def dueI (ch : Int) (to p : ByteArray) (b : Int) : Int := if p = to then b else b - ch
def legIn (zs : List Int) (ch : Int) (to : ByteArray) (h : Tm) (x : Lg) : Option Int := (h x.t).bind fun b => legStart zs x (dueI ch to x.t b)
def takeL (h : Tm) (p : ByteArray) : Option Int → Tm
  | none => h
  | some e => match h p with
    | none => putT h p e
    | some b => if b < e then putT h p e else h
def oneL (zs : List Int) (ch : Int) (to : ByteArray) (h : Tm) (x : Lg) : Tm := takeL h x.f (legIn zs ch to h x)
def roundL (zs : List Int) (ch : Int) (to : ByteArray) (l : List Lg) (h : Tm) : Tm := l.foldl (oneL zs ch to) h
def latT (l : List Lg) (zs : List Int) (ch : Int) (to : ByteArray) (b : Int) : Nat → Tm
  | 0 => initT to b
  | k + 1 => roundL zs ch to l (latT l zs ch to b k)
theorem lastD_spec {P : Nat → Bool} : ∀ {n : Nat}, ¬ lastD P n < 0 → ∃ d : Nat, lastD P n = d ∧ d < n ∧ P d = true
  | 0, h => by simp [lastD] at h
  | n + 1, h => by
    unfold lastD at h ⊢
    by_cases e : P n = true
    · rw [if_pos e] at h ⊢; exact ⟨n, rfl, by omega, e⟩
    · rw [if_neg e] at h ⊢
      obtain ⟨d, h1, h2, h3⟩ := lastD_spec h
      exact ⟨d, h1, by omega, h3⟩
theorem legStart_lt {zs : List Int} {x : Lg} {b s : Int} (hx : legOk x = true) (h : legStart zs x b = some s) : s < b := by
  unfold legStart at h
  split at h
  · cases h
  next hn =>
    obtain ⟨d, hd, _, hp⟩ := lastD_spec hn
    rw [hd] at h
    cases h
    have := (leg_bd hx).2.1
    unfold lastP at hp
    simp only [Bool.and_eq_true, decide_eq_true_eq] at hp
    omega
theorem legStart_bd {zs : List Int} {x : Lg} {b s : Int} (hx : legOk x = true) (h : legStart zs x b = some s) : 0 ≤ s ∧ s ≤ 100000 := by
  unfold legStart at h
  split at h
  · cases h
  next hn =>
    obtain ⟨d, hd, hl, hp⟩ := lastD_spec hn
    rw [hd] at h
    cases h
    have := leg_bd hx
    omega
theorem due_le {ch : Int} {to p : ByteArray} {b : Int} (hc : 0 ≤ ch) : dueI ch to p b ≤ b := by unfold dueI; split <;> omega
theorem legIn_some {zs : List Int} {ch : Int} {to : ByteArray} {g : Tm} {x : Lg} {e : Int} (h : legIn zs ch to g x = some e) : ∃ a, g x.t = some a ∧ legStart zs x (dueI ch to x.t a) = some e := by
  unfold legIn at h
  cases ha : g x.t with
  | none => rw [ha] at h; cases h
  | some a => rw [ha] at h; exact ⟨a, rfl, h⟩
theorem takeL_le (h : Tm) (p q : ByteArray) (o : Option Int) {b : Int} (hb : h q = some b) : ∃ e, takeL h p o q = some e ∧ b ≤ e := by
  unfold takeL
  cases o with
  | none => exact ⟨b, hb, Int.le_refl _⟩
  | some e =>
    by_cases n : q = p
    · subst n
      dsimp only
      rw [hb]
      dsimp only
      split
      next he => exact ⟨e, putT_same _ _ _, by omega⟩
      next he => exact ⟨b, hb, Int.le_refl _⟩
    · dsimp only
      cases hp : h p with
      | none => exact ⟨b, (putT_other _ _ _ _ n).trans hb, Int.le_refl _⟩
      | some c =>
        dsimp only
        split
        next he => exact ⟨b, (putT_other _ _ _ _ n).trans hb, Int.le_refl _⟩
        next he => exact ⟨b, hb, Int.le_refl _⟩
theorem takeL_hit (h : Tm) (p : ByteArray) (e : Int) : ∃ e', takeL h p (some e) p = some e' ∧ e ≤ e' := by
  unfold takeL
  dsimp only
  cases hp : h p with
  | none => exact ⟨e, putT_same _ _ _, Int.le_refl _⟩
  | some b =>
    dsimp only
    split
    next he => exact ⟨e, putT_same _ _ _, Int.le_refl _⟩
    next he => exact ⟨b, hp, by omega⟩
/-- either nothing turns, or one place has the time that came, later than what was -/
theorem takeL_or (h : Tm) (p : ByteArray) (o : Option Int) : takeL h p o = h ∨ ∃ e, o = some e ∧ takeL h p o = putT h p e ∧ ∀ b, h p = some b → b < e := by
  unfold takeL
  cases o with
  | none => exact .inl rfl
  | some e =>
    dsimp only
    cases hp : h p with
    | none => exact .inr ⟨e, rfl, rfl, fun b hb => by cases hb⟩
    | some c =>
      dsimp only
      split
      next he => exact .inr ⟨e, rfl, rfl, fun b hb => by cases hb; exact he⟩
      next he => exact .inl rfl
/-- a later table: each time is kept or made later -/
def UpT (g h : Tm) : Prop := ∀ q b, g q = some b → ∃ e, h q = some e ∧ b ≤ e
theorem UpT.refl (g : Tm) : UpT g g := fun _ b hb => ⟨b, hb, Int.le_refl _⟩
theorem UpT.trans {f g h : Tm} (h1 : UpT f g) (h2 : UpT g h) : UpT f h := fun q b hb => by
  obtain ⟨c, hc, h3⟩ := h1 q b hb
  obtain ⟨d, hd, h4⟩ := h2 q c hc
  exact ⟨d, hd, by omega⟩
theorem UpT.mid {f g h : Tm} (h1 : UpT f g) (h2 : UpT g h) {q : ByteArray} (e : h q = f q) : g q = f q := by
  cases hf : f q with
  | none =>
    cases hg : g q with
    | none => rfl
    | some b =>
      obtain ⟨c, hc, _⟩ := h2 q b hg
      rw [hc, hf] at e
      cases e
  | some b =>
    obtain ⟨c, hc, h3⟩ := h1 q b hf
    obtain ⟨d, hd, h4⟩ := h2 q c hc
    have : d = b := by rw [hd, hf] at e; exact Option.some.inj e
    rw [hc]
    congr 1
    omega
theorem up_one (zs : List Int) (ch : Int) (to : ByteArray) (h : Tm) (x : Lg) : UpT h (oneL zs ch to h x) := fun q _ hb => takeL_le h x.f q _ hb
theorem up_fold (zs : List Int) (ch : Int) (to : ByteArray) : ∀ (l : List Lg) (h : Tm), UpT h (l.foldl (oneL zs ch to) h)
  | [], h => UpT.refl h
  | x :: l, h => (up_one zs ch to h x).trans (up_fold zs ch to l _)
theorem legIn_same {zs : List Int} {ch : Int} {to : ByteArray} {g h : Tm} {x : Lg} (e : g x.t = h x.t) : legIn zs ch to g x = legIn zs ch to h x := by unfold legIn; rw [e]
/-- what a round that leaves a leg's end as it was has made of its start -/
theorem foldL_hit (zs : List Int) (ch : Int) (to : ByteArray) : ∀ (l : List Lg) (h : Tm) (x : Lg), x ∈ l → l.foldl (oneL zs ch to) h x.t = h x.t → ∀ {e : Int}, legIn zs ch to h x = some e → ∃ e', l.foldl (oneL zs ch to) h x.f = some e' ∧ e ≤ e'
  | y :: l, h, x, hx, heq, e, he => by
    have hm : oneL zs ch to h y x.t = h x.t := (up_one zs ch to h y).mid (up_fold zs ch to l _) heq
    rcases List.mem_cons.1 hx with rfl | hx
    · obtain ⟨c, hc, hce⟩ := takeL_hit h x.f e
      rw [← he] at hc
      obtain ⟨e', h1, h2⟩ := up_fold zs ch to l (oneL zs ch to h x) x.f c hc
      exact ⟨e', h1, by omega⟩
    · exact foldL_hit zs ch to l (oneL zs ch to h y) x hx (heq.trans hm.symm) (by rw [← he]; exact legIn_same hm)
/-- a chain of places behind a time -/
def ChainT (pl : List ByteArray) (h : Tm) (p : ByteArray) (v : Int) (n : Nat) : Prop :=
  ∃ c : List ByteArray, c.Nodup ∧ n ≤ c.length ∧ p ∈ c ∧ ∀ q ∈ c, q ∈ pl ∧ ∃ b, h q = some b ∧ v ≤ b
theorem ChainT.up {pl : List ByteArray} {g h : Tm} {p : ByteArray} {v : Int} {n : Nat} (hc : ChainT pl g p v n) (hu : UpT g h) : ChainT pl h p v n := by
  obtain ⟨c, h1, h2, h3, h4⟩ := hc
  refine ⟨c, h1, h2, h3, fun q hq => ?_⟩
  obtain ⟨h5, b, h6, h7⟩ := h4 q hq
  obtain ⟨e, h8, h9⟩ := hu q b h6
  exact ⟨h5, e, h8, by omega⟩
theorem ChainT.less {pl : List ByteArray} {g : Tm} {p : ByteArray} {v : Int} {n m : Nat} (hc : ChainT pl g p v n) (hm : m ≤ n) : ChainT pl g p v m := by
  obtain ⟨c, h1, h2, h3, h4⟩ := hc
  exact ⟨c, h1, by omega, h3, h4⟩
theorem chain_fold {zs : List Int} {ch : Int} {to : ByteArray} {pl : List ByteArray} (hc : 0 ≤ ch) (G0 G : Tm) (r : Nat) (L : List Lg) (hup : UpT G0 G)
    (hhit : ∀ x ∈ L, G x.t = G0 x.t → ∀ e, legIn zs ch to G x = some e → ∃ e', G x.f = some e' ∧ e ≤ e') :
    ∀ (l : List Lg) (h : Tm), (∀ x ∈ l, x ∈ L ∧ legOk x = true ∧ x.f ∈ pl) → UpT G h →
    (∀ p v, h p = some v → h p ≠ G p → ChainT pl h p v (r + 2)) → (∀ p v, h p = some v → h p ≠ G0 p → ChainT pl h p v (r + 1)) →
    ∀ p v, l.foldl (oneL zs ch to) h p = some v → l.foldl (oneL zs ch to) h p ≠ G p → ChainT pl (l.foldl (oneL zs ch to) h) p v (r + 2)
  | [], h, _, _, hA, _, p, v, hv, hne => hA p v hv hne
  | x :: l, h, hl, hM, hA, hB, p, v, hv, hne => by
    obtain ⟨hxL, hxo, hxp⟩ := hl x (List.mem_cons_self ..)
    have hup1 := up_one zs ch to h x
    refine chain_fold hc G0 G r L hup hhit l (oneL zs ch to h x) (fun y hy => hl y (List.mem_cons_of_mem _ hy)) (hM.trans hup1) ?_ ?_ p v hv hne
    all_goals
      rcases takeL_or h x.f (legIn zs ch to h x) with he | ⟨e, ho, he, hlt⟩
      · have he' : oneL zs ch to h x = h := he
        rw [he']
        first | exact hA | exact hB
      have he' : oneL zs ch to h x = putT h x.f e := he
      have hnew : ChainT pl (oneL zs ch to h x) x.f e (r + 2) := by
        obtain ⟨w, hw, hs⟩ := legIn_some ho
        have hew : e < w := Int.lt_of_lt_of_le (legStart_lt hxo hs) (due_le hc)
        have hd : h x.t ≠ G0 x.t := fun heq => by
          have hG : G x.t = G0 x.t := hup.mid hM heq
          obtain ⟨e', h1, h2⟩ := hhit x hxL hG e (by rw [← ho]; exact legIn_same (hG.trans heq.symm))
          obtain ⟨e2, h3, h4⟩ := hM _ _ h1
          have := hlt _ h3
          omega
        obtain ⟨c, hn, hlen, _, hall⟩ := hB x.t w hw hd
        have hnot : x.f ∉ c := fun hin => by
          obtain ⟨_, b, hb1, hb2⟩ := hall _ hin
          have := hlt b hb1
          omega
        rw [he']
        refine ⟨x.f :: c, List.nodup_cons.2 ⟨hnot, hn⟩, by simp; omega, List.mem_cons_self .., fun q hq => ?_⟩
        rcases List.mem_cons.1 hq with rfl | hq
        · exact ⟨hxp, e, putT_same _ _ _, Int.le_refl _⟩
        · obtain ⟨h1, b, h2, h3⟩ := hall q hq
          exact ⟨h1, b, (putT_other _ _ _ _ (fun e2 : q = x.f => hnot (e2 ▸ hq))).trans h2, by omega⟩
      intro q u hu hqn
      by_cases hq : q = x.f
      · subst hq
        have : u = e := by rw [he', putT_same] at hu; exact (Option.some.inj hu).symm
        subst this
        exact hnew.less (by omega)
      · have hqs : oneL zs ch to h x q = h q := by rw [he']; exact putT_other _ _ _ _ hq
        rw [hqs] at hu hqn
        first
          | exact (hA q u hu hqn).up hup1
          | exact (hB q u hu hqn).up hup1
theorem lat_up (l : List Lg) (zs : List Int) (ch : Int) (to : ByteArray) (b : Int) (k : Nat) : UpT (latT l zs ch to b k) (latT l zs ch to b (k + 1)) := up_fold zs ch to l _
theorem lat_chain {l : List Lg} {zs : List Int} {ch : Int} {to : ByteArray} {b : Int} {pl : List ByteArray} (hok : ∀ x ∈ l, legOk x = true) (hc : 0 ≤ ch) (hto : to ∈ pl) (hpl : ∀ x ∈ l, x.f ∈ pl) : ∀ (r : Nat) (p : ByteArray) (v : Int),
    latT l zs ch to b (r + 1) p = some v → latT l zs ch to b (r + 1) p ≠ latT l zs ch to b r p → ChainT pl (latT l zs ch to b (r + 1)) p v (r + 2)
  | 0, p, v, hv, hne => by
    have h0 : ∀ p v, initT to b p = some v → ChainT pl (initT to b) p v 1 := fun p v h => by
      have hp : p = to := by
        unfold initT at h
        split at h
        · assumption
        · cases h
      refine ⟨[p], by simp, Nat.le_refl _, List.mem_singleton.2 rfl, fun q hq => ?_⟩
      obtain rfl := List.mem_singleton.1 hq
      exact ⟨hp ▸ hto, v, h, Int.le_refl _⟩
    refine chain_fold hc (fun _ => none) (initT to b) 0 l (fun q b h => by cases h) (fun x _ h e he => ?_) l (initT to b) (fun x hx => ⟨hx, hok x hx, hpl x hx⟩) (UpT.refl _)
      (fun p v _ hn => absurd rfl hn) (fun p v h _ => h0 p v h) p v hv hne
    obtain ⟨a, ha, _⟩ := legIn_some he
    rw [h] at ha
    cases ha
  | r + 1, p, v, hv, hne => by
    refine chain_fold hc (latT l zs ch to b r) (latT l zs ch to b (r + 1)) (r + 1) l (lat_up l zs ch to b r) (fun x hx h e he => ?_) l _ (fun x hx => ⟨hx, hok x hx, hpl x hx⟩) (UpT.refl _)
      (fun p v _ hn => absurd rfl hn) (fun p v h hn => lat_chain hok hc hto hpl r p v h hn) p v hv hne
    exact foldL_hit zs ch to l (latT l zs ch to b r) x hx h (by rw [← he]; exact legIn_same h.symm)
theorem lat_fix {l : List Lg} {zs : List Int} {ch : Int} {to : ByteArray} {b : Int} {pl : List ByteArray} (hok : ∀ x ∈ l, legOk x = true) (hc : 0 ≤ ch) (hto : to ∈ pl) (hpl : ∀ x ∈ l, x.f ∈ pl) {k : Nat} (hk : pl.length ≤ k + 1) : latT l zs ch to b (k + 1) = latT l zs ch to b k := by
  funext p
  by_cases h : latT l zs ch to b (k + 1) p = latT l zs ch to b k p
  · exact h
  · exfalso
    cases hv : latT l zs ch to b (k + 1) p with
    | none =>
      cases hb : latT l zs ch to b k p with
      | none => exact h (hv.trans hb.symm)
      | some u =>
        obtain ⟨e, he, _⟩ := lat_up l zs ch to b k p u hb
        exact absurd (hv.symm.trans he) (by simp)
    | some v =>
      obtain ⟨c, h1, h2, _, h4⟩ := lat_chain hok hc hto hpl k p v hv h
      have := nodup_len c pl h1 (fun q hq => (h4 q hq).1)
      omega
theorem lat_stay {l : List Lg} {zs : List Int} {ch : Int} {to : ByteArray} {b : Int} {k : Nat} (h : latT l zs ch to b (k + 1) = latT l zs ch to b k) : ∀ m, latT l zs ch to b (k + m) = latT l zs ch to b k
  | 0 => rfl
  | m + 1 => by
    have := lat_stay h m
    show roundL zs ch to l (latT l zs ch to b (k + m)) = _
    rw [this]
    exact h
theorem lat_same {l : List Lg} {zs : List Int} {ch : Int} {to : ByteArray} {b : Int} {k m : Nat} (h : latT l zs ch to b (k + 1) = latT l zs ch to b k) (hm : k ≤ m) : latT l zs ch to b m = latT l zs ch to b k := by
  have := lat_stay h (m - k)
  rwa [show k + (m - k) = m by omega] at this
end Go.Proofs.Ytalciiajhlhecaa

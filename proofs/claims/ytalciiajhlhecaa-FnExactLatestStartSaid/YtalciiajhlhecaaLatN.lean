/- More of latest starts: bounds, one leg's step, what LatestStarts answers. -/
import Derived.Test.YtalciiajhlhecaaLatM
import Derived.Test.YtalciiajhlhecaaOneLeg
import Derived.Test.YtalciiajhlhecaaServ
namespace Go.Proofs.Ytalciiajhlhecaa
open Go.RowKit
/-- the day of the last trip of a leg that is in time for its end -/
def befD (zs : List Int) (ch : Int) (to : ByteArray) (g : Tm) (x : Lg) : Int := match g x.t with
  | none => -1
  | some a => lastD (lastP x zs (dueI ch to x.t a)) 61
theorem befD_none {zs : List Int} {ch : Int} {to : ByteArray} {g : Tm} {x : Lg} (h : g x.t = none) : befD zs ch to g x = -1 := by unfold befD; rw [h]
theorem befD_some {zs : List Int} {ch : Int} {to : ByteArray} {g : Tm} {x : Lg} {a : Int} (h : g x.t = some a) : befD zs ch to g x = lastD (lastP x zs (dueI ch to x.t a)) 61 := by unfold befD; rw [h]
theorem legIn_of {zs : List Int} {ch : Int} {to : ByteArray} {g : Tm} {x : Lg} : legIn zs ch to g x = if befD zs ch to g x < 0 then none else some (befD zs ch to g x * 1440 + x.s) := by
  unfold legIn befD
  cases g x.t with
  | none => rfl
  | some a => rfl
theorem lastD_two (P : Nat → Bool) (n : Nat) : lastD P n = -1 ∨ (0 ≤ lastD P n ∧ lastD P n < n) := by
  by_cases h : lastD P n < 0
  · refine .inl ?_
    induction n with
    | zero => rfl
    | succ n ih =>
      unfold lastD at h ⊢
      by_cases e : P n = true
      · rw [if_pos e] at h; omega
      · rw [if_neg e] at h ⊢; exact ih h
  · obtain ⟨d, h1, h2, _⟩ := lastD_spec h
    exact .inr (by omega)
theorem befD_bd {zs : List Int} {ch : Int} {to : ByteArray} {g : Tm} {x : Lg} : befD zs ch to g x = -1 ∨ (0 ≤ befD zs ch to g x ∧ befD zs ch to g x ≤ 60) := by
  unfold befD
  cases g x.t with
  | none => exact .inl rfl
  | some a =>
    dsimp only
    rcases lastD_two (lastP x zs (dueI ch to x.t a)) 61 with h | h
    · exact .inl h
    · exact .inr (by omega)
theorem oneL_none {zs : List Int} {ch : Int} {to : ByteArray} {h : Tm} {x : Lg} (e : legIn zs ch to h x = none) : oneL zs ch to h x = h := by unfold oneL; rw [e]; rfl
theorem oneL_put {zs : List Int} {ch : Int} {to : ByteArray} {h : Tm} {x : Lg} {e : Int} (he : legIn zs ch to h x = some e) (hb : ∀ b, h x.f = some b → b < e) : oneL zs ch to h x = putT h x.f e := by
  unfold oneL takeL
  rw [he]
  dsimp only
  cases hx : h x.f with
  | none => rfl
  | some b => dsimp only; rw [if_pos (hb b hx)]
theorem oneL_keep {zs : List Int} {ch : Int} {to : ByteArray} {h : Tm} {x : Lg} {e b : Int} (he : legIn zs ch to h x = some e) (hx : h x.f = some b) (hb : ¬ b < e) : oneL zs ch to h x = h := by
  unfold oneL takeL
  rw [he]
  dsimp only
  rw [hx]
  dsimp only
  rw [if_neg hb]
/-- times by place, all from 0 to b -/
def InL (b : Int) (h : Tm) : Prop := ∀ q v, h q = some v → 0 ≤ v ∧ v ≤ b
theorem one_in {zs : List Int} {ch : Int} {to : ByteArray} {h : Tm} {x : Lg} {b : Int} (hx : legOk x = true) (hc : 0 ≤ ch) (hi : InL b h) : InL b (oneL zs ch to h x) := by
  intro q v hv
  rcases takeL_or h x.f (legIn zs ch to h x) with he | ⟨e, ho, he, _⟩
  · have he' : oneL zs ch to h x = h := he
    rw [he'] at hv; exact hi q v hv
  · have he' : oneL zs ch to h x = putT h x.f e := he
    rw [he'] at hv
    by_cases n : q = x.f
    · subst n
      rw [putT_same] at hv
      have hev : e = v := Option.some.inj hv
      subst hev
      obtain ⟨a, ha, hs⟩ := legIn_some ho
      have h1 := legStart_lt hx hs
      have h2 := legStart_bd hx hs
      have h3 := hi _ _ ha
      have h4 : dueI ch to x.t a ≤ a := due_le hc
      omega
    · rw [putT_other _ _ _ _ n] at hv; exact hi q v hv
theorem fold_in {zs : List Int} {ch : Int} {to : ByteArray} {b : Int} (hc : 0 ≤ ch) : ∀ (l : List Lg) (h : Tm), (∀ x ∈ l, legOk x = true) → InL b h → InL b (l.foldl (oneL zs ch to) h)
  | [], _, _, hi => hi
  | x :: l, _, hok, hi => fold_in hc l _ (fun y hy => hok y (List.mem_cons_of_mem _ hy)) (one_in (hok x (List.mem_cons_self ..)) hc hi)
theorem init_in {to : ByteArray} {b : Int} (hb : 0 ≤ b) : InL b (initT to b) := fun q v h => by
  unfold initT at h
  split at h
  · cases h; omega
  · cases h
theorem lat_in {l : List Lg} {zs : List Int} {ch : Int} {to : ByteArray} {b : Int} (hok : ∀ x ∈ l, legOk x = true) (hc : 0 ≤ ch) (hb : 0 ≤ b) : ∀ k, InL b (latT l zs ch to b k)
  | 0 => init_in hb
  | k + 1 => fold_in hc l _ hok (lat_in hok hc hb k)
/-- what changed has changed for good -/
theorem UpT.differs {f g h : Tm} (h1 : UpT f g) (h2 : UpT g h) (n : g ≠ f) : h ≠ f := fun e => n (funext fun q => UpT.mid h1 h2 (by rw [e]))
theorem put_differs {f g : Tm} {p : ByteArray} {e : Int} (h1 : UpT f g) (hb : ∀ b, g p = some b → b < e) : putT g p e ≠ f := fun heq => by
  have h2 : UpT g (putT g p e) := fun q b hq => by
    by_cases n : q = p
    · subst n; exact ⟨e, putT_same _ _ _, Int.le_of_lt (hb b hq)⟩
    · exact ⟨b, (putT_other _ _ _ _ n).trans hq, Int.le_refl _⟩
  have hm := UpT.mid h1 h2 (q := p) (by rw [heq])
  have hv : f p = some e := by rw [← heq]; exact putT_same _ _ _
  rw [hv] at hm
  have := hb e hm
  omega
theorem fold_up_take (zs : List Int) (ch : Int) (to : ByteArray) (l : List Lg) (h : Tm) (k : Nat) : UpT h ((l.take k).foldl (oneL zs ch to) h) := up_fold zs ch to _ _
def latOk (l : List Lg) (zs : List Int) (x : Int) (to : ByteArray) (b : Int) : Prop := servB l zs x to = true ∧ 0 ≤ b
instance (l : List Lg) (zs : List Int) (x : Int) (to : ByteArray) (b : Int) : Decidable (latOk l zs x to b) := by unfold latOk; infer_instance
/-- what LatestStarts answers -/
def latB (l : List Lg) (zs : List Int) (x : Int) (to : ByteArray) (b : Int) : List Int :=
  if latOk l zs x to b then listT (placesB l) (latT l zs x to b (placesB l).length) else []
theorem lat_no {l : List Lg} {zs : List Int} {x : Int} {to : ByteArray} {b : Int} (h : ¬ latOk l zs x to b) : latB l zs x to b = [] := if_neg h
theorem lat_yes {l : List Lg} {zs : List Int} {x : Int} {to : ByteArray} {b : Int} (h : latOk l zs x to b) : latB l zs x to b = listT (placesB l) (latT l zs x to b (placesB l).length) := if_pos h
theorem lat_len (l : List Lg) (zs : List Int) (x : Int) (to : ByteArray) (b : Int) : (latB l zs x to b).length = 0 ∨ (latB l zs x to b).length = (placesB l).length := by
  by_cases h : latOk l zs x to b
  · exact .inr (by rw [lat_yes h, listT_len])
  · exact .inl (by rw [lat_no h]; rfl)
/-- the table of a round, as a list, with the leg's step in it -/
theorem step_none {pl : List ByteArray} {zs : List Int} {ch : Int} {to : ByteArray} {h : Tm} {x : Lg} (e : legIn zs ch to h x = none) : listT pl (oneL zs ch to h x) = listT pl h := by rw [oneL_none e]
theorem step_to {zs : List Int} {ch : Int} {to : ByteArray} {h : Tm} {x : Lg} {b : Int} (hx : legOk x = true) (hc : 0 ≤ ch) (hi : InL b h) (ht : h to = some b) (hf : x.f = to) : oneL zs ch to h x = h := by
  cases e : legIn zs ch to h x with
  | none => exact oneL_none e
  | some v =>
    refine oneL_keep e (by rw [hf]; exact ht) ?_
    obtain ⟨a, ha, hs⟩ := legIn_some e
    have h1 := legStart_lt hx hs
    have h3 := hi _ _ ha
    have h4 : dueI ch to x.t a ≤ a := due_le hc
    omega
theorem step_max {pl : List ByteArray} (hn : pl.Nodup) {zs : List Int} {ch : Int} {to : ByteArray} {h : Tm} {x : Lg} {e : Int} (he : legIn zs ch to h x = some e) (h0 : 0 ≤ e) {k : Nat} (hk : k < pl.length) (hp : pl[k] = x.f) :
    listT pl (oneL zs ch to h x) = (listT pl h).set k (max ((listT pl h).getD k 0) e) := by
  rw [listT_at pl h k hk]
  cases hv : h pl[k] with
  | none =>
    rw [oneL_put he (fun b hb => by rw [← hp, hv] at hb; cases hb), ← hp, ← listT_put hn h k hk e]
    congr 1
    show e = max (-1) e
    omega
  | some c =>
    show _ = (listT pl h).set k (max c e)
    by_cases hc : c < e
    · rw [oneL_put he (fun b hb => by rw [← hp, hv] at hb; cases hb; exact hc), ← hp, ← listT_put hn h k hk e]
      congr 1
      omega
    · rw [oneL_keep he (by rw [← hp]; exact hv) hc, show max c e = c by omega]
      refine List.ext_getElem (by simp) fun i h1 h2 => ?_
      rw [List.getElem_set]
      by_cases e1 : k = i
      · subst e1; rw [if_pos rfl, listT_get, hv]; rfl
      · rw [if_neg e1]
theorem up_to {f h : Tm} {to : ByteArray} {b : Int} (hu : UpT f h) (hf : f to = some b) (hi : InL b h) : h to = some b := by
  obtain ⟨e, he, h1⟩ := hu to b hf
  have h2 := (hi _ _ he).2
  rw [he]; congr 1; omega
theorem lat_up0 (l : List Lg) (zs : List Int) (ch : Int) (to : ByteArray) (b : Int) : ∀ k, UpT (initT to b) (latT l zs ch to b k)
  | 0 => UpT.refl _
  | k + 1 => (lat_up0 l zs ch to b k).trans (lat_up l zs ch to b k)
theorem lat_to {l : List Lg} {zs : List Int} {ch : Int} {to : ByteArray} {b : Int} (hok : ∀ x ∈ l, legOk x = true) (hc : 0 ≤ ch) (hb : 0 ≤ b) (k : Nat) : latT l zs ch to b k to = some b := up_to (lat_up0 l zs ch to b k) (if_pos rfl) (lat_in hok hc hb k)
end Go.Proofs.Ytalciiajhlhecaa

/- What can follow, the plain mathematics. -/
import Derived.Test.YtamlbiagjipedaaGreatSpM
import Derived.Test.YtamlbiagjipedaaGreatEarS
import Derived.Test.YtamlbiagjipedaaGreatScCmp
namespace Go.Proofs.YtamlbiagjipedaaGreat
open Go.RowKit
theorem arr_ge {l : List Lg} {zs : List Int} {ch : Int} {fr : ByteArray} {a : Int} (hok : ∀ x ∈ l, legOk x = true) (hc : 0 ≤ ch) : ∀ (k : Nat) (q : ByteArray) (b : Int), arrT l zs ch fr a k q = some b → a ≤ b
  | 0, q, b, h => by
    have h' : (if q = fr then some a else none) = some b := h
    by_cases e : q = fr
    · rw [if_pos e] at h'; have := Option.some.inj h'; omega
    · rw [if_neg e] at h'; cases h'
  | k + 1, q, b, h => by
    have h' : roundT zs ch fr l (arrT l zs ch fr a k) q = some b := h
    by_cases e : roundT zs ch fr l (arrT l zs ch fr a k) q = arrT l zs ch fr a k q
    · exact arr_ge hok hc k q b (e ▸ h')
    · obtain ⟨y, hy, _, e1, he1, he2, _⟩ := round_new e
      obtain ⟨a1, h1, h2⟩ := legOut_some he1
      have h3 := arr_ge hok hc k y.f a1 h1
      have h4 := legEnd_gt (hok y hy) h2
      have h5 := ready_ge (ch := ch) (fr := fr) (p := y.f) (a := a1) hc
      rw [he2] at h'
      have := Option.some.inj h'
      omega
theorem arr_self {l : List Lg} {zs : List Int} {ch : Int} {fr : ByteArray} {a : Int} (hok : ∀ x ∈ l, legOk x = true) (hc : 0 ≤ ch) : ∀ k, arrT l zs ch fr a k fr = some a
  | 0 => if_pos rfl
  | k + 1 => by
    obtain ⟨e, he, hle⟩ := round_le (zs := zs) (ch := ch) (fr := fr) (l := l) (arr_self hok hc k)
    have h2 := arr_ge (l := l) (zs := zs) (ch := ch) (fr := fr) (a := a) hok hc (k + 1) fr e he
    have : e = a := by omega
    subst this
    exact he
/-- from a place to itself it takes no time -/
theorem ear_self {l : List Lg} {zs : List Int} {x : Int} {p : ByteArray} {at_ : Int} (hn : netB l zs x = true) (hp : p ∈ placesB l) (ha : 0 ≤ at_ ∧ at_ ≤ 100000) : earB l zs x p p at_ = at_ := by
  obtain ⟨hok', hx⟩ : (∀ j (hj : j < l.length), legOk l[j] = true) ∧ (0 ≤ x ∧ x ≤ 240) := ⟨(net_at hn).2.1, (net_at hn).2.2.2⟩
  have hok : ∀ z ∈ l, legOk z = true := fun z hz => by obtain ⟨j, hj, rfl⟩ := List.getElem_of_mem hz; exact hok' j hj
  obtain ⟨k, hk, hkl, hkp⟩ := idx_mem (pl_nodup l) hp
  unfold earB timeB
  rw [best_yes ⟨serv_iff.2 ⟨hn, hp⟩, ha.2, by omega⟩, listT_len, hk]
  rw [if_neg (by omega), show ((k : Nat) : Int).toNat = k from Int.toNat_natCast k, listT_at _ _ _ hkl, hkp, arr_self hok hx.1]
  show max at_ 0 = at_
  omega
/-- a scan can follow an earlier one of one thing -/
def folB (l : List Lg) (zs : List Int) (x : Int) (a b : Sc) : Bool :=
  if a.k = 4 then false
  else if a.k = 3 ∧ b.k = 2 ∧ a.g = b.g ∧ a.d = b.d then true
  else decide (0 ≤ earB l zs x (behP l zs x a) (befP l zs x b) (behA l zs x a)) && decide (earB l zs x (behP l zs x a) (befP l zs x b) (behA l zs x a) ≤ befA l zs x b)
def canB (l : List Lg) (zs : List Int) (x : Int) (a b : Sc) : Bool := scB l zs x a && (scB l zs x b && (decide (a.h = b.h) && (decide (cmpSc a b < 0) && folB l zs x a b)))
theorem fol_done {l : List Lg} {zs : List Int} {x : Int} {a b : Sc} (h : a.k = 4) : folB l zs x a b = false := if_pos h
theorem fol_same {l : List Lg} {zs : List Int} {x : Int} {a b : Sc} (h : a.k = 3 ∧ b.k = 2 ∧ a.g = b.g ∧ a.d = b.d) : folB l zs x a b = true := by unfold folB; rw [if_neg (by omega), if_pos h]
theorem fol_else {l : List Lg} {zs : List Int} {x : Int} {a b : Sc} (h4 : a.k ≠ 4) (h : ¬ (a.k = 3 ∧ b.k = 2 ∧ a.g = b.g ∧ a.d = b.d)) : folB l zs x a b = (decide (0 ≤ earB l zs x (behP l zs x a) (befP l zs x b) (behA l zs x a)) && decide (earB l zs x (behP l zs x a) (befP l zs x b) (behA l zs x a) ≤ befA l zs x b)) := by
  unfold folB; rw [if_neg h4, if_neg h]
/-- the place behind a valid scan is one of the network, and its time in the range -/
theorem beh_place {l : List Lg} {zs : List Int} {x : Int} {r : Sc} (h : scB l zs x r = true) : netB l zs x = true ∧ behP l zs x r ∈ placesB l ∧ 0 ≤ behA l zs x r ∧ behA l zs x r ≤ 100000 := by
  obtain ⟨hn, _, ha, hk⟩ := scB_iff.1 h
  refine ⟨hn, ?_⟩
  by_cases h3 : r.k = 3
  · obtain ⟨e1, e2⟩ := beh_load h h3
    obtain ⟨_, _, k, hg, hkl, hl, _, hs1, hs2, hs3⟩ := trB_of (sc_trip h (Or.inr h3))
    dsimp only at hg hl
    rw [e1, e2, hl]
    exact ⟨(pl_place (List.getElem_mem hkl)).2, by omega, hs3⟩
  · obtain ⟨e1, e2⟩ := beh_else h h3
    rw [e1, e2]
    refine ⟨?_, ha⟩
    by_cases h2 : r.k = 2
    · rw [place_drop h h2]
      obtain ⟨_, _, k, hg, hkl, hl, _⟩ := trB_of (sc_trip h (Or.inl h2))
      dsimp only at hg hl
      rw [hl]
      exact (pl_place (List.getElem_mem hkl)).2
    · rw [place_here h h3 h2]
      have hk' := sc_kind h
      rw [kind_here (by omega)] at hk
      simp only [Bool.and_eq_true] at hk
      exact (Lib.containsS_iff _ _).1 hk.2
end Go.Proofs.YtamlbiagjipedaaGreat

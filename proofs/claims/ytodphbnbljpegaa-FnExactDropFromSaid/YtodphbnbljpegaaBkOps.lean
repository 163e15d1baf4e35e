/- Bookings copied, looked for by a closure, and struck by one: slices.Clone, IndexFunc, DeleteFunc; l6Copy. -/
import Derived.Test.YtodphbnbljpegaaRide
import Derived.Laws.CopyRow
import Derived.Shelf.Abstract
namespace Go.Proofs.Ytodphbnbljpegaa
open Go.RowKit
theorem flatS {α : Type} {enc : α → List Value} {m : Nat} (hk : ∀ a, (enc a).length = m) : ∀ (l : List α) (k : Nat) (h : k < l.length) (i : Nat) (_ : i < m) (v : Value) (y : α), enc y = (enc l[k]).set i v → (l.flatMap enc).set (k * m + i) v = (l.set k y).flatMap enc
  | [], k, h, _, _, _, _, _ => by simp at h
  | a :: l, 0, _, i, hi, v, y, he => by
    rw [List.set_cons_zero, List.flatMap_cons, List.flatMap_cons, Nat.zero_mul, Nat.zero_add, List.set_append_left _ _ (by rw [hk]; exact hi), he]
    rfl
  | a :: l, k + 1, h, i, hi, v, y, he => by
    rw [List.set_cons_succ, List.flatMap_cons, List.flatMap_cons, List.set_append_right _ _ (by rw [hk, Nat.succ_mul]; omega), hk, show (k + 1) * m + i - m = k * m + i by rw [Nat.succ_mul]; omega, flatS hk l k (by simpa using h) i hi v y he]
theorem flatT {α : Type} {enc : α → List Value} {m : Nat} (hk : ∀ a, (enc a).length = m) (l : List α) (i : Nat) (h : i ≤ l.length) : (l.flatMap enc).take (i * m) = (l.take i).flatMap enc := by
  have h1 : l.flatMap enc = (l.take i).flatMap enc ++ (l.drop i).flatMap enc := by rw [← List.flatMap_append, List.take_append_drop]
  rw [h1, List.take_left' (by rw [flat_len hk, List.length_take, Nat.min_eq_left h])]
abbrev RowB (w : World) (b G c : Nat) (l : List Bk) : Prop := OwnKbk w b (.slice (some ⟨G, 0, none⟩) l.length c) l
theorem rowB_put {w : World} {b G c i : Nat} {l : List Bk} {k : Nat} (h : RowB w b G c l) (hk : k < l.length) (hi : i < 4) (v : Value) (y : Bk) (he : bkC y = (bkC l[k]).set i v) : RowB (w.setCell ⟨G, k * 4 + i, none⟩ v) b G c (l.set k y) := by
  unfold RowB OwnKbk OwnK
  rw [List.length_set, ← flatS bkC_len l k hk i hi v y he]
  exact (World.ownsRow.stored h (k * 4 + i) v).1
theorem rowB_set {w : World} {b G c : Nat} {l : List Bk} {k : Nat} (h : RowB w b G c l) (hk : k < l.length) (yh yg yd ym : Int) :
    RowB ((((w.setCell ⟨G, k * 4, none⟩ (.int .i64 yh)).setCell ⟨G, k * 4 + 1, none⟩ (.int .i64 yg)).setCell ⟨G, k * 4 + 2, none⟩ (.int .i64 yd)).setCell ⟨G, k * 4 + 3, none⟩ (.int .i64 ym)) b G c (l.set k ⟨yh, yg, yd, ym⟩) := by
  have h1 := rowB_put (i := 0) h hk (by omega) (.int .i64 yh) ⟨yh, l[k].g, l[k].d, l[k].m⟩ rfl
  have h2 := rowB_put (i := 1) h1 (by simpa using hk) (by omega) (.int .i64 yg) ⟨yh, yg, l[k].d, l[k].m⟩ (by rw [List.getElem_set_self]; rfl)
  rw [List.set_set] at h2
  have h3 := rowB_put (i := 2) h2 (by simpa using hk) (by omega) (.int .i64 yd) ⟨yh, yg, yd, l[k].m⟩ (by rw [List.getElem_set_self]; rfl)
  rw [List.set_set] at h3
  have h4 := rowB_put (i := 3) h3 (by simpa using hk) (by omega) (.int .i64 ym) ⟨yh, yg, yd, ym⟩ (by rw [List.getElem_set_self]; rfl)
  rw [List.set_set] at h4
  exact h4
theorem rowB_grown {w : World} {G k : Nat} (yh yg yd ym : Int) : w.grownBy ((((w.setCell ⟨G, k * 4, none⟩ (.int .i64 yh)).setCell ⟨G, k * 4 + 1, none⟩ (.int .i64 yg)).setCell ⟨G, k * 4 + 2, none⟩ (.int .i64 yd)).setCell ⟨G, k * 4 + 3, none⟩ (.int .i64 ym)) (some G) :=
  only_trans (only_trans (only_trans (only_set _ _ _ _) (only_set _ _ _ _)) (only_set _ _ _ _)) (only_set _ _ _ _)
theorem one_bk (t : Bk) : ∀ u ∈ bkC t, u.oneCell' = true := by
  intro u hu
  simp only [bkC, List.mem_cons, List.not_mem_nil, or_false] at hu
  rcases hu with rfl | rfl | rfl | rfl <;> rfl
theorem all_oneB {l : List Bk} : ∀ u ∈ l.flatMap bkC, u.oneCell' = true := by
  intro u hu
  obtain ⟨t, _, h⟩ := List.mem_flatMap.1 hu
  exact one_bk t u h
theorem bks_news {w : World} {g : Nat} {l : List Bk} (h : InK 4 bkC w (some ⟨g, 0, none⟩) l) : ∀ j u, (l.flatMap bkC)[j]? = some u → w.cell? ((⟨g, 0, none⟩ : Addr).add j) = some u := by
  intro j u hu
  have hj : j < l.length * 4 := by
    have := (List.getElem?_eq_some_iff.1 hu).1
    rwa [flat_len bkC_len] at this
  have hq : j / 4 < l.length := by omega
  obtain ⟨g', e, _, hc⟩ := h (j / 4) hq
  cases e
  have h1 := flat_get bkC_len l (j / 4) hq (j % 4) (by omega)
  have h2 := hc (j % 4) (by omega)
  rw [show j / 4 * 4 + j % 4 = j by omega] at h1 h2
  rw [add_own, h2, ← h1, hu]
theorem rowB_of {w : World} {b : Nat} {v : Value} {l : List Bk} (h : OwnKbk w b v l) (hv : v ≠ .slice none 0 0) : ∃ G c, v = .slice (some ⟨G, 0, none⟩) l.length c ∧ RowB w b G c l := by
  have h0 := h
  rcases h.2 with ⟨e, _⟩ | ⟨g, cap, cur, e, _⟩
  · exact absurd e hv
  · subst e; exact ⟨g, cap, rfl, h0⟩
set_option maxRecDepth 100000 in
set_option maxHeartbeats 400000 in
theorem clone_bk (g ca : Nat) (l : List Bk) (w : World) (hA : InK 4 bkC w (some ⟨g, 0, none⟩) l) (hn : l.length ≤ 1048576) :
    Calls Try.prog 79 #[.slice (some ⟨g, 0, none⟩) l.length ca] w fun e w' => ∃ G c, e = .returned (.slice (some ⟨G, 0, none⟩) l.length c) ∧ RowB w' w.heap.size G c l ∧ Below w.heap.size w w' := by
  obtain ⟨i0, hi0, hz0, hz1, hz2⟩ := info_parts bk_info
  have hb0 := (Below.refl w.heap.size w).alloc (Nat.le_refl _) (.cells #[] 97)
  have HN := Lib.hid (bks_news (hA.below hb0)); clear hA
  have HB := Lib.hid hb0; clear hb0
  have hq : ∀ W, Sem.run Try.prog (binOp BinOp.eql 28 (.slice (some ⟨g, 0, none⟩) l.length ca) (.slice none 0 0)) W = .ok (.bool false) W := fun _ => by first | rfl | kernel_rfl | (simp [binOp, go_sem, Try.underlying28])
  go_enter Try.func79, Try.ntmps79
  go_wp2_with (at_builtin; refine wpList_append_own _ rfl _ _ 28 rfl w.heap.size 97 i0 _ 4 32 Try.underlying28 hi0 hz0 hz1 hz2 rfl (by decide) _ _ _ rfl (World.ownsRow_made w #[] 0 (Nat.le_refl _) (Nat.zero_le _) rfl) ⟨g, 0, none⟩ l.length ca (l.flatMap bkC) rfl ?qc1 ?qc2 ?qc3 ?qc4 ?qc5 ?qc6 ?_)
  case qc1 => exact flat_len bkC_len l
  case qc2 => exact HN.out
  case qc3 => exact all_oneB
  case qc4 => unfold maxLen; omega
  case qc5 => omega
  case qc6 => simp
  intro v' w1 hown hgrow hnil
  have ho : OwnKbk w1 w.heap.size v' l := by unfold OwnKbk OwnK; simpa using hown
  obtain ⟨G, c, rfl, hr⟩ := rowB_of ho hnil
  have HR := Lib.hid hr
  have hb := HB.out.grown hgrow (by simp) (by intro k hk; simp [Value.ownBlock] at hk; omega)
  clear ho hr hown hnil hgrow
  go_wp2
  go_ret
  exact ⟨G, c, rfl, HR.out, hb⟩
/-- what a closure says of some bookings, in every world of a class -/
def SaysB (gf : Nat) (lb : Array Value) (p : Bk → Bool) (bs : List Bk) (K : World → Prop) : Prop :=
  ∀ (W : World) (y : Bk), y ∈ bs → K W → Calls Try.prog gf (#[.agg #[.int .i64 y.h, .int .i64 y.g, .int .i64 y.d, .int .i64 y.m]] ++ lb) W fun e w' => e = .returned (.bool (p y)) ∧ Below W.heap.size W w'
/-- where the first one is, -1 if there is none -/
def idxB (p : Bk → Bool) (bs : List Bk) : Int := match bs.findIdx? p with
  | none => -1
  | some k => k
theorem idxB_hit {p : Bk → Bool} {bs : List Bk} {k : Nat} (hk : k < bs.length) (hp : p bs[k] = true) (hn : ∀ j (_ : j < bs.length), j < k → p bs[j] = false) : idxB p bs = k := by
  unfold idxB
  rw [show bs.findIdx? p = some k from by rw [List.findIdx?_eq_some_iff_getElem]; exact ⟨hk, hp, fun j hj => by rw [hn j (by omega) hj]; simp⟩]
theorem idxB_miss {p : Bk → Bool} {bs : List Bk} (hn : ∀ j (_ : j < bs.length), p bs[j] = false) : idxB p bs = -1 := by
  unfold idxB
  rw [show bs.findIdx? p = none from by
    rw [List.findIdx?_eq_none_iff]
    intro x hx
    obtain ⟨j, hj, rfl⟩ := List.getElem_of_mem hx
    exact hn j hj]
set_option maxRecDepth 100000 in
set_option maxHeartbeats 2000000 in
theorem idxf_bk (p : Bk → Bool) (gf : Nat) (lb : Array Value) (K : World → Prop) (hK : ∀ W W', K W → Below W.heap.size W W' → K W') (eg : ∀ args w, (callFunc gf args).run Try.prog w = .ok (.enter gf args) w) (A : Option Addr) (ca : Nat) (l : List Bk) (w : World) (hA : InK 4 bkC w A l) (hn : l.length ≤ 1048576) (hs : SaysB gf lb p l K) (hw : K w) :
    Calls Try.prog 135 #[.slice A l.length ca, .func (.func gf) #[] lb] w fun e w' => e = .returned (.int .i64 (idxB p l)) ∧ (∀ k : Nat, idxB p l = k → k < l.length ∧ (∃ h : k < l.length, p l[k] = true) ∧ ∀ j (_ : j < l.length), j < k → p l[j] = false) ∧ (idxB p l = -1 → ∀ j (_ : j < l.length), p l[j] = false) ∧ Below w.heap.size w w' := by
  have HA := Lib.hid hA; clear hA
  have HS := Lib.hid hs; clear hs
  have HK := Lib.hid hK; have HW := Lib.hid hw; clear hK hw
  go_enter Try.func135, Try.ntmps135
  go_wp2
  go_loopw [8] (fun i wr => ∃ k : Nat, k ≤ l.length ∧ i = .int .i64 k ∧ Hid (∀ j (_ : j < l.length), j < k → p l[j] = false) ∧ Below w.heap.size w wr) (fun i _ => l.length - (intOf i).toNat)
  case atStart => exact ⟨0, Nat.zero_le _, rfl, Lib.hid (fun j _ h => by omega), Below.refl _ _⟩
  case round =>
    obtain ⟨k, hk, rfl, hd, hb⟩ := hrel
    by_cases hlt : (k : Int) < (l.length : Int)
    · have hkn : k < l.length := by omega
      obtain ⟨g, rfl, hg, c0, c1, c2, c3⟩ := (HA.out.below hb).bk k hkn
      have HC := Lib.hid (HS.out wr l[k] (List.getElem_mem hkn) (HK.out w wr HW.out hb))
      have hbz := hb.size
      have HP := Lib.hid (fun h => idxB_hit hkn h hd.out)
      have HP2 := Lib.hid (fun (h : p l[k] = true) => (⟨hkn, h⟩ : ∃ h : k < l.length, p l[k] = true))
      have HQ := Lib.hid (fun (h : p l[k] = false) j (hj : j < l.length) (hjk : j < k + 1) => show p l[j] = false by
        by_cases e : j = k
        · subst e; exact h
        · exact hd.out j hj (by omega))
      have HD := Lib.hid hd.out
      clear hd
      generalize l[k] = y at c0 c1 c2 c3 HC HP HQ HP2
      cases hq : p y with
      | true =>
        rw [hq] at HC
        have HV := Lib.hid (HP.out hq)
        have HV2 := Lib.hid (HP2.out hq)
        clear HP HQ hq HP2
        go_wp2_with (go_at_fn gf; refine HC.out.mono ?_; rintro e w' ⟨rfl, hb'⟩)
        go_ret
        exact ⟨by rw [HV.out]; rfl, fun k' hk' => by
          rw [HV.out] at hk'
          obtain rfl : k = k' := by omega
          exact ⟨hkn, HV2.out, HD.out⟩, fun h => by rw [HV.out] at h; omega, hb.trans (hb'.mono hbz)⟩
      | false =>
        rw [hq] at HC
        have HV := Lib.hid (HQ.out hq)
        clear HP HQ hq HP2 HD
        go_wp2_with (go_at_fn gf; refine HC.out.mono ?_; rintro e w' ⟨rfl, hb'⟩)
        go_roundw
        case rel => exact ⟨k + 1, by omega, by go_num, HV, hb.trans (hb'.mono hbz)⟩
        case measure => simp [intOf]; omega
    · obtain rfl : k = l.length := by omega
      have HV := Lib.hid (idxB_miss (fun j hj => hd.out j hj hj))
      have HD := Lib.hid (fun j (hj : j < l.length) => hd.out j hj hj)
      clear hd
      go_wp2
      go_ret
      exact ⟨by rw [HV.out]; rfl, fun k' hk' => by rw [HV.out] at hk'; omega, fun _ => HD.out, hb⟩
end Go.Proofs.Ytodphbnbljpegaa

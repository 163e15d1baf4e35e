/- Lines copied: slices.Clone, l11Copy. Written by mk/lnops.py. -/
import Derived.Test.YtadcmngooobeiaaLineMk
import Derived.Test.YtadcmngooobeiaaLnM
import Derived.Laws.CopyRow
import Derived.Shelf.Abstract
namespace Go.Proofs.Ytadcmngooobeiaa
open Go.RowKit
theorem flatS {α : Type} {enc : α → List Value} {m : Nat} (hk : ∀ a, (enc a).length = m) : ∀ (l : List α) (k : Nat) (h : k < l.length) (i : Nat) (_ : i < m) (v : Value) (y : α), enc y = (enc l[k]).set i v → (l.flatMap enc).set (k * m + i) v = (l.set k y).flatMap enc
  | [], k, h, _, _, _, _, _ => by simp at h
  | a :: l, 0, _, i, hi, v, y, he => by
    rw [List.set_cons_zero, List.flatMap_cons, List.flatMap_cons, Nat.zero_mul, Nat.zero_add, List.set_append_left _ _ (by rw [hk]; exact hi), he]
    rfl
  | a :: l, k + 1, h, i, hi, v, y, he => by
    rw [List.set_cons_succ, List.flatMap_cons, List.flatMap_cons, List.set_append_right _ _ (by rw [hk, Nat.succ_mul]; omega), hk, show (k + 1) * m + i - m = k * m + i by rw [Nat.succ_mul]; omega, flatS hk l k (by simpa using h) i hi v y he]
theorem flatT {α : Type} {enc : α → List Value} {m : Nat} (hk : ∀ a, (enc a).length = m) (l : List α) (i : Nat) (h : i ≤ l.length) : (l.flatMap enc).take (i * m) = (l.take i).flatMap enc := by
  have h1 : l.flatMap enc = (l.take i).flatMap enc ++ (l.drop i).flatMap enc := by rw [← List.flatMap_append, List.take_append_drop]
  rw [h1, List.take_left' (by rw [flat_len hk, List.length_take, Nat.min_eq_left h])]
abbrev RowL (w : World) (b G c : Nat) (l : List Ln) : Prop := OwnKln w b (.slice (some ⟨G, 0, none⟩) l.length c) l
theorem one_ln (t : Ln) : ∀ u ∈ lnC t, u.oneCell' = true := by
  intro u hu
  simp only [lnC, List.mem_cons, List.not_mem_nil, or_false] at hu
  rcases hu with rfl | rfl | rfl | rfl <;> rfl
theorem all_oneL {l : List Ln} : ∀ u ∈ l.flatMap lnC, u.oneCell' = true := by
  intro u hu
  obtain ⟨t, _, h⟩ := List.mem_flatMap.1 hu
  exact one_ln t u h
theorem lns_news {w : World} {g : Nat} {l : List Ln} (h : InK 4 lnC w (some ⟨g, 0, none⟩) l) : ∀ j u, (l.flatMap lnC)[j]? = some u → w.cell? ((⟨g, 0, none⟩ : Addr).add j) = some u := by
  intro j u hu
  have hj : j < l.length * 4 := by
    have := (List.getElem?_eq_some_iff.1 hu).1
    rwa [flat_len lnC_len] at this
  have hq : j / 4 < l.length := by omega
  obtain ⟨g', e, _, hc⟩ := h (j / 4) hq
  cases e
  have h1 := flat_get lnC_len l (j / 4) hq (j % 4) (by omega)
  have h2 := hc (j % 4) (by omega)
  rw [show j / 4 * 4 + j % 4 = j by omega] at h1 h2
  rw [add_own, h2, ← h1, hu]
theorem rowL_of {w : World} {b : Nat} {v : Value} {l : List Ln} (h : OwnKln w b v l) (hv : v ≠ .slice none 0 0) : ∃ G c, v = .slice (some ⟨G, 0, none⟩) l.length c ∧ RowL w b G c l := by
  have h0 := h
  rcases h.2 with ⟨e, _⟩ | ⟨g, cap, cur, e, _⟩
  · exact absurd e hv
  · subst e; exact ⟨g, cap, rfl, h0⟩
set_option maxRecDepth 100000 in
set_option maxHeartbeats 400000 in
theorem clone_ln (g ca : Nat) (l : List Ln) (w : World) (hA : InK 4 lnC w (some ⟨g, 0, none⟩) l) (hn : l.length ≤ 1048576) :
    Calls Try.prog 66 #[.slice (some ⟨g, 0, none⟩) l.length ca] w fun e w' => ∃ G c, e = .returned (.slice (some ⟨G, 0, none⟩) l.length c) ∧ RowL w' w.heap.size G c l ∧ Below w.heap.size w w' := by
  obtain ⟨i0, hi0, hz0, hz1, hz2⟩ := info_parts ln_info
  have hb0 := (Below.refl w.heap.size w).alloc (Nat.le_refl _) (.cells #[] 25)
  have HN := Lib.hid (lns_news (hA.below hb0)); clear hA
  have HB := Lib.hid hb0; clear hb0
  have hq : ∀ W, Sem.run Try.prog (binOp BinOp.eql 31 (.slice (some ⟨g, 0, none⟩) l.length ca) (.slice none 0 0)) W = .ok (.bool false) W := fun _ => by first | rfl | kernel_rfl | (simp [binOp, go_sem, Try.underlying31])
  go_enter Try.func66, Try.ntmps66
  go_wp2_with (at_builtin; refine wpList_append_own _ rfl _ _ 31 rfl w.heap.size 25 i0 _ 4 32 Try.underlying31 hi0 hz0 hz1 hz2 rfl (by decide) _ _ _ rfl (World.ownsRow_made w #[] 0 (Nat.le_refl _) (Nat.zero_le _) rfl) ⟨g, 0, none⟩ l.length ca (l.flatMap lnC) rfl ?qc1 ?qc2 ?qc3 ?qc4 ?qc5 ?qc6 ?_)
  case qc1 => exact flat_len lnC_len l
  case qc2 => exact HN.out
  case qc3 => exact all_oneL
  case qc4 => unfold maxLen; omega
  case qc5 => omega
  case qc6 => simp
  intro v' w1 hown hgrow hnil
  have ho : OwnKln w1 w.heap.size v' l := by unfold OwnKln OwnK; simpa using hown
  obtain ⟨G, c, rfl, hr⟩ := rowL_of ho hnil
  have HR := Lib.hid hr
  have hb := HB.out.grown hgrow (by simp) (by intro k hk; simp [Value.ownBlock] at hk; omega)
  clear ho hr hown hnil hgrow
  go_wp2
  go_ret
  exact ⟨G, c, rfl, HR.out, hb⟩
set_option maxRecDepth 100000 in
set_option maxHeartbeats 400000 in
theorem copy_l11 (g ca : Nat) (l : List Ln) (w : World) (hA : InK 4 lnC w (some ⟨g, 0, none⟩) l) (hn : l.length ≤ 1048576) :
    Calls Try.prog 64 #[.slice (some ⟨g, 0, none⟩) l.length ca] w fun e w' => ∃ G c, e = .returned (.slice (some ⟨G, 0, none⟩) l.length c) ∧ RowL w' w.heap.size G c l ∧ Below w.heap.size w w' := by
  obtain ⟨i0, hi0, hz0, hz1, hz2⟩ := info_parts ln_info
  have hb0 := (Below.refl w.heap.size w).alloc (Nat.le_refl _) (.cells #[] 25)
  have HN := Lib.hid (lns_news (hA.below hb0)); clear hA
  have HB := Lib.hid hb0; clear hb0
  go_enter Try.func64, Try.ntmps64
  go_wp2_with (at_builtin; refine wpList_append_own _ rfl _ _ 31 rfl w.heap.size 25 i0 _ 4 32 Try.underlying31 hi0 hz0 hz1 hz2 rfl (by decide) _ _ _ rfl (World.ownsRow_made w #[] 0 (Nat.le_refl _) (Nat.zero_le _) rfl) ⟨g, 0, none⟩ l.length ca (l.flatMap lnC) rfl ?qc1 ?qc2 ?qc3 ?qc4 ?qc5 ?qc6 ?_)
  case qc1 => exact flat_len lnC_len l
  case qc2 => exact HN.out
  case qc3 => exact all_oneL
  case qc4 => unfold maxLen; omega
  case qc5 => omega
  case qc6 => simp
  intro v' w1 hown hgrow hnil
  have ho : OwnKln w1 w.heap.size v' l := by unfold OwnKln OwnK; simpa using hown
  obtain ⟨G, c, rfl, hr⟩ := rowL_of ho hnil
  have HR := Lib.hid hr
  have hb := HB.out.grown hgrow (by simp) (by intro k hk; simp [Value.ownBlock] at hk; omega)
  clear ho hr hown hnil hgrow
  go_wp2
  go_ret
  exact ⟨G, c, rfl, HR.out, hb⟩
theorem RowL.of {w : World} {base n : Nat} {v : Value} {l : List Ln} (h : w.ownsRow base 25 4 v n (l.flatMap lnC)) (hn : l.length = n) (hv : v ≠ .slice none 0 0) : ∃ g cap, v = .slice (some ⟨g, 0, none⟩) n cap ∧ RowL w base g cap l := by
  subst hn; exact rowL_of h hv
theorem RowL.own {w : World} {base g c n : Nat} {l : List Ln} (h : RowL w base g c l) (hn : l.length = n) : w.ownsRow base 25 4 (.slice (some ⟨g, 0, none⟩) n c) n (l.flatMap lnC) := by subst hn; exact h
theorem RowL.low {w : World} {base g c : Nat} {l : List Ln} (h : RowL w base g c l) : base ≤ g := (World.ownsRow.lt h g rfl).1
end Go.Proofs.Ytadcmngooobeiaa

/- Copies of things, one field written; contracts of SealBox, both texts. -/
import Derived.Test.YtodphbnbljpegabAsk3
namespace Go.Proofs.Ytodphbnbljpegab
open Go.RowKit
abbrev RowT (w : World) (b G c : Nat) (l : List Th) : Prop := OwnKth w b (.slice (some ⟨G, 0, none⟩) l.length c) l
theorem flat_set {α : Type} {enc : α → List Value} {m : Nat} (hk : ∀ a, (enc a).length = m) : ∀ (l : List α) (k : Nat) (h : k < l.length) (i : Nat) (_ : i < m) (v : Value) (y : α), enc y = (enc l[k]).set i v → (l.flatMap enc).set (k * m + i) v = (l.set k y).flatMap enc
  | [], k, h, _, _, _, _, _ => by simp at h
  | a :: l, 0, _, i, hi, v, y, he => by
    rw [List.set_cons_zero, List.flatMap_cons, List.flatMap_cons, Nat.zero_mul, Nat.zero_add, List.set_append_left _ _ (by rw [hk]; exact hi), he]
    rfl
  | a :: l, k + 1, h, i, hi, v, y, he => by
    rw [List.set_cons_succ, List.flatMap_cons, List.flatMap_cons, List.set_append_right _ _ (by rw [hk, Nat.succ_mul]; omega), hk, show (k + 1) * m + i - m = k * m + i by rw [Nat.succ_mul]; omega, flat_set hk l k (by simpa using h) i hi v y he]
theorem rowT_put {w : World} {b G c k i : Nat} {l : List Th} (h : RowT w b G c l) (hk : k < l.length) (hi : i < 6) (v : Value) (y : Th) (he : thC y = (thC l[k]).set i v) : OwnKth (w.setCell ⟨G, k * 6 + i, none⟩ v) b (.slice (some ⟨G, 0, none⟩) l.length c) (l.set k y) := by
  unfold OwnKth OwnK
  rw [List.length_set, ← flat_set thC_len l k hk i hi v y he]
  exact (World.ownsRow.stored h (k * 6 + i) v).1
theorem rowT_lt {w : World} {b G c : Nat} {l : List Th} (h : RowT w b G c l) : b ≤ G ∧ G < w.heap.size := World.ownsRow.lt h G rfl
theorem rowT_free {w : World} {b G c : Nat} {l : List Th} (h : RowT w b G c l) (o : Nat) : w.frozen? ⟨G, o, none⟩ = false := World.ownsRow.frozenAt h o
theorem rowT_of {w : World} {b : Nat} {v : Value} {l : List Th} (h : OwnKth w b v l) (hv : v ≠ .slice none 0 0) : ∃ G c, v = .slice (some ⟨G, 0, none⟩) l.length c ∧ RowT w b G c l := by
  have h0 := h
  rcases h.2 with ⟨e, _⟩ | ⟨g, cap, cur, e, _⟩
  · exact absurd e hv
  · subst e; exact ⟨g, cap, rfl, h0⟩
theorem all_one {l : List Th} : ∀ u ∈ l.flatMap thC, u.oneCell' = true := by
  intro u hu
  obtain ⟨t, _, h⟩ := List.mem_flatMap.1 hu
  exact one_th t u h
theorem ths_news {w : World} {g : Nat} {l : List Th} (h : InK 6 thC w (some ⟨g, 0, none⟩) l) : ∀ j u, (l.flatMap thC)[j]? = some u → w.cell? ((⟨g, 0, none⟩ : Addr).add j) = some u := by
  intro j u hu
  have hj : j < l.length * 6 := by
    have := (List.getElem?_eq_some_iff.1 hu).1
    rwa [flat_len thC_len] at this
  have hq : j / 6 < l.length := by omega
  obtain ⟨g', e, _, hc⟩ := h (j / 6) hq
  cases e
  have h1 := flat_get thC_len l (j / 6) hq (j % 6) (by omega)
  have h2 := hc (j % 6) (by omega)
  rw [show j / 6 * 6 + j % 6 = j by omega] at h1 h2
  rw [add_own, h2, ← h1, hu]
set_option maxRecDepth 100000 in
set_option maxHeartbeats 400000 in
theorem copy_l5 (g ca : Nat) (l : List Th) (w : World) (hA : InK 6 thC w (some ⟨g, 0, none⟩) l) (hn : l.length ≤ 1048576) :
    Calls Try.prog 70 #[.slice (some ⟨g, 0, none⟩) l.length ca] w fun e w' => ∃ G c, e = .returned (.slice (some ⟨G, 0, none⟩) l.length c) ∧ RowT w' w.heap.size G c l ∧ Below w.heap.size w w' := by
  obtain ⟨i0, hi0, hz0, hz1, hz2⟩ := info_parts th_info
  have hb0 := (Below.refl w.heap.size w).alloc (Nat.le_refl _) (.cells #[] 90)
  have HN := Lib.hid (ths_news (hA.below hb0)); clear hA
  have HB := Lib.hid hb0; clear hb0
  go_enter Try.func70, Try.ntmps70
  go_wp2_with (at_builtin; refine wpList_append_own _ rfl _ _ 24 rfl w.heap.size 90 i0 _ 6 40 Try.underlying24 hi0 hz0 hz1 hz2 rfl (by decide) _ _ _ rfl (World.ownsRow_made w #[] 0 (Nat.le_refl _) (Nat.zero_le _) rfl) ⟨g, 0, none⟩ l.length ca (l.flatMap thC) rfl ?qc1 ?qc2 ?qc3 ?qc4 ?qc5 ?qc6 ?_)
  case qc1 => exact flat_len thC_len l
  case qc2 => exact HN.out
  case qc3 => exact all_one
  case qc4 => unfold maxLen; omega
  case qc5 => omega
  case qc6 => simp
  intro v' w1 hown hgrow hnil
  have ho : OwnKth w1 w.heap.size v' l := by unfold OwnKth OwnK; simpa using hown
  obtain ⟨G, c, rfl, hr⟩ := rowT_of ho hnil
  have HR := Lib.hid hr
  have hb := HB.out.grown hgrow (by simp) (by intro k hk; simp [Value.ownBlock] at hk; omega)
  clear ho hr hown hnil hgrow
  go_wp2
  go_ret
  exact ⟨G, c, rfl, HR.out, hb⟩
set_option maxRecDepth 100000 in
set_option maxHeartbeats 400000 in
theorem clone_th (g ca : Nat) (l : List Th) (w : World) (hA : InK 6 thC w (some ⟨g, 0, none⟩) l) (hn : l.length ≤ 1048576) :
    Calls Try.prog 74 #[.slice (some ⟨g, 0, none⟩) l.length ca] w fun e w' => ∃ G c, e = .returned (.slice (some ⟨G, 0, none⟩) l.length c) ∧ RowT w' w.heap.size G c l ∧ Below w.heap.size w w' := by
  obtain ⟨i0, hi0, hz0, hz1, hz2⟩ := info_parts th_info
  have hb0 := (Below.refl w.heap.size w).alloc (Nat.le_refl _) (.cells #[] 90)
  have HN := Lib.hid (ths_news (hA.below hb0)); clear hA
  have HB := Lib.hid hb0; clear hb0
  have hq : ∀ W, Sem.run Try.prog (binOp BinOp.eql 24 (.slice (some ⟨g, 0, none⟩) l.length ca) (.slice none 0 0)) W = .ok (.bool false) W := fun _ => by first | rfl | kernel_rfl | (simp [binOp, go_sem, Try.underlying24])
  go_enter Try.func74, Try.ntmps74
  go_wp2_with (at_builtin; refine wpList_append_own _ rfl _ _ 24 rfl w.heap.size 90 i0 _ 6 40 Try.underlying24 hi0 hz0 hz1 hz2 rfl (by decide) _ _ _ rfl (World.ownsRow_made w #[] 0 (Nat.le_refl _) (Nat.zero_le _) rfl) ⟨g, 0, none⟩ l.length ca (l.flatMap thC) rfl ?qc1 ?qc2 ?qc3 ?qc4 ?qc5 ?qc6 ?_)
  case qc1 => exact flat_len thC_len l
  case qc2 => exact HN.out
  case qc3 => exact all_one
  case qc4 => unfold maxLen; omega
  case qc5 => omega
  case qc6 => simp
  intro v' w1 hown hgrow hnil
  have ho : OwnKth w1 w.heap.size v' l := by unfold OwnKth OwnK; simpa using hown
  obtain ⟨G, c, rfl, hr⟩ := rowT_of ho hnil
  have HR := Lib.hid hr
  have hb := HB.out.grown hgrow (by simp) (by intro k hk; simp [Value.ownBlock] at hk; omega)
  clear ho hr hown hnil hgrow
  go_wp2
  go_ret
  exact ⟨G, c, rfl, HR.out, hb⟩
end Go.Proofs.Ytodphbnbljpegab

/- A copy of ints: the contract of spec.l1Ints; appending one int. -/
import Derived.Test.YtadcmngooobeiaaBa
import Derived.WalkKit
namespace Go.Proofs.Ytadcmngooobeiaa
open Go.RowKit
theorem one_int (l : List Int) : ∀ u ∈ intV l, u.oneCell' = true := by
  intro u hu
  obtain ⟨x, _, rfl⟩ := List.mem_map.1 hu; rfl
/-- a slice of the call's own that holds these ints, and is not nil -/
def RowI (w : World) (base g cap : Nat) (l : List Int) : Prop := OwnI w base (.slice (some ⟨g, 0, none⟩) l.length cap) l
theorem rowI_of {w : World} {base : Nat} {v : Value} {l : List Int} (h : OwnI w base v l) (hv : v ≠ .slice none 0 0) : ∃ g cap, v = .slice (some ⟨g, 0, none⟩) l.length cap ∧ RowI w base g cap l := by
  have h0 := h
  rcases h.2 with ⟨e, _⟩ | ⟨g, cap, cur, e, _⟩
  · exact absurd e hv
  · subst e; exact ⟨g, cap, rfl, h0⟩
theorem RowI.lt {w : World} {base g cap : Nat} {l : List Int} (h : RowI w base g cap l) : g < w.heap.size := by
  rcases h.2 with ⟨e, _⟩ | ⟨_, _, _, e, _, h, _⟩
  · cases e
  · cases e; exact (Array.getElem?_eq_some_iff.1 h).1
theorem RowI.low {w : World} {base g cap : Nat} {l : List Int} (h : RowI w base g cap l) : base ≤ g := by
  rcases h.2 with ⟨e, _⟩ | ⟨_, _, _, e, h, _⟩
  · cases e
  · cases e; exact h
/-- what a row owns, its length under another name -/
theorem RowI.own {w : World} {base g cap n : Nat} {l : List Int} (h : RowI w base g cap l) (hn : l.length = n) : w.ownsRow base 3 1 (.slice (some ⟨g, 0, none⟩) n cap) n (intV l) := by
  subst hn; exact h
theorem RowI.of {w : World} {base n : Nat} {v : Value} {l : List Int} (h : w.ownsRow base 3 1 v n (intV l)) (hn : l.length = n) (hv : v ≠ .slice none 0 0) : ∃ g cap, v = .slice (some ⟨g, 0, none⟩) n cap ∧ RowI w base g cap l := by
  subst hn; exact rowI_of h hv
theorem RowI.news {w : World} {base g cap : Nat} {l : List Int} (h : RowI w base g cap l) (k : Nat) : ∀ j u, (intV (l.drop k))[j]? = some u → w.cell? ((⟨g, k, none⟩ : Addr).add j) = some u := by
  intro j u hu
  have hj : k + j < l.length := by
    have := (List.getElem?_eq_some_iff.1 hu).1
    rw [intV_len, List.length_drop] at this; omega
  rw [Addr.add_lit, h.cell (k + j) hj]
  rw [← hu, intV, List.getElem?_map, List.getElem?_drop, List.getElem?_eq_getElem hj]; rfl
theorem IntsIn.news {w : World} {g : Nat} {l : List Int} (h : IntsIn w (some ⟨g, 0, none⟩) l) : ∀ j u, (intV l)[j]? = some u → w.cell? ((⟨g, 0, none⟩ : Addr).add j) = some u := by
  intro j u hu
  have hj : j < l.length := by
    have := (List.getElem?_eq_some_iff.1 hu).1
    rwa [intV_len] at this
  obtain ⟨g', e, _, hc⟩ := h j hj
  cases e
  rw [add_own, hc, ← hu, intV, List.getElem?_map, List.getElem?_eq_getElem hj]; rfl
set_option maxRecDepth 100000 in
set_option maxHeartbeats 400000 in
theorem copy_ints (g cap : Nat) (zs : List Int) (w : World) (hI : IntsIn w (some ⟨g, 0, none⟩) zs) (hn : zs.length ≤ 17592186044415) :
    Calls Try.prog 72 #[.slice (some ⟨g, 0, none⟩) zs.length cap] w fun e w' => ∃ g1 c1, e = .returned (.slice (some ⟨g1, 0, none⟩) zs.length c1) ∧ RowI w' w.heap.size g1 c1 zs ∧ Below w.heap.size w w' := by
  obtain ⟨i0, hi0, hz0, hz1, hz2⟩ := info_parts int_info
  have hb0 := (Below.refl w.heap.size w).alloc (Nat.le_refl _) (.cells #[] 3)
  have HN := Lib.hid (hI.below hb0).news; clear hI
  have HB := Lib.hid hb0; clear hb0
  go_enter Try.func72, Try.ntmps72
  go_wp2_with (at_builtin; refine wpList_append_own _ rfl _ _ 42 rfl w.heap.size 3 i0 (.int .i64 0) 1 8 Try.underlying42 hi0 hz0 hz1 hz2 rfl (by decide) _ _ _ rfl (World.ownsRow_made w #[] 0 (Nat.le_refl _) (Nat.zero_le _) rfl) ⟨g, 0, none⟩ zs.length cap (intV zs) rfl ?qc1 ?qc2 ?qc3 ?qc4 ?qc5 ?qc6 ?_)
  case qc1 => rw [intV_len]; omega
  case qc2 => exact HN.out
  case qc3 => exact one_int zs
  case qc4 => unfold maxLen; omega
  case qc5 => omega
  case qc6 => simp
  intro v' w1 hown hgrow hnil
  have ho : OwnI w1 w.heap.size v' zs := by unfold OwnI; simpa using hown
  obtain ⟨g1, c1, rfl, hr⟩ := rowI_of ho hnil
  have HR := Lib.hid hr
  have hb := HB.out.grown hgrow (by simp) (by intro k hk; simp [Value.ownBlock] at hk; omega)
  clear ho hr hown hnil hgrow
  go_wp2
  go_ret
  exact ⟨g1, c1, rfl, HR.out, hb⟩
theorem int_news (wr : World) (s : Int) : ∀ j u, (intV [s])[j]? = some u → (wr.alloc (.cells #[.int .i64 s] 3)).cell? ((⟨wr.heap.size, 0, none⟩ : Addr).add j) = some u := by
  intro j u h
  cases j with
  | zero =>
    have hn : (wr.alloc (.cells #[.int .i64 s] 3)).heap[wr.heap.size]? = some (.cells #[.int .i64 s] 3 (0, 0)) := heap_alloc_new wr _
    rw [Addr.add_lit, Nat.zero_add, cell_of_row _ _ 0 _ _ _ hn]
    simpa [intV] using h
  | succ j => simp [intV] at h
theorem ownI_new (w : World) : OwnI (w.alloc (.cells #[] 3)) w.heap.size (.slice (some ⟨w.heap.size, 0, none⟩) 0 0) [] :=
  World.ownsRow_made w #[] 0 (Nat.le_refl _) (Nat.zero_le _) rfl
theorem ownI_push {w : World} {base n : Nat} {v : Value} {l : List Int} {x : Int} (h : w.ownsRow base 3 1 v (n + 1) (intV l ++ intV [x])) (hn : l.length = n) : OwnI w base v (l ++ [x]) := by
  unfold OwnI; rw [intV_app, List.length_append, hn]; exact h
end Go.Proofs.Ytadcmngooobeiaa

/- The draws of parcels, valid or not. -/
import Derived.Test.YtichnpjpldkceaaDrawS
namespace Go.Proofs.Ytichnpjpldkceaa
open Go.RowKit
theorem own_store {w : World} {base S n cap : Nat} {l : List Int} (h : OwnI w base (.slice (some ⟨S, 0, none⟩) n cap) l) (k : Nat) (u : Int) : OwnI (w.setCell ⟨S, k, none⟩ (.int .i64 u)) base (.slice (some ⟨S, 0, none⟩) n cap) (l.set k u) := by
  rcases h.2 with ⟨e, _⟩ | ⟨g', c, cur, e, h1, h2, h3, h4, h5, h6⟩
  · simp at e
  · simp only [Value.slice.injEq, Option.some.injEq, Addr.mk.injEq] at e
    obtain ⟨⟨rfl, _, _⟩, rfl, rfl⟩ := e
    have hm : intV (l.set k u) = (intV l).set k (.int .i64 u) := by simp [intV, List.map_set]
    refine ⟨by rw [intV_len, List.length_set]; omega, .inr ⟨S, cap, _, by rw [List.length_set], h1, heap_set h2 k (.int .i64 u), by rw [List.length_set]; exact h3, h4, by simpa using h5, ?_⟩⟩
    rw [hm, ← h6, List.length_set, Array.toList_setIfInBounds, List.take_set]
theorem three_ok {x y z : Int} (h : i64B x ∧ i64B y ∧ i64B z) : ∀ u ∈ [x, y, z], i64B u := by
  intro u hu
  simp only [List.mem_cons, List.not_mem_nil, or_false] at hu
  rcases hu with rfl | rfl | rfl
  · exact h.1
  · exact h.2.1
  · exact h.2.2
theorem own_free {w : World} {base S n cap : Nat} {l : List Int} (h : OwnI w base (.slice (some ⟨S, 0, none⟩) n cap) l) (k : Nat) : w.frozen? ⟨S, k, none⟩ = false := by
  rcases h.2 with ⟨e, _⟩ | ⟨g', c, cur, e, h1, h2, _⟩
  · simp at e
  · simp only [Value.slice.injEq, Option.some.injEq, Addr.mk.injEq] at e
    obtain ⟨⟨rfl, _, _⟩, _, _⟩ := e
    exact frozen_of_row w S k _ _ h2
theorem set_ok {l : List Int} {k : Nat} {q : Int} (h : ∀ u ∈ l, i64B u) (hq : i64B q) : ∀ u ∈ l.set k q, i64B u := by
  intro u hu
  rcases List.mem_or_eq_of_mem_set hu with h' | rfl
  · exact h u h'
  · exact hq
theorem five_news (w : World) : ∀ j u, (intV [5])[j]? = some u → (w.alloc (.cells #[.int .i64 5] 3)).cell? ((⟨w.heap.size, 0, none⟩ : Addr).add j) = some u := by
  intro j u h
  have hn : (w.alloc (.cells #[.int .i64 5] 3)).heap[w.heap.size]? = some (.cells #[.int .i64 5] 3 (0, 0)) := heap_alloc_new w _
  rw [Addr.add_lit, Nat.zero_add, cell_of_row _ _ j _ _ _ hn, ← h]
  exact List.getElem?_toArray
theorem five_one : ∀ u ∈ intV [5], u.oneCell' = true := by
  intro u hu
  simp only [intV, List.map_cons, List.map_nil, List.mem_cons, List.not_mem_nil, or_false] at hu
  rw [hu]; rfl
theorem four_ok {x y z : Int} (h : ∀ u ∈ [x, y, z], i64B u) : ∀ u ∈ [x, y, z, 5], i64B u := by
  intro u hu
  simp only [List.mem_cons, List.not_mem_nil, or_false] at hu
  rcases hu with rfl | rfl | rfl | rfl
  · exact h _ (by simp)
  · exact h _ (by simp)
  · exact h _ (by simp)
  · unfold i64B; omega
/-- a parcel with short texts, numbers that are ints and sides of the call's own -/
def PcA (w : World) (base : Nat) (e : Ending) : Prop := ∃ (a b : Int) (t f : ByteArray) (wt : Int) (sv : Value) (l : List Int) (v : Int), e = .returned (.agg #[.int .i64 a, .int .i64 b, .string t, .string f, .int .i64 wt, sv, .int .i64 v]) ∧
  (i64B a ∧ i64B b ∧ t.size ≤ 64 ∧ f.size ≤ 64 ∧ i64B wt ∧ i64B v ∧ (∀ x ∈ l, i64B x) ∧ l.length ≤ 4) ∧ OwnI w base sv l
set_option maxRecDepth 100000 in
set_option maxHeartbeats 1000000 in
theorem int_at (g m b : Nat) (W : World) (cs : Array Value) (T : TypeId) (hc : CurOK W g) (hblk : W.heap[b]? = some (.cells cs T (0, 0))) (hne : b ≠ g) (hm : cs.size = m) (hm0 : 0 < m) (hm1 : m ≤ 1000) (hok : cs.toList.all okInt = true) :
    Calls Try.prog 106 #[.pointer (some ⟨g, 0, none⟩), .slice (some ⟨b, 0, none⟩) m m] W fun e w' => (∃ x : Int, i64B x ∧ e = .returned (.int .i64 x)) ∧ CurOK w' g ∧ W.grownBy w' (some g) := by
  have HC := Lib.hid hc; clear hc
  have HBK := Lib.hid hblk; clear hblk
  go_enter Try.func106, Try.ntmps106
  go_wp2_with fail
  refine (below_any g m _ (by omega) HC.out).mono ?_; rintro e w1 ⟨⟨x, hx0, hx1, _, rfl⟩, hc1, ho1⟩
  have hxm := hx1 (by omega)
  obtain ⟨k, rfl⟩ := Int.eq_ofNat_of_zero_le hx0
  clear hx0 hx1
  have hk : k < cs.size := by omega
  have hkm : k < m := by omega
  have hcell : w1.cell? ⟨b, k, none⟩ = some (cs[k]) := by
    rw [cell_of_row w1 b k cs T (0, 0) (row_only HBK.out ho1 hne)]
    exact Array.getElem?_eq_getElem hk
  have hmem : okInt cs[k] = true := by
    rw [List.all_eq_true] at hok
    exact hok _ (by simp)
  have H1 := Lib.hid hc1; clear hc1 hok
  match hv : cs[k], hmem with
  | .int .i64 y, hmem =>
    rw [hv] at hcell
    have hy : i64B y := by unfold i64B; simpa [okInt] using hmem
    have HY := Lib.hid hy
    clear hmem hv hy
    go_wp2
    go_ret
    exact ⟨⟨y, HY.out, rfl⟩, H1.out, ho1⟩
theorem heap_drew {w : World} {b : Nat} {o : Obj} (h : w.heap[b]? = some o) : w.drew.heap[b]? = some o := h
theorem cur_drew {w : World} {g : Nat} (h : CurOK w g) : CurOK w.drew g := h.keepB ((Below.refl _ _).drew)
theorem only_drew (w : World) (g : Nat) : w.grownBy w.drew (some g) := only_of_below ((Below.refl _ _).drew) g
set_option maxRecDepth 100000 in
set_option maxHeartbeats 8000000 in
theorem any_parcel_draw (g : Nat) (w : World) (hc : CurOK w g) :
    Calls Try.prog 61 #[.pointer (some ⟨g, 0, none⟩)] w fun e w' => PcA w' w.heap.size e ∧ CurOK w' g ∧ w.grownBy w' (some g) := by
  have hgl := hc.lt
  have hb0 := heap_alloc_new w (.cells #[.int .i64 0, .int .i64 0, .string ⟨#[]⟩, .string ⟨#[]⟩, .int .i64 0, .slice none 0 0, .int .i64 0] 35)
  have HC := Lib.hid (hc.alloc (.cells #[.int .i64 0, .int .i64 0, .string ⟨#[]⟩, .string ⟨#[]⟩, .int .i64 0, .slice none 0 0, .int .i64 0] 35)); clear hc
  have ho0 := only_alloc (only_refl w (some g)) (.cells #[.int .i64 0, .int .i64 0, .string ⟨#[]⟩, .string ⟨#[]⟩, .int .i64 0, .slice none 0 0, .int .i64 0] 35)
  obtain ⟨i0, hif, hz0i, hz1i, hz2i⟩ := info_parts int_info
  go_enter Try.func61, Try.ntmps61
  go_wp2_with fail
  have hne : w.heap.size ≠ g := by omega
  have hBl := row_lt hb0
  generalize hB : w.heap.size = B at *
  generalize w.alloc (.cells #[.int .i64 0, .int .i64 0, .string ⟨#[]⟩, .string ⟨#[]⟩, .int .i64 0, .slice none 0 0, .int .i64 0] 35) = W at *
  refine (parcel_draw g _ HC.out).mono ?_; rintro e w1 ⟨⟨a, b, s, f, wt, S, x, y, z, v, rfl, hok, hO⟩, hc1, ho1⟩
  have HK := Lib.hid hok; clear hok
  have hb1 := row_only hb0 ho1 hne
  replace ho1 := only_trans ho0 ho1
  have hSB : (Value.slice (some ⟨S, 0, none⟩) 3 3).ownBlock ≠ some B := fun e => by have e' : S = B := Option.some.inj e; have := (World.ownsRow.lt hO S rfl).1; omega
  have hSg : (Value.slice (some ⟨S, 0, none⟩) 3 3).ownBlock ≠ some g := fun e => by have e' : S = g := Option.some.inj e; have := (World.ownsRow.lt hO S rfl).1; omega
  have hSl := World.ownsRow.lt hO S rfl
  have hz1 := ho1.size
  have hO1 := Lib.hid ((OwnI.mono hO (show w.heap.size ≤ W.heap.size by omega)))
  have hO2 := Lib.hid (World.ownsRow.alloc hO1.out (.cells #[.int .i64 a, .int .i64 b, .string s, .string f, .int .i64 wt, .slice (some ⟨S, 0, none⟩) 3 3, .int .i64 v] 35))
  have H2 := Lib.hid (hc1.alloc (.cells #[.int .i64 a, .int .i64 b, .string s, .string f, .int .i64 wt, .slice (some ⟨S, 0, none⟩) 3 3, .int .i64 v] 35))
  have hb2 := row_alloc hb1 (.cells #[.int .i64 a, .int .i64 b, .string s, .string f, .int .i64 wt, .slice (some ⟨S, 0, none⟩) 3 3, .int .i64 v] 35)
  have hC2 := heap_alloc_new w1 (.cells #[.int .i64 a, .int .i64 b, .string s, .string f, .int .i64 wt, .slice (some ⟨S, 0, none⟩) 3 3, .int .i64 v] 35)
  have ho2 := only_alloc ho1 (.cells #[.int .i64 a, .int .i64 b, .string s, .string f, .int .i64 wt, .slice (some ⟨S, 0, none⟩) 3 3, .int .i64 v] 35)
  have hB1 := row_lt hb1
  clear hO hO1 hc1 hb1 ho1 hb0 ho0
  go_wp2_with fail
  have hgB : g < B := by omega
  have hwB : w.heap.size ≤ B := by omega
  have hgC' : w1.heap.size ≠ g := by omega
  have hgC : g < w1.heap.size := by omega
  have hwC : w.heap.size ≤ w1.heap.size := hz1
  have hSC : (Value.slice (some ⟨S, 0, none⟩) 3 3).ownBlock ≠ some w1.heap.size := fun e => by have e' : S = w1.heap.size := Option.some.inj e; omega
  generalize w1.alloc (.cells #[.int .i64 a, .int .i64 b, .string s, .string f, .int .i64 wt, .slice (some ⟨S, 0, none⟩) 3 3, .int .i64 v] 35) = W2 at *
  generalize hCC : w1.heap.size = C at *
  refine (below_any g 9 _ (by omega) H2.out).mono ?_; rintro e w3 ⟨⟨i, hi0, hi1, _, rfl⟩, hc3, ho3⟩
  have hi9 := hi1 (by omega)
  have hO3 := Lib.hid (World.ownsRow.kept hO2.out ho3 (.inr hSg))
  have H3 := Lib.hid hc3; clear hc3 hi1
  have hb3 := row_only hb2 ho3 hne
  have hC3 := row_only hC2 ho3 hgC'
  replace ho3 := only_trans ho2 ho3
  clear hb2 hC2 ho2 H2 hO2
  have HL3 := Lib.hid (three_ok HK.out.2.2.2.2.2.2)
  have hcs : i = 0 ∨ i = 1 ∨ i = 2 ∨ i = 3 ∨ i = 4 ∨ i = 5 ∨ 5 < i := by omega
  rcases hcs with h | h | h | h | h | h | h
  · subst h
    go_wp2_with fail
    refine (odd_draw g _ H3.out).mono ?_; rintro e w4 ⟨⟨q, hq, rfl⟩, hc4, ho4⟩
    have HQ := Lib.hid hq; clear hq
    have H4 := Lib.hid hc4; clear hc4
    have hO4 := Lib.hid (World.ownsRow.kept hO3.out ho4 (.inr hSg))
    have hb4 := row_only hb3 ho4 hne
    have hC4 := row_only hC3 ho4 hgC'
    replace ho4 := only_trans ho3 ho4
    clear hb3 hC3 ho3 H3 hO3
    obtain ⟨⟨c0, c1, c2, c3, c4, c5, c6⟩, k0, k1, k2, k3, k4, k5, k6⟩ := cells7 hb4
    obtain ⟨⟨d0, d1, d2, d3, d4, d5, d6⟩, l0, l1, l2, l3, l4, l5, l6⟩ := cells7 hC4
    go_wp2
    exact bodyPost_ret (v := .agg #[.int .i64 a, .int .i64 b, .string s, .string f, .int .i64 q, .slice (some ⟨S, 0, none⟩) 3 3, .int .i64 v]) (by simp [results, Try.results61, go_sem, c0, c1, c2, c3, c4, c5, c6]) rfl
      ⟨⟨a, b, s, f, q, _, [x, y, z], v, rfl, ⟨HK.out.1, HK.out.2.1, HK.out.2.2.1, HK.out.2.2.2.1, HQ.out, HK.out.2.2.2.2.2.1, HL3.out, by simp⟩, (own_set (own_set (own_set (own_set (own_set (own_set (own_set (own_set hO4.out hSC) hSB) hSB) hSB) hSB) hSB) hSB) hSB)⟩, ((((((((H4.out.set hgC _).set hgB _).set hgB _).set hgB _).set hgB _).set hgB _).set hgB _).set hgB _), (only_new (only_new (only_new (only_new (only_new (only_new (only_new (only_new ho4 hwC _) hwB _) hwB _) hwB _) hwB _) hwB _) hwB _) hwB _)⟩
  · subst h
    obtain ⟨⟨c0, c1, c2, c3, c4, c5, c6⟩, k0, k1, k2, k3, k4, k5, k6⟩ := cells7 hb3
    obtain ⟨⟨d0, d1, d2, d3, d4, d5, d6⟩, l0, l1, l2, l3, l4, l5, l6⟩ := cells7 hC3
    have H3d := Lib.hid (cur_drew H3.out)
    have hd := only_drew w3 g
    have hz3 := ho3.size
    have hw3 := row_lt hC3
    go_wp2_with fail
    clear c0 c1 c2 c3 c4 c5 c6 k0 k1 k2 k3 k4 k5 k6 d0 d1 d2 d3 d4 d6 l0 l1 l2 l3 l4 l5 l6
    go_region_with (first
      | (go_at_call 64; refine (below_any g 3 _ (by omega) ?_).mono ?_; (focus (first | exact H3d.out | exact cur_drew (H3.out.alloc _))); (rintro e u ⟨⟨k, hk0, hk1, _, rfl⟩, hcu, hou⟩); (have hk3 := hk1 (by omega)); (obtain ⟨kn, rfl⟩ := Int.eq_ofNat_of_zero_le hk0); (have hkn : kn < 3 := by omega); clear hk0 hk1; (first | (have hu := only_trans hd hou) | ((have hu := only_trans (only_trans (only_alloc (only_refl w3 (some g)) _) (only_drew _ g)) hou); (have hLu := row_only (heap_drew (heap_alloc_new w3 _)) hou (show w3.heap.size ≠ g by omega)))); (have HU := Lib.hid hcu); (have hCu := row_lt (row_only hC3 hu hgC')); (have hCun : ¬ u.heap.size = C := by omega); clear hcu hou; (have d5u : u.cell? ⟨C, 5, none⟩ = some (.slice (some ⟨S, 0, none⟩) 3 3) := by rw [cell_of_row _ C 5 _ _ _ (row_only hC3 hu hgC')]; rfl))
      | (go_at_call 106; (first | (with_reducible refine Calls.mono (int_at g 5 _ _ _ _ (HU.out.alloc _) (heap_alloc_new _ _) ?_ ?_ ?_ ?_ ?_) ?_) | (with_reducible refine Calls.mono (int_at g 5 _ _ _ _ HU.out hLu ?_ ?_ ?_ ?_ ?_) ?_)); (focus (have := HU.out.lt; omega)); (focus rfl); (focus omega); (focus omega); (focus decide); (rintro e u2 ⟨⟨q, hq, rfl⟩, hc5, hou2⟩); (first | (have hu2 := by with_reducible exact only_trans hu hou2) | (have hu2 := only_trans (only_alloc hu _) hou2)); (have HQ := Lib.hid hq); (have H5 := Lib.hid hc5); clear hq hc5 hou2; (have d5v : u2.cell? ⟨C, 5, none⟩ = some (.slice (some ⟨S, 0, none⟩) 3 3) := by rw [cell_of_row _ C 5 _ _ _ (row_only hC3 hu2 hgC')]; rfl); (have hO5 := Lib.hid (World.ownsRow.kept hO3.out hu2 (.inr hSg))); (have e0 := OwnI.cell (l := [x, y, z]) hO5.out kn hkn); (have e1 := own_free hO5.out kn)))
    all_goals
      have hb5 := row_only hb3 hu2 hne
      have hC5 := row_only hC3 hu2 hgC'
      have ho5 := only_trans ho3 hu2
      clear d5 d5u d5v e0 e1 hb3 hC3
      obtain ⟨⟨c0, c1, c2, c3, c4, c5, c6⟩, k0, k1, k2, k3, k4, k5, k6⟩ := cells7 hb5
      obtain ⟨⟨d0, d1, d2, d3, d4, d5, d6⟩, l0, l1, l2, l3, l4, l5, l6⟩ := cells7 hC5
      have hSBn : ¬ S = B := by omega
      have hSCn : ¬ S = C := by omega
      have hgS : g < S := by omega
      have hwS : w.heap.size ≤ S := by omega
      go_wp2
      exact bodyPost_ret (v := .agg #[.int .i64 a, .int .i64 b, .string s, .string f, .int .i64 wt, .slice (some ⟨S, 0, none⟩) 3 3, .int .i64 v]) (by simp [results, Try.results61, go_sem, c0, c1, c2, c3, c4, c5, c6]) rfl
        ⟨⟨a, b, s, f, wt, _, [x, y, z].set kn q, v, rfl, ⟨HK.out.1, HK.out.2.1, HK.out.2.2.1, HK.out.2.2.2.1, HK.out.2.2.2.2.1, HK.out.2.2.2.2.2.1, set_ok HL3.out HQ.out, by simp⟩, (own_set (own_set (own_set (own_set (own_set (own_set (own_set (own_store hO5.out kn q) hSB) hSB) hSB) hSB) hSB) hSB) hSB)⟩, ((((((((H5.out.set hgS _).set hgB _).set hgB _).set hgB _).set hgB _).set hgB _).set hgB _).set hgB _), (only_new (only_new (only_new (only_new (only_new (only_new (only_new (only_new ho5 hwS _) hwB _) hwB _) hwB _) hwB _) hwB _) hwB _) hwB _)⟩
  · subst h
    obtain ⟨⟨c0, c1, c2, c3, c4, c5, c6⟩, k0, k1, k2, k3, k4, k5, k6⟩ := cells7 hb3
    obtain ⟨⟨d0, d1, d2, d3, d4, d5, d6⟩, l0, l1, l2, l3, l4, l5, l6⟩ := cells7 hC3
    have hO4 := World.ownsRow.alloc hO3.out (.cells #[.int .i64 5] 3)
    have ho4 := only_alloc ho3 (.cells #[.int .i64 5] 3)
    have hc4 := H3.out.alloc (.cells #[.int .i64 5] 3)
    have hb4 := row_alloc hb3 (.cells #[.int .i64 5] 3)
    have hC4 := row_alloc hC3 (.cells #[.int .i64 5] 3)
    have hnw := five_news w3
    have hsz := ho4.size
    have hm : [x, y, z].length + 1 ≤ maxLen := by unfold maxLen; simp
    have hm2 : ([x, y, z].length + 1) * 8 ≤ 140737488355328 := by simp
    have hW4 := row_lt hC4
    have HX := Lib.hid (And.intro hO4 (And.intro ho4 hc4))
    clear hO4 ho4 hc4
    go_wp2_with (at_builtin; refine wpList_append_own_at _ rfl (.tmp 26) (.tmp 27) 24 rfl w.heap.size 3 i0 (.int .i64 0) 1 8 ?h1 ?h2 ?h3 ?h4 ?h5 ?h6 ?h7 (.slice (some ⟨S, 0, none⟩) 3 3) 3 (intV [x, y, z]) ?hs ?hown ⟨w3.heap.size, 0, none⟩ 1 1 (intV [5]) ?hx ?hl ?hnews ?hone ?h63 ?hby ?hbase ?h; exact Try.underlying24; exact hif; exact hz0i; exact hz1i; exact hz2i; rfl; omega; rfl; exact HX.out.1; rfl; rfl; exact hnw; exact five_one; exact hm; exact hm2; exact hsz; intro v' w5 hown' hg' _ hob; (obtain ⟨A', cap', rfl⟩ := OwnI.opens (show OwnI w5 w.heap.size v' [x, y, z, 5] from hown')); (replace hg' : World.grownBy _ w5 (some S) := hg'); (have hob' : (Value.slice A' [x, y, z, 5].length cap').ownBlock = some S ∨ (Value.slice A' [x, y, z, 5].length cap').ownBlock = some (w3.alloc (.cells #[.int .i64 5] 3)).heap.size := hob); (have hVC : (Value.slice A' [x, y, z, 5].length cap').ownBlock ≠ some C := fun e => by rcases hob' with h | h <;> (rw [h] at e; have e' := Option.some.inj e; omega)); (have hVB : (Value.slice A' [x, y, z, 5].length cap').ownBlock ≠ some B := fun e => by rcases hob' with h | h <;> (rw [h] at e; have e' := Option.some.inj e; omega)); (have hb5 := row_only hb4 hg' (by omega)); (have hC5 := row_only hC4 hg' (by omega)); (have ho5 := only_own HX.out.2.1 hg' (fun x e => by have e' : S = x := Option.some.inj e; omega)); (have H5 := Lib.hid (HX.out.2.2.keepB (below_own hg' (by omega) (fun x e => by have e' : S = x := Option.some.inj e; omega)))); (clear c0 c1 c2 c3 c4 c5 c6 k0 k1 k2 k3 k4 k5 k6 d0 d1 d2 d3 d4 d5 d6 l0 l1 l2 l3 l4 l5 l6 hb4 hC4 hb3 hC3); (obtain ⟨⟨c0, c1, c2, c3, c4, c5, c6⟩, k0, k1, k2, k3, k4, k5, k6⟩ := cells7 hb5); (obtain ⟨⟨d0, d1, d2, d3, d4, d5, d6⟩, l0, l1, l2, l3, l4, l5, l6⟩ := cells7 hC5))
    exact bodyPost_ret (v := .agg #[.int .i64 a, .int .i64 b, .string s, .string f, .int .i64 wt, .slice A' 4 cap', .int .i64 v]) (by simp [results, Try.results61, go_sem, c0, c1, c2, c3, c4, c5, c6]) rfl
      ⟨⟨a, b, s, f, wt, _, [x, y, z, 5], v, rfl, ⟨HK.out.1, HK.out.2.1, HK.out.2.2.1, HK.out.2.2.2.1, HK.out.2.2.2.2.1, HK.out.2.2.2.2.2.1, four_ok HL3.out, by simp⟩, (own_set (own_set (own_set (own_set (own_set (own_set (own_set (own_set (show OwnI w5 w.heap.size (.slice A' 4 cap') [x, y, z, 5] from hown') hVC) hVB) hVB) hVB) hVB) hVB) hVB) hVB)⟩, ((((((((H5.out.set hgC _).set hgB _).set hgB _).set hgB _).set hgB _).set hgB _).set hgB _).set hgB _), (only_new (only_new (only_new (only_new (only_new (only_new (only_new (only_new ho5 hwC _) hwB _) hwB _) hwB _) hwB _) hwB _) hwB _) hwB _)⟩
  · subst h
    go_wp2_with fail
    refine (int_new g 3 _ _ _ H3.out rfl (by omega) (by omega) (by decide)).mono ?_; rintro e w4 ⟨⟨q, hq, rfl⟩, hc4, ho4⟩
    have HQ := Lib.hid hq; clear hq
    have H4 := Lib.hid hc4; clear hc4
    have hO4 := Lib.hid (World.ownsRow.kept hO3.out ho4 (.inr hSg))
    have hb4 := row_only hb3 ho4 hne
    have hC4 := row_only hC3 ho4 hgC'
    replace ho4 := only_trans ho3 ho4
    clear hb3 hC3 ho3 H3 hO3
    obtain ⟨⟨c0, c1, c2, c3, c4, c5, c6⟩, k0, k1, k2, k3, k4, k5, k6⟩ := cells7 hb4
    obtain ⟨⟨d0, d1, d2, d3, d4, d5, d6⟩, l0, l1, l2, l3, l4, l5, l6⟩ := cells7 hC4
    go_wp2
    exact bodyPost_ret (v := .agg #[.int .i64 a, .int .i64 b, .string s, .string f, .int .i64 wt, .slice (some ⟨S, 0, none⟩) 3 3, .int .i64 q]) (by simp [results, Try.results61, go_sem, c0, c1, c2, c3, c4, c5, c6]) rfl
      ⟨⟨a, b, s, f, wt, _, [x, y, z], q, rfl, ⟨HK.out.1, HK.out.2.1, HK.out.2.2.1, HK.out.2.2.2.1, HK.out.2.2.2.2.1, HQ.out, HL3.out, by simp⟩, (own_set (own_set (own_set (own_set (own_set (own_set (own_set (own_set hO4.out hSC) hSB) hSB) hSB) hSB) hSB) hSB) hSB)⟩, ((((((((H4.out.set hgC _).set hgB _).set hgB _).set hgB _).set hgB _).set hgB _).set hgB _).set hgB _), (only_new (only_new (only_new (only_new (only_new (only_new (only_new (only_new ho4 hwC _) hwB _) hwB _) hwB _) hwB _) hwB _) hwB _) hwB _)⟩
  · subst h
    obtain ⟨⟨c0, c1, c2, c3, c4, c5, c6⟩, k0, k1, k2, k3, k4, k5, k6⟩ := cells7 hb3
    obtain ⟨⟨d0, d1, d2, d3, d4, d5, d6⟩, l0, l1, l2, l3, l4, l5, l6⟩ := cells7 hC3
    have hts := HK.out.2.2.1
    go_wp2_with fail
    clear c0 c1 c2 c3 c4 c5 c6 k0 k1 k2 k3 k4 k5 k6 d0 d1 d2 d3 d4 d5 d6 l0 l1 l2 l3 l4 l5 l6
    refine (str_new g 3 _ _ _ H3.out rfl (by omega) (by omega) (by simp [okStr, hts]; exact ⟨show 0 ≤ 64 by omega, show 2 ≤ 64 by omega⟩)).mono ?_; rintro e w4 ⟨⟨q, hq, rfl⟩, hc4, ho4⟩
    have HQ := Lib.hid hq; clear hq hts
    have H4 := Lib.hid hc4; clear hc4
    have hO4 := Lib.hid (World.ownsRow.kept hO3.out ho4 (.inr hSg))
    have hb4 := row_only hb3 ho4 hne
    have hC4 := row_only hC3 ho4 hgC'
    replace ho4 := only_trans ho3 ho4
    clear hb3 hC3 ho3 H3 hO3
    obtain ⟨⟨c0, c1, c2, c3, c4, c5, c6⟩, k0, k1, k2, k3, k4, k5, k6⟩ := cells7 hb4
    obtain ⟨⟨d0, d1, d2, d3, d4, d5, d6⟩, l0, l1, l2, l3, l4, l5, l6⟩ := cells7 hC4
    go_wp2
    exact bodyPost_ret (v := .agg #[.int .i64 a, .int .i64 b, .string s, .string q, .int .i64 wt, .slice (some ⟨S, 0, none⟩) 3 3, .int .i64 v]) (by simp [results, Try.results61, go_sem, c0, c1, c2, c3, c4, c5, c6]) rfl
      ⟨⟨a, b, s, q, wt, _, [x, y, z], v, rfl, ⟨HK.out.1, HK.out.2.1, HK.out.2.2.1, HQ.out, HK.out.2.2.2.2.1, HK.out.2.2.2.2.2.1, HL3.out, by simp⟩, (own_set (own_set (own_set (own_set (own_set (own_set (own_set (own_set hO4.out hSC) hSB) hSB) hSB) hSB) hSB) hSB) hSB)⟩, ((((((((H4.out.set hgC _).set hgB _).set hgB _).set hgB _).set hgB _).set hgB _).set hgB _).set hgB _), (only_new (only_new (only_new (only_new (only_new (only_new (only_new (only_new ho4 hwC _) hwB _) hwB _) hwB _) hwB _) hwB _) hwB _) hwB _)⟩
  · subst h
    go_wp2_with fail
    refine (any_label_draw g _ H3.out).mono ?_; rintro e w4 ⟨⟨a', b', s', ha', hb', hs', rfl⟩, hc4, ho4⟩
    have HQ := Lib.hid (And.intro ha' (And.intro hb' hs')); clear ha' hb' hs'
    have H4 := Lib.hid hc4; clear hc4
    have hO4 := Lib.hid (World.ownsRow.kept hO3.out ho4 (.inr hSg))
    have hb4 := row_only hb3 ho4 hne
    have hC4 := row_only hC3 ho4 hgC'
    replace ho4 := only_trans ho3 ho4
    clear hb3 hC3 ho3 H3 hO3
    obtain ⟨⟨c0, c1, c2, c3, c4, c5, c6⟩, k0, k1, k2, k3, k4, k5, k6⟩ := cells7 hb4
    obtain ⟨⟨d0, d1, d2, d3, d4, d5, d6⟩, l0, l1, l2, l3, l4, l5, l6⟩ := cells7 hC4
    go_wp2
    exact bodyPost_ret (v := .agg #[.int .i64 a', .int .i64 b', .string s', .string f, .int .i64 wt, .slice (some ⟨S, 0, none⟩) 3 3, .int .i64 v]) (by simp [results, Try.results61, go_sem, c0, c1, c2, c3, c4, c5, c6]) rfl
      ⟨⟨a', b', s', f, wt, _, [x, y, z], v, rfl, ⟨HQ.out.1, HQ.out.2.1, HQ.out.2.2, HK.out.2.2.2.1, HK.out.2.2.2.2.1, HK.out.2.2.2.2.2.1, HL3.out, by simp⟩, (own_set (own_set (own_set (own_set (own_set (own_set (own_set (own_set (own_set (own_set hO4.out hSC) hSC) hSC) hSB) hSB) hSB) hSB) hSB) hSB) hSB)⟩, ((((((((((H4.out.set hgC _).set hgC _).set hgC _).set hgB _).set hgB _).set hgB _).set hgB _).set hgB _).set hgB _).set hgB _), (only_new (only_new (only_new (only_new (only_new (only_new (only_new (only_new (only_new (only_new ho4 hwC _) hwC _) hwC _) hwB _) hwB _) hwB _) hwB _) hwB _) hwB _) hwB _)⟩
  · have q0 : (i == 0) = false := by simp; omega
    have q1 : (i == 1) = false := by simp; omega
    have q2 : (i == 2) = false := by simp; omega
    have q3 : (i == 3) = false := by simp; omega
    have q4 : (i == 4) = false := by simp; omega
    have q5 : (i == 5) = false := by simp; omega
    obtain ⟨⟨c0, c1, c2, c3, c4, c5, c6⟩, k0, k1, k2, k3, k4, k5, k6⟩ := cells7 hb3
    obtain ⟨⟨d0, d1, d2, d3, d4, d5, d6⟩, l0, l1, l2, l3, l4, l5, l6⟩ := cells7 hC3
    go_wp2
    exact bodyPost_ret (v := .agg #[.int .i64 a, .int .i64 b, .string s, .string f, .int .i64 wt, .slice (some ⟨S, 0, none⟩) 3 3, .int .i64 v]) (by simp [results, Try.results61, go_sem, c0, c1, c2, c3, c4, c5, c6]) rfl
      ⟨⟨a, b, s, f, wt, _, [x, y, z], v, rfl, ⟨HK.out.1, HK.out.2.1, HK.out.2.2.1, HK.out.2.2.2.1, HK.out.2.2.2.2.1, HK.out.2.2.2.2.2.1, HL3.out, by simp⟩, (own_set (own_set (own_set (own_set (own_set (own_set (own_set hO3.out hSB) hSB) hSB) hSB) hSB) hSB) hSB)⟩, (((((((H3.out.set hgB _).set hgB _).set hgB _).set hgB _).set hgB _).set hgB _).set hgB _), (only_new (only_new (only_new (only_new (only_new (only_new (only_new ho3 hwB _) hwB _) hwB _) hwB _) hwB _) hwB _) hwB _)⟩
end Go.Proofs.Ytichnpjpldkceaa

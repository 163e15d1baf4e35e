/- The draws of sides. -/
import Derived.Test.YtichnpjpldkceaaDrawL
import Derived.Test.YtichnpjpldkceaaDrawZ2
import Derived.Test.YtichnpjpldkceaaInts
namespace Go.Proofs.Ytichnpjpldkceaa
open Go.RowKit
theorem ints_lit {w : World} {base g : Nat} (l : List Int) (h : w.heap[g]? = some (.cells (intV l).toArray 3 (0, 0))) (hb : base ≤ g) (hl : l.length ≤ 64) :
    OwnI w base (.slice (some ⟨g, 0, none⟩) l.length l.length) l := by
  have hl2 := intV_len l
  exact ⟨by rw [hl2]; omega, .inr ⟨g, l.length, _, rfl, hb, h, Nat.le_refl _, by unfold maxLen; omega, by rw [List.size_toArray, hl2]; omega, by show List.take (l.length * 1) (intV l) = _; rw [Nat.mul_one, ← hl2, List.take_length]⟩⟩
/-- a slice of ints of the call's own -/
def SidV (w : World) (base : Nat) (m : Nat) (v : Value) : Prop := ∃ (l : List Int), OwnI w base v l ∧ l.length ≤ m ∧ ∀ x ∈ l, i64B x
set_option maxRecDepth 100000 in
set_option maxHeartbeats 1000000 in
theorem sides_draw (g : Nat) (w : World) (hc : CurOK w g) :
    Calls Try.prog 62 #[.pointer (some ⟨g, 0, none⟩)] w fun e w' => (∃ A : Nat, ∃ a b c : Int, e = .returned (.slice (some ⟨A, 0, none⟩) 3 3) ∧ OwnI w' w.heap.size (.slice (some ⟨A, 0, none⟩) 3 3) [a, b, c] ∧ (1 ≤ a ∧ a ≤ 600) ∧ (1 ≤ b ∧ b ≤ 400) ∧ (1 ≤ c ∧ c ≤ 300)) ∧ CurOK w' g ∧ w.grownBy w' (some g) := by
  have HC := Lib.hid hc; clear hc
  go_enter Try.func62, Try.ntmps62
  go_wp2_with fail
  refine (below_any g 600 _ (by omega) HC.out).mono ?_; rintro e w1 ⟨⟨x, hx0, hx1, _, rfl⟩, hc1, ho1⟩
  have hx2 := hx1 (by omega)
  clear hx1
  have H1 := Lib.hid hc1; clear hc1
  go_wp2_with fail
  refine (below_any g 400 _ (by omega) H1.out).mono ?_; rintro e w2 ⟨⟨y, hy0, hy1, _, rfl⟩, hc2, ho2⟩
  have hy2 := hy1 (by omega)
  clear hy1
  have H2 := Lib.hid hc2; clear hc2
  go_wp2_with fail
  refine (below_any g 300 _ (by omega) H2.out).mono ?_; rintro e w3 ⟨⟨z, hz0, hz1, _, rfl⟩, hc3, ho3⟩
  have hz2 := hz1 (by omega)
  clear hz1
  have H3 := Lib.hid hc3; clear hc3
  have HO := Lib.hid (only_trans ho1 (only_trans ho2 ho3))
  clear ho1 ho2 ho3
  go_wp2
  go_ret
  exact ⟨⟨_, 1 + x, 1 + y, 1 + z, rfl, ints_lit [1 + x, 1 + y, 1 + z] (heap_alloc_new w3 _) HO.out.size (by simp), by omega, by omega, by omega⟩, H3.out.alloc _, only_alloc HO.out _⟩
theorem cells7 {W : World} {b : Nat} {x0 x1 x2 x3 x4 x5 x6 : Value} {T : TypeId} (h : W.heap[b]? = some (.cells #[x0, x1, x2, x3, x4, x5, x6] T (0, 0))) :
    (W.cell? ⟨b, 0, none⟩ = some x0 ∧ W.cell? ⟨b, 1, none⟩ = some x1 ∧ W.cell? ⟨b, 2, none⟩ = some x2 ∧ W.cell? ⟨b, 3, none⟩ = some x3 ∧ W.cell? ⟨b, 4, none⟩ = some x4 ∧ W.cell? ⟨b, 5, none⟩ = some x5 ∧ W.cell? ⟨b, 6, none⟩ = some x6) ∧ (W.frozen? ⟨b, 0, none⟩ = false ∧ W.frozen? ⟨b, 1, none⟩ = false ∧ W.frozen? ⟨b, 2, none⟩ = false ∧ W.frozen? ⟨b, 3, none⟩ = false ∧ W.frozen? ⟨b, 4, none⟩ = false ∧ W.frozen? ⟨b, 5, none⟩ = false ∧ W.frozen? ⟨b, 6, none⟩ = false) := by
  refine ⟨⟨?_, ?_, ?_, ?_, ?_, ?_, ?_⟩, frozen_of_row W b 0 _ _ h, frozen_of_row W b 1 _ _ h, frozen_of_row W b 2 _ _ h, frozen_of_row W b 3 _ _ h, frozen_of_row W b 4 _ _ h, frozen_of_row W b 5 _ _ h, frozen_of_row W b 6 _ _ h⟩
  all_goals rw [cell_of_row W b _ _ _ _ h]; rfl
theorem row_only {W W' : World} {b g : Nat} {o : Obj} (h : W.heap[b]? = some o) (ho : W.grownBy W' (some g)) (hn : b ≠ g) : W'.heap[b]? = some o :=
  (ho.block b (Array.getElem?_eq_some_iff.1 h).1 (fun e => by injection e with e; exact hn e)).trans h
theorem row_alloc {W : World} {b : Nat} {o : Obj} (h : W.heap[b]? = some o) (o' : Obj) : (W.alloc o').heap[b]? = some o := (Below.heap_alloc W o' b (Array.getElem?_eq_some_iff.1 h).1).trans h
theorem row_set {W : World} {b g k : Nat} {o : Obj} (h : W.heap[b]? = some o) (hn : b ≠ g) (v : Value) : (W.setCell ⟨g, k, none⟩ v).heap[b]? = some o := (Below.heap_setCell W ⟨g, k, none⟩ v b hn).trans h
theorem row_lt {W : World} {b : Nat} {o : Obj} (h : W.heap[b]? = some o) : b < W.heap.size := (Array.getElem?_eq_some_iff.1 h).1
theorem own_set {w : World} {base g o k n : Nat} {T : TypeId} {v u : Value} {xs : List Value} (h : w.ownsRow base T k v n xs) (hg : v.ownBlock ≠ some g) : (w.setCell ⟨g, o, none⟩ u).ownsRow base T k v n xs :=
  World.ownsRow.kept h (only_set w g o u) (.inr hg)
/-- a parcel with short texts, numbers that are ints and three sides of the call's own -/
def PcV (w : World) (base : Nat) (e : Ending) : Prop := ∃ (a b : Int) (t f : ByteArray) (wt : Int) (S : Nat) (x y z v : Int), e = .returned (.agg #[.int .i64 a, .int .i64 b, .string t, .string f, .int .i64 wt, .slice (some ⟨S, 0, none⟩) 3 3, .int .i64 v]) ∧
  (i64B a ∧ i64B b ∧ t.size ≤ 64 ∧ f.size ≤ 64 ∧ i64B wt ∧ i64B v ∧ i64B x ∧ i64B y ∧ i64B z) ∧ OwnI w base (.slice (some ⟨S, 0, none⟩) 3 3) [x, y, z]
set_option maxRecDepth 100000 in
set_option maxHeartbeats 1000000 in
theorem parcel_draw (g : Nat) (w : World) (hc : CurOK w g) :
    Calls Try.prog 104 #[.pointer (some ⟨g, 0, none⟩)] w fun e w' => PcV w' w.heap.size e ∧ CurOK w' g ∧ w.grownBy w' (some g) := by
  have hgl := hc.lt
  have hb0 := heap_alloc_new w (.cells #[.int .i64 0, .int .i64 0, .string ⟨#[]⟩, .string ⟨#[]⟩, .int .i64 0, .slice none 0 0, .int .i64 0] 35)
  have HC := Lib.hid (hc.alloc (.cells #[.int .i64 0, .int .i64 0, .string ⟨#[]⟩, .string ⟨#[]⟩, .int .i64 0, .slice none 0 0, .int .i64 0] 35)); clear hc
  have ho0 := only_alloc (only_refl w (some g)) (.cells #[.int .i64 0, .int .i64 0, .string ⟨#[]⟩, .string ⟨#[]⟩, .int .i64 0, .slice none 0 0, .int .i64 0] 35)
  go_enter Try.func104, Try.ntmps104
  go_wp2_with fail
  have hne : w.heap.size ≠ g := by omega
  have hBl := row_lt hb0
  generalize hB : w.heap.size = B at *
  generalize w.alloc (.cells #[.int .i64 0, .int .i64 0, .string ⟨#[]⟩, .string ⟨#[]⟩, .int .i64 0, .slice none 0 0, .int .i64 0] 35) = W at *
  refine (label_draw g _ HC.out).mono ?_; rintro e w1 ⟨⟨a, b, s, ha, hb, hs, rfl⟩, hc1, ho1⟩
  have H1 := Lib.hid hc1; clear hc1
  have hb1 := row_only hb0 ho1 hne
  replace ho1 := only_trans ho0 ho1
  clear hb0 ho0
  go_wp2_with fail
  refine (place_draw g _ H1.out).mono ?_; rintro e w2 ⟨⟨f, hf, rfl⟩, hc2, ho2⟩
  have H2 := Lib.hid hc2; clear hc2
  have hb2 := row_only hb1 ho2 hne
  replace ho2 := only_trans ho1 ho2
  clear hb1 ho1
  go_wp2_with fail
  refine (below_any g 30000 _ (by omega) H2.out).mono ?_; rintro e w3 ⟨⟨x, hx0, hx1, _, rfl⟩, hc3, ho3⟩
  have hx2 := hx1 (by omega)
  have H3 := Lib.hid hc3; clear hc3 hx1
  have hb3 := row_only hb2 ho3 hne
  replace ho3 := only_trans ho2 ho3
  clear hb2 ho2
  have hz3 := ho3.size
  go_wp2_with fail
  refine (sides_draw g _ H3.out).mono ?_; rintro e w4 ⟨⟨S, p, q, r, rfl, hO, hp, hq, hr⟩, hc4, ho4⟩
  have H4 := Lib.hid hc4; clear hc4
  have hO4 := Lib.hid (OwnI.mono hO hz3)
  have hSB : w3.heap.size ≤ S := (World.ownsRow.lt hO S rfl).1
  have hb4 := row_only hb3 ho4 hne
  have hB3 := row_lt hb3
  replace ho4 := only_trans ho3 ho4
  clear hb3 ho3 hO
  go_wp2_with fail
  refine (below_any g 500001 _ (by omega) H4.out).mono ?_; rintro e w5 ⟨⟨v, hv0, hv1, _, rfl⟩, hc5, ho5⟩
  have hv2 := hv1 (by omega)
  have H5 := Lib.hid hc5; clear hc5 hv1
  have hSg : S ≠ g := by omega
  have HO5 := Lib.hid (World.ownsRow.kept hO4.out ho5 (.inr (fun e => by injection e with e; exact hSg e)))
  have hb5 := row_only hb4 ho5 hne
  replace ho5 := only_trans ho4 ho5
  clear hb4 ho4 hO4
  have HAB := Lib.hid (And.intro ha hb)
  have hSw5 : S < w5.heap.size := (World.ownsRow.lt HO5.out S rfl).2
  have hB5 := row_lt hb5
  have hz5 := ho5.size
  clear ha hb H1 H2 H3 H4 HC
  have hSB : (Value.slice (some ⟨S, 0, none⟩) 3 3).ownBlock ≠ some B := fun e => by have e' : S = B := Option.some.inj e; omega
  have hgB : g < B := by omega
  have hwB : w.heap.size ≤ B := by omega
  by_cases hfs : f.toList = s.toList
  · have q1 : (f.toList == s.toList) = true := by simpa using hfs
    clear hfs
    have hb6 := row_alloc hb5 (.cells #[.int .i64 a, .int .i64 b, .string s, .string ⟨#[79, 83, 76]⟩, .int .i64 (1 + x), .slice (some ⟨S, 0, none⟩) 3 3, .int .i64 v] 35)
    have hC6 := heap_alloc_new w5 (.cells #[.int .i64 a, .int .i64 b, .string s, .string ⟨#[79, 83, 76]⟩, .int .i64 (1 + x), .slice (some ⟨S, 0, none⟩) 3 3, .int .i64 v] 35)
    have ho6 := only_alloc ho5 (.cells #[.int .i64 a, .int .i64 b, .string s, .string ⟨#[79, 83, 76]⟩, .int .i64 (1 + x), .slice (some ⟨S, 0, none⟩) 3 3, .int .i64 v] 35)
    have H6 := Lib.hid (H5.out.alloc (.cells #[.int .i64 a, .int .i64 b, .string s, .string ⟨#[79, 83, 76]⟩, .int .i64 (1 + x), .slice (some ⟨S, 0, none⟩) 3 3, .int .i64 v] 35))
    have HO6 := Lib.hid (World.ownsRow.alloc HO5.out (.cells #[.int .i64 a, .int .i64 b, .string s, .string ⟨#[79, 83, 76]⟩, .int .i64 (1 + x), .slice (some ⟨S, 0, none⟩) 3 3, .int .i64 v] 35))
    clear hb5 ho5 H5 HO5
    go_wp2_with fail
    have hgC' : w5.heap.size ≠ g := by omega
    have hgC : g < w5.heap.size := by omega
    have hwC : w.heap.size ≤ w5.heap.size := hz5
    have hSC : (Value.slice (some ⟨S, 0, none⟩) 3 3).ownBlock ≠ some w5.heap.size := fun e => by have e' : S = w5.heap.size := Option.some.inj e; omega
    generalize w5.alloc (.cells #[.int .i64 a, .int .i64 b, .string s, .string ⟨#[79, 83, 76]⟩, .int .i64 (1 + x), .slice (some ⟨S, 0, none⟩) 3 3, .int .i64 v] 35) = W6 at *
    generalize w5.heap.size = C at *
    refine (once_any g 3 _ (by omega) H6.out).mono ?_; rintro e w7 ⟨⟨t, rfl⟩, hc7, ho7⟩
    have H7 := Lib.hid hc7; clear hc7
    have HO7 := Lib.hid (World.ownsRow.kept HO6.out ho7 (.inr (fun e => by injection e with e; exact hSg e)))
    have hb7 := row_only hb6 ho7 hne
    have hC7 := row_only hC6 ho7 hgC'
    replace ho7 := only_trans ho6 ho7
    clear hb6 hC6 ho6 H6 HO6
    cases t with
    | false =>
      obtain ⟨⟨c0, c1, c2, c3, c4, c5, c6⟩, k0, k1, k2, k3, k4, k5, k6⟩ := cells7 hb7
      obtain ⟨⟨d0, d1, d2, d3, d4, d5, d6⟩, l0, l1, l2, l3, l4, l5, l6⟩ := cells7 hC7
      go_wp2
      exact bodyPost_ret (v := .agg #[.int .i64 a, .int .i64 b, .string s, .string ⟨#[79, 83, 76]⟩, .int .i64 (1 + x), .slice (some ⟨S, 0, none⟩) 3 3, .int .i64 v]) (by simp [results, Try.results104, go_sem, c0, c1, c2, c3, c4, c5, c6]) rfl
        ⟨⟨a, b, s, ⟨#[79, 83, 76]⟩, (1 + x), S, p, q, r, v, rfl, ⟨HAB.out.1, HAB.out.2, hs, (show 3 ≤ 64 by omega), by unfold i64B; omega, by unfold i64B; omega, by unfold i64B; omega, by unfold i64B; omega, by unfold i64B; omega⟩, (own_set (own_set (own_set (own_set (own_set (own_set (own_set HO7.out hSB) hSB) hSB) hSB) hSB) hSB) hSB)⟩, (((((((H7.out.set hgB _).set hgB _).set hgB _).set hgB _).set hgB _).set hgB _).set hgB _), (only_new (only_new (only_new (only_new (only_new (only_new (only_new ho7 hwB _) hwB _) hwB _) hwB _) hwB _) hwB _) hwB _)⟩
    | true =>
      go_wp2_with fail
      refine (int_new g 6 _ _ _ H7.out rfl (by omega) (by omega) (by decide)).mono ?_; rintro e w8 ⟨⟨y, hy, rfl⟩, hc8, ho8⟩
      have HY := Lib.hid hy; clear hy
      have H8 := Lib.hid hc8; clear hc8
      have HO8 := Lib.hid (World.ownsRow.kept HO7.out ho8 (.inr (fun e => by injection e with e; exact hSg e)))
      have hb8 := row_only hb7 ho8 hne
      have hC8 := row_only hC7 ho8 hgC'
      replace ho8 := only_trans ho7 ho8
      clear hb7 hC7 ho7 H7 HO7
      obtain ⟨⟨c0, c1, c2, c3, c4, c5, c6⟩, k0, k1, k2, k3, k4, k5, k6⟩ := cells7 hb8
      obtain ⟨⟨d0, d1, d2, d3, d4, d5, d6⟩, l0, l1, l2, l3, l4, l5, l6⟩ := cells7 hC8
      go_wp2
      exact bodyPost_ret (v := .agg #[.int .i64 a, .int .i64 b, .string s, .string ⟨#[79, 83, 76]⟩, .int .i64 y, .slice (some ⟨S, 0, none⟩) 3 3, .int .i64 v]) (by simp [results, Try.results104, go_sem, c0, c1, c2, c3, c4, c5, c6]) rfl
        ⟨⟨a, b, s, ⟨#[79, 83, 76]⟩, y, S, p, q, r, v, rfl, ⟨HAB.out.1, HAB.out.2, hs, (show 3 ≤ 64 by omega), HY.out, by unfold i64B; omega, by unfold i64B; omega, by unfold i64B; omega, by unfold i64B; omega⟩, (own_set (own_set (own_set (own_set (own_set (own_set (own_set (own_set HO8.out hSC) hSB) hSB) hSB) hSB) hSB) hSB) hSB)⟩, ((((((((H8.out.set hgC _).set hgB _).set hgB _).set hgB _).set hgB _).set hgB _).set hgB _).set hgB _), (only_new (only_new (only_new (only_new (only_new (only_new (only_new (only_new ho8 hwC _) hwB _) hwB _) hwB _) hwB _) hwB _) hwB _) hwB _)⟩
  · have q1 : (f.toList == s.toList) = false := by simpa using hfs
    clear hfs
    have hb6 := row_alloc hb5 (.cells #[.int .i64 a, .int .i64 b, .string s, .string f, .int .i64 (1 + x), .slice (some ⟨S, 0, none⟩) 3 3, .int .i64 v] 35)
    have hC6 := heap_alloc_new w5 (.cells #[.int .i64 a, .int .i64 b, .string s, .string f, .int .i64 (1 + x), .slice (some ⟨S, 0, none⟩) 3 3, .int .i64 v] 35)
    have ho6 := only_alloc ho5 (.cells #[.int .i64 a, .int .i64 b, .string s, .string f, .int .i64 (1 + x), .slice (some ⟨S, 0, none⟩) 3 3, .int .i64 v] 35)
    have H6 := Lib.hid (H5.out.alloc (.cells #[.int .i64 a, .int .i64 b, .string s, .string f, .int .i64 (1 + x), .slice (some ⟨S, 0, none⟩) 3 3, .int .i64 v] 35))
    have HO6 := Lib.hid (World.ownsRow.alloc HO5.out (.cells #[.int .i64 a, .int .i64 b, .string s, .string f, .int .i64 (1 + x), .slice (some ⟨S, 0, none⟩) 3 3, .int .i64 v] 35))
    clear hb5 ho5 H5 HO5
    go_wp2_with fail
    have hgC' : w5.heap.size ≠ g := by omega
    have hgC : g < w5.heap.size := by omega
    have hwC : w.heap.size ≤ w5.heap.size := hz5
    have hSC : (Value.slice (some ⟨S, 0, none⟩) 3 3).ownBlock ≠ some w5.heap.size := fun e => by have e' : S = w5.heap.size := Option.some.inj e; omega
    generalize w5.alloc (.cells #[.int .i64 a, .int .i64 b, .string s, .string f, .int .i64 (1 + x), .slice (some ⟨S, 0, none⟩) 3 3, .int .i64 v] 35) = W6 at *
    generalize w5.heap.size = C at *
    refine (once_any g 3 _ (by omega) H6.out).mono ?_; rintro e w7 ⟨⟨t, rfl⟩, hc7, ho7⟩
    have H7 := Lib.hid hc7; clear hc7
    have HO7 := Lib.hid (World.ownsRow.kept HO6.out ho7 (.inr (fun e => by injection e with e; exact hSg e)))
    have hb7 := row_only hb6 ho7 hne
    have hC7 := row_only hC6 ho7 hgC'
    replace ho7 := only_trans ho6 ho7
    clear hb6 hC6 ho6 H6 HO6
    cases t with
    | false =>
      obtain ⟨⟨c0, c1, c2, c3, c4, c5, c6⟩, k0, k1, k2, k3, k4, k5, k6⟩ := cells7 hb7
      obtain ⟨⟨d0, d1, d2, d3, d4, d5, d6⟩, l0, l1, l2, l3, l4, l5, l6⟩ := cells7 hC7
      go_wp2
      exact bodyPost_ret (v := .agg #[.int .i64 a, .int .i64 b, .string s, .string f, .int .i64 (1 + x), .slice (some ⟨S, 0, none⟩) 3 3, .int .i64 v]) (by simp [results, Try.results104, go_sem, c0, c1, c2, c3, c4, c5, c6]) rfl
        ⟨⟨a, b, s, f, (1 + x), S, p, q, r, v, rfl, ⟨HAB.out.1, HAB.out.2, hs, hf, by unfold i64B; omega, by unfold i64B; omega, by unfold i64B; omega, by unfold i64B; omega, by unfold i64B; omega⟩, (own_set (own_set (own_set (own_set (own_set (own_set (own_set HO7.out hSB) hSB) hSB) hSB) hSB) hSB) hSB)⟩, (((((((H7.out.set hgB _).set hgB _).set hgB _).set hgB _).set hgB _).set hgB _).set hgB _), (only_new (only_new (only_new (only_new (only_new (only_new (only_new ho7 hwB _) hwB _) hwB _) hwB _) hwB _) hwB _) hwB _)⟩
    | true =>
      go_wp2_with fail
      refine (int_new g 6 _ _ _ H7.out rfl (by omega) (by omega) (by decide)).mono ?_; rintro e w8 ⟨⟨y, hy, rfl⟩, hc8, ho8⟩
      have HY := Lib.hid hy; clear hy
      have H8 := Lib.hid hc8; clear hc8
      have HO8 := Lib.hid (World.ownsRow.kept HO7.out ho8 (.inr (fun e => by injection e with e; exact hSg e)))
      have hb8 := row_only hb7 ho8 hne
      have hC8 := row_only hC7 ho8 hgC'
      replace ho8 := only_trans ho7 ho8
      clear hb7 hC7 ho7 H7 HO7
      obtain ⟨⟨c0, c1, c2, c3, c4, c5, c6⟩, k0, k1, k2, k3, k4, k5, k6⟩ := cells7 hb8
      obtain ⟨⟨d0, d1, d2, d3, d4, d5, d6⟩, l0, l1, l2, l3, l4, l5, l6⟩ := cells7 hC8
      go_wp2
      exact bodyPost_ret (v := .agg #[.int .i64 a, .int .i64 b, .string s, .string f, .int .i64 y, .slice (some ⟨S, 0, none⟩) 3 3, .int .i64 v]) (by simp [results, Try.results104, go_sem, c0, c1, c2, c3, c4, c5, c6]) rfl
        ⟨⟨a, b, s, f, y, S, p, q, r, v, rfl, ⟨HAB.out.1, HAB.out.2, hs, hf, HY.out, by unfold i64B; omega, by unfold i64B; omega, by unfold i64B; omega, by unfold i64B; omega⟩, (own_set (own_set (own_set (own_set (own_set (own_set (own_set (own_set HO8.out hSC) hSB) hSB) hSB) hSB) hSB) hSB) hSB)⟩, ((((((((H8.out.set hgC _).set hgB _).set hgB _).set hgB _).set hgB _).set hgB _).set hgB _).set hgB _), (only_new (only_new (only_new (only_new (only_new (only_new (only_new (only_new ho8 hwC _) hwB _) hwB _) hwB _) hwB _) hwB _) hwB _) hwB _)⟩
end Go.Proofs.Ytichnpjpldkceaa

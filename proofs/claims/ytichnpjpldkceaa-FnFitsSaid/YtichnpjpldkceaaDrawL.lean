/- The draws of labels. -/
import Derived.Test.YtichnpjpldkceaaDraw
namespace Go.Proofs.Ytichnpjpldkceaa
open Go.RowKit
def BoxW (W : World) (b : Nat) (x y : Int) (s : ByteArray) : Prop := W.heap[b]? = some (.cells #[.int .i64 x, .int .i64 y, .string s] 33 (0, 0))
theorem BoxW.cells {W : World} {b : Nat} {x y : Int} {s : ByteArray} (h : BoxW W b x y s) :
    W.cell? ⟨b, 0, none⟩ = some (.int .i64 x) ∧ W.cell? ⟨b, 1, none⟩ = some (.int .i64 y) ∧ W.cell? ⟨b, 2, none⟩ = some (.string s) ∧ W.frozen? ⟨b, 0, none⟩ = false ∧ W.frozen? ⟨b, 1, none⟩ = false ∧ W.frozen? ⟨b, 2, none⟩ = false := by
  refine ⟨?_, ?_, ?_, frozen_of_row W b 0 _ _ h, frozen_of_row W b 1 _ _ h, frozen_of_row W b 2 _ _ h⟩
  all_goals rw [cell_of_row W b _ _ _ _ h]; rfl
theorem BoxW.lt {W : World} {b : Nat} {x y : Int} {s : ByteArray} (h : BoxW W b x y s) : b < W.heap.size := (Array.getElem?_eq_some_iff.1 h).1
theorem BoxW.only {W W' : World} {b g : Nat} {x y : Int} {s : ByteArray} (h : BoxW W b x y s) (ho : W.grownBy W' (some g)) (hn : b ≠ g) : BoxW W' b x y s :=
  (ho.block b h.lt (fun e => by injection e with e; exact hn e)).trans h
theorem BoxW.alloc {W : World} {b : Nat} {x y : Int} {s : ByteArray} (h : BoxW W b x y s) (o : Obj) : BoxW (W.alloc o) b x y s := (Below.heap_alloc W o b h.lt).trans h
theorem BoxW.new (w : World) (x y : Int) (s : ByteArray) : BoxW (w.alloc (.cells #[.int .i64 x, .int .i64 y, .string s] 33)) w.heap.size x y s := heap_alloc_new w _
def LabV (e : Ending) : Prop := ∃ (a b : Int) (s : ByteArray), i64B a ∧ i64B b ∧ s.size ≤ 64 ∧ e = .returned (.agg #[.int .i64 a, .int .i64 b, .string s])
set_option maxRecDepth 100000 in
set_option maxHeartbeats 1000000 in
theorem label_draw (g : Nat) (w : World) (hc : CurOK w g) :
    Calls Try.prog 135 #[.pointer (some ⟨g, 0, none⟩)] w fun e w' => LabV e ∧ CurOK w' g ∧ w.grownBy w' (some g) := by
  have hgl := hc.lt
  have hb0 := BoxW.new w 0 0 ⟨#[]⟩
  have HC := Lib.hid (hc.alloc (.cells #[.int .i64 0, .int .i64 0, .string ⟨#[]⟩] 33)); clear hc
  have ho0 := only_alloc (only_refl w (some g)) (.cells #[.int .i64 0, .int .i64 0, .string ⟨#[]⟩] 33)
  go_enter Try.func135, Try.ntmps135
  go_wp2_with fail
  have hne : w.heap.size ≠ g := by omega
  generalize hB : w.heap.size = B at *
  generalize w.alloc (.cells #[.int .i64 0, .int .i64 0, .string ⟨#[]⟩] 33) = W at *
  refine (below_any g 3 _ (by omega) HC.out).mono ?_; rintro e w1 ⟨⟨x, hx0, hx1, _, rfl⟩, hc1, ho1⟩
  have H1 := Lib.hid hc1; clear hc1
  have hx3 : x ≤ 3 := by have := hx1 (by omega); omega
  clear hx1
  go_wp2_with fail
  refine (below_any g 1000 _ (by omega) H1.out).mono ?_; rintro e w2 ⟨⟨y, hy0, hy1, _, rfl⟩, hc2, ho2⟩
  have H2 := Lib.hid hc2; clear hc2
  have hy3 : y ≤ 1000 := by have := hy1 (by omega); omega
  clear hy1
  go_wp2_with fail
  refine (place_draw g _ H2.out).mono ?_; rintro e w3 ⟨⟨s, hs, rfl⟩, hc3, ho3⟩
  have hg3 := hc3.lt
  have hb3 := ((hb0.only ho1 hne).only ho2 hne).only ho3 hne
  have ho3' := only_trans ho0 (only_trans ho1 (only_trans ho2 ho3))
  have hL := BoxW.new w3 (1 + x) y s
  have hb3a := hb3.alloc (.cells #[.int .i64 (1 + x), .int .i64 y, .string s] 33)
  have ho3a := only_alloc ho3' (.cells #[.int .i64 (1 + x), .int .i64 y, .string s] 33)
  have H3 := Lib.hid (hc3.alloc (.cells #[.int .i64 (1 + x), .int .i64 y, .string s] 33)); clear hc3
  go_wp2_with fail
  have hC := hb3.lt
  have hgC : w3.heap.size ≠ g := by omega
  have hBC : B ≠ w3.heap.size := by omega
  have hgB : g < B := by omega
  have hgC' : g < w3.heap.size := by omega
  have hBw : w.heap.size ≤ B := by omega
  have hCw : w.heap.size ≤ w3.heap.size := ho3'.size
  generalize w3.alloc (.cells #[.int .i64 (1 + x), .int .i64 y, .string s] 33) = W4 at *
  generalize w3.heap.size = C at *
  clear hb0 hb3 ho3 ho3' ho0 ho1 ho2 HC H1 H2
  refine (once_any g 3 _ (by omega) H3.out).mono ?_; rintro e w4 ⟨⟨t, rfl⟩, hc4, ho4⟩
  have hb4 := hb3a.only ho4 hne
  have hL4 := hL.only ho4 hgC
  have ho4' := only_trans ho3a ho4
  have H4 := Lib.hid hc4; clear hc4
  cases t with
  | false =>
    obtain ⟨c0, c1, c2, f0, f1, f2⟩ := hb4.cells
    obtain ⟨d0, d1, d2, e0, e1, e2⟩ := hL4.cells
    go_wp2
    exact bodyPost_ret (v := .agg #[.int .i64 (1 + x), .int .i64 y, .string s]) (by simp [results, Try.results135, go_sem, c0, c1, c2]) rfl
      ⟨⟨1 + x, y, s, by unfold i64B; omega, by unfold i64B; omega, hs, rfl⟩, ((H4.out.set (by exact hgB) _).set (by exact hgB) _).set (by exact hgB) _, only_new (only_new (only_new ho4' (by exact hBw) _) (by exact hBw) _) (by exact hBw) _⟩
  | true =>
    go_wp2_with fail
    refine (int_new g 5 _ _ _ H4.out rfl (by omega) (by omega) (by decide)).mono ?_; rintro e w5 ⟨⟨z, hz, rfl⟩, hc5, ho5⟩
    have HZ := Lib.hid hz; clear hz
    have hb5 := hb4.only ho5 hne
    have hL5 := hL4.only ho5 hgC
    have ho5' := only_trans ho4' ho5
    have H5 := Lib.hid hc5; clear hc5
    obtain ⟨c0, c1, c2, f0, f1, f2⟩ := hb5.cells
    obtain ⟨d0, d1, d2, e0, e1, e2⟩ := hL5.cells
    go_wp2
    exact bodyPost_ret (v := .agg #[.int .i64 (1 + x), .int .i64 z, .string s]) (by simp [results, Try.results135, go_sem, c0, c1, c2]) rfl
      ⟨⟨1 + x, z, s, by unfold i64B; omega, HZ.out, hs, rfl⟩, (((H5.out.set (by exact hgC') _).set (by exact hgB) _).set (by exact hgB) _).set (by exact hgB) _, only_new (only_new (only_new (only_new ho5' (by exact hCw) _) (by exact hBw) _) (by exact hBw) _) (by exact hBw) _⟩
set_option maxRecDepth 100000 in
set_option maxHeartbeats 1000000 in
theorem any_label_draw (g : Nat) (w : World) (hc : CurOK w g) :
    Calls Try.prog 108 #[.pointer (some ⟨g, 0, none⟩)] w fun e w' => LabV e ∧ CurOK w' g ∧ w.grownBy w' (some g) := by
  have hgl := hc.lt
  have hb0 := BoxW.new w 0 0 ⟨#[]⟩
  have HC := Lib.hid (hc.alloc (.cells #[.int .i64 0, .int .i64 0, .string ⟨#[]⟩] 33)); clear hc
  have ho0 := only_alloc (only_refl w (some g)) (.cells #[.int .i64 0, .int .i64 0, .string ⟨#[]⟩] 33)
  go_enter Try.func108, Try.ntmps108
  go_wp2_with fail
  have hne : w.heap.size ≠ g := by omega
  generalize hB : w.heap.size = B at *
  generalize w.alloc (.cells #[.int .i64 0, .int .i64 0, .string ⟨#[]⟩] 33) = W at *
  refine (label_draw g _ HC.out).mono ?_; rintro e w3 ⟨⟨a, b, s, ha, hb, hs, rfl⟩, hc3, ho3⟩
  have HA := Lib.hid ha; have HBB := Lib.hid hb; clear ha hb
  have hg3 := hc3.lt
  have hb3 := hb0.only ho3 hne
  have ho3' := only_trans ho0 ho3
  have hL := BoxW.new w3 a b s
  have hb3a := hb3.alloc (.cells #[.int .i64 a, .int .i64 b, .string s] 33)
  have ho3a := only_alloc ho3' (.cells #[.int .i64 a, .int .i64 b, .string s] 33)
  have H3 := Lib.hid (hc3.alloc (.cells #[.int .i64 a, .int .i64 b, .string s] 33)); clear hc3
  go_wp2_with fail
  have hC := hb3.lt
  have hgC : w3.heap.size ≠ g := by omega
  have hgC' : g < w3.heap.size := by omega
  have hBC : B ≠ w3.heap.size := by omega
  have hgB : g < B := by omega
  have hBw : w.heap.size ≤ B := by omega
  have hCw : w.heap.size ≤ w3.heap.size := ho3'.size
  generalize w3.alloc (.cells #[.int .i64 a, .int .i64 b, .string s] 33) = W4 at *
  generalize w3.heap.size = C at *
  clear hb0 hb3 ho3 ho3' ho0 HC
  refine (below_any g 6 _ (by omega) H3.out).mono ?_; rintro e w4 ⟨⟨x, hx0, hx1, _, rfl⟩, hc4, ho4⟩
  have hx6 := hx1 (by omega)
  clear hx1
  have hb4 := hb3a.only ho4 hne
  have hL4 := hL.only ho4 hgC
  have ho4' := only_trans ho3a ho4
  have H4 := Lib.hid hc4; clear hc4
  have hcs : x = 0 ∨ x = 1 ∨ x = 2 ∨ 2 < x := by omega
  rcases hcs with h | h | h | h
  · subst h
    go_wp2_with fail
    refine (int_new g 4 _ _ _ H4.out rfl (by omega) (by omega) (by decide)).mono ?_; rintro e w5 ⟨⟨z, hz, rfl⟩, hc5, ho5⟩
    have HZ := Lib.hid hz; clear hz
    have hb5 := hb4.only ho5 hne
    have hL5 := hL4.only ho5 hgC
    have ho5' := only_trans ho4' ho5
    have H5 := Lib.hid hc5; clear hc5
    obtain ⟨c0, c1, c2, f0, f1, f2⟩ := hb5.cells
    obtain ⟨d0, d1, d2, e0, e1, e2⟩ := hL5.cells
    go_wp2
    exact bodyPost_ret (v := .agg #[.int .i64 z, .int .i64 b, .string s]) (by simp [results, Try.results108, go_sem, c0, c1, c2]) rfl
      ⟨⟨z, b, s, HZ.out, HBB.out, hs, rfl⟩, (((H5.out.set (by exact hgC') _).set (by exact hgB) _).set (by exact hgB) _).set (by exact hgB) _, only_new (only_new (only_new (only_new ho5' (by exact hCw) _) (by exact hBw) _) (by exact hBw) _) (by exact hBw) _⟩
  · subst h
    go_wp2_with fail
    refine (odd_draw g _ H4.out).mono ?_; rintro e w5 ⟨⟨z, hz, rfl⟩, hc5, ho5⟩
    have HZ := Lib.hid hz; clear hz
    have hb5 := hb4.only ho5 hne
    have hL5 := hL4.only ho5 hgC
    have ho5' := only_trans ho4' ho5
    have H5 := Lib.hid hc5; clear hc5
    obtain ⟨c0, c1, c2, f0, f1, f2⟩ := hb5.cells
    obtain ⟨d0, d1, d2, e0, e1, e2⟩ := hL5.cells
    go_wp2
    exact bodyPost_ret (v := .agg #[.int .i64 a, .int .i64 z, .string s]) (by simp [results, Try.results108, go_sem, c0, c1, c2]) rfl
      ⟨⟨a, z, s, HA.out, HZ.out, hs, rfl⟩, (((H5.out.set (by exact hgC') _).set (by exact hgB) _).set (by exact hgB) _).set (by exact hgB) _, only_new (only_new (only_new (only_new ho5' (by exact hCw) _) (by exact hBw) _) (by exact hBw) _) (by exact hBw) _⟩
  · subst h
    go_wp2_with fail
    refine (str_new g 5 _ _ _ H4.out rfl (by omega) (by omega) (by decide)).mono ?_; rintro e w5 ⟨⟨z, hz, rfl⟩, hc5, ho5⟩
    have HZ := Lib.hid hz; clear hz
    have hb5 := hb4.only ho5 hne
    have hL5 := hL4.only ho5 hgC
    have ho5' := only_trans ho4' ho5
    have H5 := Lib.hid hc5; clear hc5
    obtain ⟨c0, c1, c2, f0, f1, f2⟩ := hb5.cells
    obtain ⟨d0, d1, d2, e0, e1, e2⟩ := hL5.cells
    go_wp2
    exact bodyPost_ret (v := .agg #[.int .i64 a, .int .i64 b, .string z]) (by simp [results, Try.results108, go_sem, c0, c1, c2]) rfl
      ⟨⟨a, b, z, HA.out, HBB.out, HZ.out, rfl⟩, (((H5.out.set (by exact hgC') _).set (by exact hgB) _).set (by exact hgB) _).set (by exact hgB) _, only_new (only_new (only_new (only_new ho5' (by exact hCw) _) (by exact hBw) _) (by exact hBw) _) (by exact hBw) _⟩
  · have q0 : (x == 0) = false := by simp; omega
    have q1 : (x == 1) = false := by simp; omega
    have q2 : (x == 2) = false := by simp; omega
    obtain ⟨c0, c1, c2, f0, f1, f2⟩ := hb4.cells
    obtain ⟨d0, d1, d2, e0, e1, e2⟩ := hL4.cells
    go_wp2
    exact bodyPost_ret (v := .agg #[.int .i64 a, .int .i64 b, .string s]) (by simp [results, Try.results108, go_sem, c0, c1, c2]) rfl
      ⟨⟨a, b, s, HA.out, HBB.out, hs, rfl⟩, ((H4.out.set (by exact hgB) _).set (by exact hgB) _).set (by exact hgB) _, only_new (only_new (only_new ho4' (by exact hBw) _) (by exact hBw) _) (by exact hBw) _⟩
end Go.Proofs.Ytichnpjpldkceaa

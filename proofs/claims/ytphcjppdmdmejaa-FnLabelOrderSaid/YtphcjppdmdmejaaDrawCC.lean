/- The draw of two labels. -/
import Derived.Test.YtphcjppdmdmejaaDrawC
import Derived.RegionTactic
namespace Go.Proofs.Ytphcjppdmdmejaa
open Go.RowKit
theorem BoxW.far {W : World} {b : Nat} {x y : Int} {s : ByteArray} (h : BoxW W b x y s) {p : Addr} (hp : b ≠ p.block) (v : Value) : BoxW (W.setCell p v) b x y s := (Below.heap_setCell W p v b hp).trans h
theorem BoxW.set3 {W : World} {b : Nat} {x y : Int} {s : ByteArray} (h : BoxW W b x y s) (x' y' : Int) (s' : ByteArray) :
    BoxW (((W.setCell ⟨b, 0, none⟩ (.int .i64 x')).setCell ⟨b, 1, none⟩ (.int .i64 y')).setCell ⟨b, 2, none⟩ (.string s')) b x' y' s' := heap_set (heap_set (heap_set h 0 _) 1 _) 2 _
theorem BoxW.set0 {W : World} {b : Nat} {x y : Int} {s : ByteArray} (h : BoxW W b x y s) (x' : Int) : BoxW (W.setCell ⟨b, 0, none⟩ (.int .i64 x')) b x' y s := heap_set h 0 _
theorem below_six {B : Nat} {w W : World} (h : Below B w W) (v1 v2 v3 v4 v5 v6 : Value) :
    Below B w (((((((W.setCell ⟨B, 0, none⟩ v1).setCell ⟨B, 1, none⟩ v2).setCell ⟨B, 2, none⟩ v3).setCell ⟨B + 1, 0, none⟩ v4).setCell ⟨B + 1, 1, none⟩ v5).setCell ⟨B + 1, 2, none⟩ v6).drew) :=
  ((((((h.setCell (p := ⟨B, 0, none⟩) (Nat.le_refl _) v1).setCell (p := ⟨B, 1, none⟩) (Nat.le_refl _) v2).setCell (p := ⟨B, 2, none⟩) (Nat.le_refl _) v3).setCell (p := ⟨B + 1, 0, none⟩) (Nat.le_succ _) v4).setCell (p := ⟨B + 1, 1, none⟩) (Nat.le_succ _) v5).setCell (p := ⟨B + 1, 2, none⟩) (Nat.le_succ _) v6).drew
def LabV2 (e : Ending) : Prop := ∃ (a b : Int) (s : ByteArray) (a' b' : Int) (t : ByteArray), (i64B a ∧ i64B b ∧ s.size ≤ 64) ∧ (i64B a' ∧ i64B b' ∧ t.size ≤ 64) ∧ e = .returned (.tuple #[.agg #[.int .i64 a, .int .i64 b, .string s], .agg #[.int .i64 a', .int .i64 b', .string t]])
set_option maxRecDepth 100000 in
set_option maxHeartbeats 4000000 in
theorem drawCompareLabels_any (A : Option Addr) (n cap : Nat) (w : World) (hn : n ≤ 4096) (hb : BytesIn w A n) :
    Calls Try.prog 11 #[.slice A n cap] w fun e w' => LabV2 e ∧ Below w.heap.size w w' := by
  have hz1 := (BoxW.new w 0 0 ⟨#[]⟩).alloc (.cells #[.int .i64 0, .int .i64 0, .string ⟨#[]⟩] 25)
  have hz2 := BoxW.new (w.alloc (.cells #[.int .i64 0, .int .i64 0, .string ⟨#[]⟩] 25)) 0 0 ⟨#[]⟩
  rw [show (w.alloc (.cells #[.int .i64 0, .int .i64 0, .string ⟨#[]⟩] 25)).heap.size = w.heap.size + 1 from by simp] at hz2
  have hbW := ((Below.refl w.heap.size w).alloc (Nat.le_refl _) (.cells #[.int .i64 0, .int .i64 0, .string ⟨#[]⟩] 25)).alloc (by simp) (.cells #[.int .i64 0, .int .i64 0, .string ⟨#[]⟩] 25)
  have HB := Lib.hid (hb.below hbW); clear hb
  go_enter Try.func11, Try.ntmps11
  go_wp2_with fail
  generalize (w.alloc (.cells #[.int .i64 0, .int .i64 0, .string ⟨#[]⟩] 25)).alloc (.cells #[.int .i64 0, .int .i64 0, .string ⟨#[]⟩] 25) = W at *
  generalize hB : w.heap.size = B at *
  have HBE := Lib.hid hB; clear hB
  have hl1 := hz1.lt
  have hl2 := hz2.lt
  refine (new_any A n cap _ hn HB.out).mono ?_; rintro e w1 ⟨g, rfl, hc1, hgl, hb1⟩
  replace hz1 := hz1.below hb1
  replace hz2 := hz2.below hb1
  have hn1 : B ≠ g := by omega
  have hn2 : B + 1 ≠ g := by omega
  have hbz : Below B w w1 := hbW.trans (hb1.mono (by omega))
  have hgw := hc1.lt
  have H1 := Lib.hid hc1; clear hc1
  have hBg : B ≤ g := by omega
  clear hb1 hbW HB
  go_wp2_with fail
  refine (any_label_draw g _ H1.out).mono ?_; rintro e w2 ⟨⟨a, b, s, ha, hbb, hs, rfl⟩, hc2, ho2⟩
  have hL5 := BoxW.new w2 a b s
  have hq1 := (hz1.only ho2 hn1).alloc (.cells #[.int .i64 a, .int .i64 b, .string s] 25)
  have hq2 := (hz2.only ho2 hn2).alloc (.cells #[.int .i64 a, .int .i64 b, .string s] 25)
  have hsz2 : g < w2.heap.size := hc2.lt
  have hbz2 : Below B w (w2.alloc (.cells #[.int .i64 a, .int .i64 b, .string s] 25)) := (hbz.trans (only_below ho2 (by omega) hBg)).alloc (by have := ho2.size; omega) _
  have hBl : B + 1 < w2.heap.size := by have := ho2.size; omega
  have H2 := Lib.hid (hc2.alloc (.cells #[.int .i64 a, .int .i64 b, .string s] 25)); clear hc2 hbz hz1 hz2 ho2 H1
  have HA := Lib.hid (And.intro ha (And.intro hbb hs)); clear ha hbb hs
  go_wp2_with fail
  generalize w2.alloc (.cells #[.int .i64 a, .int .i64 b, .string s] 25) = W2 at *
  have hCl := hL5.lt
  generalize w2.heap.size = C at *
  have hn3 : C ≠ g := by omega
  refine (any_label_draw g _ H2.out).mono ?_; rintro e w3 ⟨⟨a', b', t, ha, hbb, hs, rfl⟩, hc3, ho3⟩
  have hL6 := BoxW.new w3 a' b' t
  have hr1 := (hq1.only ho3 hn1).alloc (.cells #[.int .i64 a', .int .i64 b', .string t] 25)
  have hr2 := (hq2.only ho3 hn2).alloc (.cells #[.int .i64 a', .int .i64 b', .string t] 25)
  have hr5 := (hL5.only ho3 hn3).alloc (.cells #[.int .i64 a', .int .i64 b', .string t] 25)
  have hsz3 := ho3.size
  have hbz3 : Below B w (w3.alloc (.cells #[.int .i64 a', .int .i64 b', .string t] 25)) := (hbz2.trans (only_below ho3 (by omega) hBg)).alloc (by omega) _
  have H3 := Lib.hid (hc3.alloc (.cells #[.int .i64 a', .int .i64 b', .string t] 25)); clear hc3 hbz2 hq1 hq2 hL5 ho3 H2
  have HA' := Lib.hid (And.intro ha (And.intro hbb hs)); clear ha hbb hs
  go_wp2_with fail
  have hDl := hL6.lt
  generalize w3.alloc (.cells #[.int .i64 a', .int .i64 b', .string t] 25) = W3 at *
  have hCD : C < w3.heap.size := by omega
  generalize w3.heap.size = D at *
  have hn4 : D ≠ g := by omega
  refine (below_any g 4 _ (by omega) H3.out).mono ?_; rintro e w4 ⟨⟨x, hx0, hx1, _, rfl⟩, hc4, ho4⟩
  have hx4 := hx1 (by omega)
  clear hx1
  replace hr1 := hr1.only ho4 hn1
  replace hr2 := hr2.only ho4 hn2
  replace hr5 := hr5.only ho4 hn3
  replace hL6 := hL6.only ho4 hn4
  have hbz4 := hbz3.trans (only_below ho4 (by omega) hBg)
  clear hbz3 H3 hc4 ho4
  have e12 : ¬ B = B + 1 := by omega
  have e1C : ¬ B = C := by omega
  have e2C : ¬ B + 1 = C := by omega
  have e1D : ¬ B = D := by omega
  have e2D : ¬ B + 1 = D := by omega
  have eCD : ¬ C = D := by omega
  have hcs : x = 0 ∨ x = 1 ∨ x = 2 ∨ 2 < x := by omega
  rcases hcs with h | h | h | h
  · subst h
    obtain ⟨c0, c1, c2, _, _, _⟩ := hr5.cells
    obtain ⟨d0, d1, d2, g0, g1, g2⟩ := hL6.cells
    go_wp2_with fail
    have k1 := ((hr1.far (p := ⟨D, 0, none⟩) e1D (.int .i64 a)).far (p := ⟨D, 1, none⟩) e1D (.int .i64 b)).far (p := ⟨D, 2, none⟩) e1D (.string s)
    have k2 := ((hr2.far (p := ⟨D, 0, none⟩) e2D (.int .i64 a)).far (p := ⟨D, 1, none⟩) e2D (.int .i64 b)).far (p := ⟨D, 2, none⟩) e2D (.string s)
    have k5 := ((hr5.far (p := ⟨D, 0, none⟩) eCD (.int .i64 a)).far (p := ⟨D, 1, none⟩) eCD (.int .i64 b)).far (p := ⟨D, 2, none⟩) eCD (.string s)
    have k6 := hL6.set3 a b s
    have kb := ((hbz4.setCell (p := ⟨D, 0, none⟩) (by show B ≤ D; omega) (.int .i64 a)).setCell (p := ⟨D, 1, none⟩) (by show B ≤ D; omega) (.int .i64 b)).setCell (p := ⟨D, 2, none⟩) (by show B ≤ D; omega) (.string s)
    clear c0 c1 c2 d0 d1 d2 g0 g1 g2
    generalize (((w4.setCell ⟨D, 0, none⟩ (.int .i64 a)).setCell ⟨D, 1, none⟩ (.int .i64 b)).setCell ⟨D, 2, none⟩ (.string s)) = W6 at *
    clear hr1 hr2 hr5 hL6 hbz4
    obtain ⟨c0, c1, c2, f0, f1, f2⟩ := k1.cells
    obtain ⟨d0, d1, d2, g0, g1, g2⟩ := k2.cells
    obtain ⟨p0, p1, p2, _, _, _⟩ := k5.cells
    obtain ⟨q0, q1, q2, _, _, _⟩ := k6.cells
    have K1 := Lib.hid k1; have K2 := Lib.hid k2; have KB := Lib.hid kb
    clear k1 k2 k5 k6 kb
    go_region
    all_goals
      go_wp2
      refine bodyPost_ret (v := .tuple #[.agg #[.int .i64 a, .int .i64 b, .string s], .agg #[.int .i64 a, .int .i64 b, .string s]]) (by simp [results, Try.results11, go_sem, c0, c1, c2, d0, d1, d2]) rfl ⟨⟨a, b, s, a, b, s, HA.out, HA.out, rfl⟩, ?_⟩
      rw [HBE.out]
      exact below_six KB.out _ _ _ _ _ _
  · subst h
    obtain ⟨c0, c1, c2, _, _, _⟩ := hr5.cells
    obtain ⟨d0, d1, d2, g0, g1, g2⟩ := hL6.cells
    go_wp2_with fail
    have k1 := ((hr1.far (p := ⟨D, 0, none⟩) e1D (.int .i64 a)).far (p := ⟨D, 1, none⟩) e1D (.int .i64 b)).far (p := ⟨D, 2, none⟩) e1D (.string t)
    have k2 := ((hr2.far (p := ⟨D, 0, none⟩) e2D (.int .i64 a)).far (p := ⟨D, 1, none⟩) e2D (.int .i64 b)).far (p := ⟨D, 2, none⟩) e2D (.string t)
    have k5 := ((hr5.far (p := ⟨D, 0, none⟩) eCD (.int .i64 a)).far (p := ⟨D, 1, none⟩) eCD (.int .i64 b)).far (p := ⟨D, 2, none⟩) eCD (.string t)
    have k6 := hL6.set3 a b t
    have kb := ((hbz4.setCell (p := ⟨D, 0, none⟩) (by show B ≤ D; omega) (.int .i64 a)).setCell (p := ⟨D, 1, none⟩) (by show B ≤ D; omega) (.int .i64 b)).setCell (p := ⟨D, 2, none⟩) (by show B ≤ D; omega) (.string t)
    clear c0 c1 c2 d0 d1 d2 g0 g1 g2
    generalize (((w4.setCell ⟨D, 0, none⟩ (.int .i64 a)).setCell ⟨D, 1, none⟩ (.int .i64 b)).setCell ⟨D, 2, none⟩ (.string t)) = W6 at *
    clear hr1 hr2 hr5 hL6 hbz4
    obtain ⟨c0, c1, c2, f0, f1, f2⟩ := k1.cells
    obtain ⟨d0, d1, d2, g0, g1, g2⟩ := k2.cells
    obtain ⟨p0, p1, p2, _, _, _⟩ := k5.cells
    obtain ⟨q0, q1, q2, _, _, _⟩ := k6.cells
    have K1 := Lib.hid k1; have K2 := Lib.hid k2; have KB := Lib.hid kb
    clear k1 k2 k5 k6 kb
    go_region
    all_goals
      go_wp2
      refine bodyPost_ret (v := .tuple #[.agg #[.int .i64 a, .int .i64 b, .string s], .agg #[.int .i64 a, .int .i64 b, .string t]]) (by simp [results, Try.results11, go_sem, c0, c1, c2, d0, d1, d2]) rfl ⟨⟨a, b, s, a, b, t, HA.out, ⟨HA.out.1, HA.out.2.1, HA'.out.2.2⟩, rfl⟩, ?_⟩
      rw [HBE.out]
      exact below_six KB.out _ _ _ _ _ _
  · subst h
    obtain ⟨c0, c1, c2, _, _, _⟩ := hr5.cells
    obtain ⟨d0, d1, d2, g0, g1, g2⟩ := hL6.cells
    go_wp2_with fail
    have k1 := hr1.far (p := ⟨D, 0, none⟩) e1D (.int .i64 a)
    have k2 := hr2.far (p := ⟨D, 0, none⟩) e2D (.int .i64 a)
    have k5 := hr5.far (p := ⟨D, 0, none⟩) eCD (.int .i64 a)
    have k6 := hL6.set0 a
    have kb := hbz4.setCell (p := ⟨D, 0, none⟩) (by show B ≤ D; omega) (.int .i64 a)
    clear c0 c1 c2 d0 d1 d2 g0 g1 g2
    generalize w4.setCell ⟨D, 0, none⟩ (.int .i64 a) = W6 at *
    clear hr1 hr2 hr5 hL6 hbz4
    obtain ⟨c0, c1, c2, f0, f1, f2⟩ := k1.cells
    obtain ⟨d0, d1, d2, g0, g1, g2⟩ := k2.cells
    obtain ⟨p0, p1, p2, _, _, _⟩ := k5.cells
    obtain ⟨q0, q1, q2, _, _, _⟩ := k6.cells
    have K1 := Lib.hid k1; have K2 := Lib.hid k2; have KB := Lib.hid kb
    clear k1 k2 k5 k6 kb
    go_region
    all_goals
      go_wp2
      refine bodyPost_ret (v := .tuple #[.agg #[.int .i64 a, .int .i64 b, .string s], .agg #[.int .i64 a, .int .i64 b', .string t]]) (by simp [results, Try.results11, go_sem, c0, c1, c2, d0, d1, d2]) rfl ⟨⟨a, b, s, a, b', t, HA.out, ⟨HA.out.1, HA'.out.2.1, HA'.out.2.2⟩, rfl⟩, ?_⟩
      rw [HBE.out]
      exact below_six KB.out _ _ _ _ _ _
  · have y0 : (x == 0) = false := by simp; omega
    have y1 : (x == 1) = false := by simp; omega
    have y2 : (x == 2) = false := by simp; omega
    go_wp2_with fail
    have k1 := hr1; have k2 := hr2; have k5 := hr5; have k6 := hL6; have kb := hbz4
    clear hr1 hr2 hr5 hL6 hbz4
    obtain ⟨c0, c1, c2, f0, f1, f2⟩ := k1.cells
    obtain ⟨d0, d1, d2, g0, g1, g2⟩ := k2.cells
    obtain ⟨p0, p1, p2, _, _, _⟩ := k5.cells
    obtain ⟨q0, q1, q2, _, _, _⟩ := k6.cells
    have K1 := Lib.hid k1; have K2 := Lib.hid k2; have KB := Lib.hid kb
    clear k1 k2 k5 k6 kb
    go_region
    all_goals
      go_wp2
      refine bodyPost_ret (v := .tuple #[.agg #[.int .i64 a, .int .i64 b, .string s], .agg #[.int .i64 a', .int .i64 b', .string t]]) (by simp [results, Try.results11, go_sem, c0, c1, c2, d0, d1, d2]) rfl ⟨⟨a, b, s, a', b', t, HA.out, HA'.out, rfl⟩, ?_⟩
      rw [HBE.out]
      exact below_six KB.out _ _ _ _ _ _
end Go.Proofs.Ytphcjppdmdmejaa

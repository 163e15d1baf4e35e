/- The walk of the law on the order of labels. -/
import Derived.Test.YtphcjppdmdmejaaDrawCC
import Derived.Test.YtphcjppdmdmejaaOrd
import Derived.Test.YtphcjppdmdmejaaCmp2
import Derived.Test.YtphcjppdmdmejaaBig
import Derived.Test.YtphcjppdmdmejaaOpenB
namespace Go.Proofs.Ytphcjppdmdmejaa.fnLabelOrder
open Go.RowKit
set_option maxRecDepth 100000 in
set_option maxHeartbeats 4000000 in
theorem walk (A : Option Addr) (n cap : Nat) (w : World) (hr : BytesIn w A n) (_hm : n ≤ maxLen) :
    Calls Try.prog 3 #[.slice A n cap] w fun e w' => e = .returned (.bool true) ∧ Below w.heap.size w w' := by
  clear _hm
  have HR := Lib.hid hr; clear hr
  by_cases hbig : 4096 < n
  · have hB : bigB n = true := by simp [bigB, hbig]
    go_enter Try.func3, Try.ntmps3
    go_wp2_with fail
    refine (big_any _ _ _ _).mono ?_; rintro e w1 ⟨rfl, rfl⟩
    go_wp2
    go_ret
    exact ⟨rfl, Below.refl _ _⟩
  · have hB : bigB n = false := by simp [bigB]; omega
    go_enter Try.func3, Try.ntmps3
    go_wp2_with fail
    refine (big_any _ _ _ _).mono ?_; rintro e w1 ⟨rfl, rfl⟩
    go_wp2_with fail
    refine (drawCompareLabels_any A n cap _ (by omega) HR.out).mono ?_
    rintro e w1 ⟨⟨a, b, s, a', b', t, hl1, hl2, rfl⟩, hb1⟩
    have H1 := Lib.hid hl1; have H2 := Lib.hid hl2; clear hl1 hl2
    have k1 := (BoxW.new w1 a b s).alloc (.cells #[.int .i64 a', .int .i64 b', .string t] 25)
    have k2 := BoxW.new (w1.alloc (.cells #[.int .i64 a, .int .i64 b, .string s] 25)) a' b' t
    rw [show (w1.alloc (.cells #[.int .i64 a, .int .i64 b, .string s] 25)).heap.size = w1.heap.size + 1 from by simp] at k2
    have hbw := (hb1.alloc hb1.size (.cells #[.int .i64 a, .int .i64 b, .string s] 25)).alloc (by have := hb1.size; simp; omega) (.cells #[.int .i64 a', .int .i64 b', .string t] 25)
    have HR2 := Lib.hid (HR.out.below hbw)
    go_wp2_with fail
    have hz1 := hb1.size
    generalize (w1.alloc (.cells #[.int .i64 a, .int .i64 b, .string s] 25)).alloc (.cells #[.int .i64 a', .int .i64 b', .string t] 25) = W at *
    generalize w1.heap.size = B at *
    have hB2 := k2.lt
    refine (drawIsLabel_any A n cap _ (by omega) HR2.out).mono ?_
    rintro e w2 ⟨⟨a'', b'', u, ha3, hb3, hu3, rfl⟩, hb2⟩
    have H3 := Lib.hid (And.intro ha3 (And.intro hb3 hu3)); clear ha3 hb3 hu3
    have k3 := BoxW.new w2 a'' b'' u
    replace k1 := (k1.below hb2).alloc (.cells #[.int .i64 a'', .int .i64 b'', .string u] 25)
    replace k2 := (k2.below hb2).alloc (.cells #[.int .i64 a'', .int .i64 b'', .string u] 25)
    have hbw2 := (hbw.trans (hb2.mono (by omega))).alloc (by have := hb2.size; omega) (.cells #[.int .i64 a'', .int .i64 b'', .string u] 25)
    clear hb1 hb2 hbw
    obtain ⟨c0, c1, c2, _, _, _⟩ := k1.cells
    obtain ⟨d0, d1, d2, _, _, _⟩ := k2.cells
    obtain ⟨p0, p1, p2, _, _, _⟩ := k3.cells
    go_wp2_with fail
    generalize w2.alloc (.cells #[.int .i64 a'', .int .i64 b'', .string u] 25) = W2 at *
    generalize w2.heap.size = D at *
    have hDl := k3.lt
    have hBl := k2.lt
    have hz2 : w.heap.size ≤ B := by omega
    refine (cmp_impl a b a' b' s t W2).mono ?_; rintro e w3 ⟨rfl, hb3⟩
    replace k1 := k1.below hb3
    replace k2 := k2.below hb3
    replace k3 := k3.below hb3
    have hbw3 := hbw2.trans (hb3.mono (by omega))
    have hz3 := hb3.size
    clear c0 c1 c2 d0 d1 d2 p0 p1 p2 hb3 hbw2
    obtain ⟨c0, c1, c2, _, _, _⟩ := k1.cells
    obtain ⟨d0, d1, d2, _, _, _⟩ := k2.cells
    go_wp2_with fail
    refine (cmp_impl a' b' a b t s w3).mono ?_; rintro e w4 ⟨rfl, hb4⟩
    replace k1 := k1.below hb4
    replace k2 := k2.below hb4
    replace k3 := k3.below hb4
    have hbw4 := hbw3.trans (hb4.mono (by omega))
    have hz4 := hb4.size
    clear c0 c1 c2 d0 d1 d2 hb4 hbw3
    rw [cmpL_neg a b s a' b' t]
    have HX := Lib.hid (cmpL_val a b s a' b' t)
    have HZ := Lib.hid (cmpL_zero a b s a' b' t)
    have HT := Lib.hid (cmpL_trans a b s a' b' t a'' b'' u)
    generalize cmpL a b s a' b' t = x at *
    have x1 : -1 ≤ x := HX.out.1
    have x2 : x ≤ 1 := HX.out.2
    obtain ⟨c0, c1, c2, _, _, _⟩ := k1.cells
    obtain ⟨d0, d1, d2, _, _, _⟩ := k2.cells
    obtain ⟨p0, p1, p2, _, _, _⟩ := k3.cells
    have q1 : (x != - -x) = false := by simp
    by_cases ea : a = a'
    · subst ea
      by_cases eb : b = b'
      · subst eb
        by_cases es : s.toList = t.toList
        · have hx0 : x = 0 := HZ.out.2 ⟨rfl, rfl, es⟩
          have HES := Lib.hid es
          have q2 : (x == 0) = true := by simp [hx0]
          have hx : ¬ 0 < x := by omega
          have HX0 := Lib.hid hx0; clear hx0 hx
          by_cases hx : 0 < x
          · go_wp2
            go_ret
            exact ⟨rfl, hbw4⟩
          · go_wp2_with fail
            refine (cmp_impl a b a'' b'' t u w4).mono ?_; rintro e w5 ⟨rfl, hb5⟩
            replace k1 := k1.below hb5
            replace k2 := k2.below hb5
            replace k3 := k3.below hb5
            have hbw5 := hbw4.trans (hb5.mono (by omega))
            have hz5 := hb5.size
            clear c0 c1 c2 d0 d1 d2 p0 p1 p2 hb5 hbw4
            obtain ⟨c0, c1, c2, _, _, _⟩ := k1.cells
            obtain ⟨p0, p1, p2, _, _, _⟩ := k3.cells
            generalize cmpL a b t a'' b'' u = y at *
            by_cases hy : 0 < y
            · go_wp2
              go_ret
              exact ⟨rfl, hbw5⟩
            · go_wp2_with fail
              refine (cmp_impl a b a'' b'' s u w5).mono ?_; rintro e w6 ⟨rfl, hb6⟩
              have hle := HT.out (by omega) (by omega)
              generalize cmpL a b s a'' b'' u = z at *
              have hbw6 := hbw5.trans (hb6.mono (by omega))
              go_wp2
              go_ret
              exact ⟨rfl, hbw6⟩

        · have hx0 : x ≠ 0 := fun h => es (HZ.out.1 h).2.2
          have q2 : (x == 0) = false := by simpa using hx0
          by_cases hx : 0 < x
          · go_wp2
            go_ret
            exact ⟨rfl, hbw4⟩
          · go_wp2_with fail
            refine (cmp_impl a b a'' b'' t u w4).mono ?_; rintro e w5 ⟨rfl, hb5⟩
            replace k1 := k1.below hb5
            replace k2 := k2.below hb5
            replace k3 := k3.below hb5
            have hbw5 := hbw4.trans (hb5.mono (by omega))
            have hz5 := hb5.size
            clear c0 c1 c2 d0 d1 d2 p0 p1 p2 hb5 hbw4
            obtain ⟨c0, c1, c2, _, _, _⟩ := k1.cells
            obtain ⟨p0, p1, p2, _, _, _⟩ := k3.cells
            generalize cmpL a b t a'' b'' u = y at *
            by_cases hy : 0 < y
            · go_wp2
              go_ret
              exact ⟨rfl, hbw5⟩
            · go_wp2_with fail
              refine (cmp_impl a b a'' b'' s u w5).mono ?_; rintro e w6 ⟨rfl, hb6⟩
              have hle := HT.out (by omega) (by omega)
              generalize cmpL a b s a'' b'' u = z at *
              have hbw6 := hbw5.trans (hb6.mono (by omega))
              go_wp2
              go_ret
              exact ⟨rfl, hbw6⟩

      · have hx0 : x ≠ 0 := fun h => eb (HZ.out.1 h).2.1
        have q2 : (x == 0) = false := by simpa using hx0
        by_cases hx : 0 < x
        · go_wp2
          go_ret
          exact ⟨rfl, hbw4⟩
        · go_wp2_with fail
          refine (cmp_impl a b' a'' b'' t u w4).mono ?_; rintro e w5 ⟨rfl, hb5⟩
          replace k1 := k1.below hb5
          replace k2 := k2.below hb5
          replace k3 := k3.below hb5
          have hbw5 := hbw4.trans (hb5.mono (by omega))
          have hz5 := hb5.size
          clear c0 c1 c2 d0 d1 d2 p0 p1 p2 hb5 hbw4
          obtain ⟨c0, c1, c2, _, _, _⟩ := k1.cells
          obtain ⟨p0, p1, p2, _, _, _⟩ := k3.cells
          generalize cmpL a b' t a'' b'' u = y at *
          by_cases hy : 0 < y
          · go_wp2
            go_ret
            exact ⟨rfl, hbw5⟩
          · go_wp2_with fail
            refine (cmp_impl a b a'' b'' s u w5).mono ?_; rintro e w6 ⟨rfl, hb6⟩
            have hle := HT.out (by omega) (by omega)
            generalize cmpL a b s a'' b'' u = z at *
            have hbw6 := hbw5.trans (hb6.mono (by omega))
            go_wp2
            go_ret
            exact ⟨rfl, hbw6⟩

    · have hx0 : x ≠ 0 := fun h => ea (HZ.out.1 h).1
      have q2 : (x == 0) = false := by simpa using hx0
      by_cases hx : 0 < x
      · go_wp2
        go_ret
        exact ⟨rfl, hbw4⟩
      · go_wp2_with fail
        refine (cmp_impl a' b' a'' b'' t u w4).mono ?_; rintro e w5 ⟨rfl, hb5⟩
        replace k1 := k1.below hb5
        replace k2 := k2.below hb5
        replace k3 := k3.below hb5
        have hbw5 := hbw4.trans (hb5.mono (by omega))
        have hz5 := hb5.size
        clear c0 c1 c2 d0 d1 d2 p0 p1 p2 hb5 hbw4
        obtain ⟨c0, c1, c2, _, _, _⟩ := k1.cells
        obtain ⟨p0, p1, p2, _, _, _⟩ := k3.cells
        generalize cmpL a' b' t a'' b'' u = y at *
        by_cases hy : 0 < y
        · go_wp2
          go_ret
          exact ⟨rfl, hbw5⟩
        · go_wp2_with fail
          refine (cmp_impl a b a'' b'' s u w5).mono ?_; rintro e w6 ⟨rfl, hb6⟩
          have hle := HT.out (by omega) (by omega)
          generalize cmpL a b s a'' b'' u = z at *
          have hbw6 := hbw5.trans (hb6.mono (by omega))
          go_wp2
          go_ret
          exact ⟨rfl, hbw6⟩

end Go.Proofs.Ytphcjppdmdmejaa.fnLabelOrder

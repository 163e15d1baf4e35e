/- The walk of the law on PlacesOf. -/
import Derived.Test.YtichnpjpldkceaaPlS
import Derived.Test.YtichnpjpldkceaaMarkN
namespace Go.Proofs.Ytichnpjpldkceaa.fnExactPlacesOf
open Go.RowKit
/-- what stands in a world of the walk -/
structure St (w W : World) (B X : Nat) (a0 a1 a2 x0 x1 x2 v0 v1 : Value) (s0 s1 : Nat) (L L' : List ByteArray) : Prop where
  box : Box3 51 W B a0 a1 a2
  bel : Below B w W
  xb : Box3 56 W X x0 x1 x2
  o0 : OwnStr W s0 v0 L
  o1 : OwnStr W s1 v1 L'
section
variable {w W W' : World} {B X : Nat} {a0 a1 a2 x0 x1 x2 v0 v1 : Value} {s0 s1 : Nat} {L L' : List ByteArray}
theorem St.below (h : St w W B X a0 a1 a2 x0 x1 x2 v0 v1 s0 s1 L L') (hb : Below W.heap.size W W') : St w W' B X a0 a1 a2 x0 x1 x2 v0 v1 s0 s1 L L' :=
  ⟨h.box.below hb, h.bel.trans (hb.mono (Nat.le_of_lt h.box.lt)), h.xb.below hb, own_below h.o0 hb, own_below h.o1 hb⟩
theorem St.grown (h : St w W B X a0 a1 a2 x0 x1 x2 v0 v1 s0 s1 L L') {g : Nat} (hg : W.grownBy W' (some g)) (hB : B < g) (hX : g ≠ X) (h0 : v0.ownBlock ≠ some g) (h1 : v1.ownBlock ≠ some g) : St w W' B X a0 a1 a2 x0 x1 x2 v0 v1 s0 s1 L L' :=
  ⟨(hg.block B h.box.lt (fun e => by injection e with e; omega)).trans h.box, h.bel.grown hg (Nat.le_of_lt h.box.lt) (fun k e => by injection e with e; omega), (hg.block X h.xb.lt (fun e => by injection e with e; omega)).trans h.xb, World.ownsRow.kept h.o0 hg (.inr h0), World.ownsRow.kept h.o1 hg (.inr h1)⟩
theorem St.marked (h : St w W B X a0 a1 a2 x0 x1 x2 v0 v1 s0 s1 L L') {g : Nat} {M : List ByteArray} (hg : W.grownBy W' (some g)) (hB : B < g) (hX : g ≠ X) (h0 : v0.ownBlock ≠ some g) (hm : OwnStr W' s1 v1 M) : St w W' B X a0 a1 a2 x0 x1 x2 v0 v1 s0 s1 L M :=
  ⟨(hg.block B h.box.lt (fun e => by injection e with e; omega)).trans h.box, h.bel.grown hg (Nat.le_of_lt h.box.lt) (fun k e => by injection e with e; omega), (hg.block X h.xb.lt (fun e => by injection e with e; omega)).trans h.xb, World.ownsRow.kept h.o0 hg (.inr h0), hm⟩
end
set_option maxRecDepth 100000 in
set_option maxHeartbeats 8000000 in
theorem walk (A : Option Addr) (ca : Nat) (l : List Lg) (D : Option Addr) (cd : Nat) (zs : List Int) (x : Int) (w : World) (hr : RawK 6 lgC w A l) (hd : IntsRaw w D zs) (hq : (∀ z ∈ l, z.f.size ≤ maxLen ∧ z.t.size ≤ maxLen) ∧ l.length ≤ maxLen ∧ zs.length ≤ maxLen) :
    Calls Try.prog 7 #[.agg #[.slice A l.length ca, .slice D zs.length cd, .int .i64 x]] w fun e w' => e = .returned (.bool true) ∧ Below w.heap.size w w' := by
  have hB0 := Box3.new (T := 51) (v0 := .slice A l.length ca) (v1 := .slice D zs.length cd) (v2 := .int .i64 x) w
  have hb0 := (Below.refl w.heap.size w).alloc (Nat.le_refl _) (.cells #[.slice A l.length ca, .slice D zs.length cd, .int .i64 x] 51)
  have HR := Lib.hid hr; have HD := Lib.hid hd; clear hr hd
  have HS := Lib.hid hq; clear hq
  go_enter Try.func7, Try.ntmps7
  obtain ⟨c0, c1, c2⟩ := hB0.cells
  go_wp2_with fail
  clear c0 c1 c2
  have H0 := Lib.hid (And.intro hB0 hb0); clear hB0 hb0
  generalize hB : w.heap.size = B at *
  have HBE := Lib.hid hB; clear hB
  generalize w.alloc (.cells #[.slice A l.length ca, .slice D zs.length cd, .int .i64 x] 51) = W at *
  refine (sz_net A ca l D cd zs.length x 1048576 W (HR.out.below (by rw [HBE.out]; exact H0.out.2)) HS.out.1 HS.out.2.1 HS.out.2.2 (by omega)).mono ?_; rintro e w1 ⟨⟨r, rfl, hr⟩, hb1⟩
  have Q1 := Lib.hid (And.intro (H0.out.1.below hb1) (H0.out.2.trans (hb1.mono (Nat.le_of_lt H0.out.1.lt)))); clear hb1
  rcases hr with rfl | ⟨hr0, hr1, hln, hzn⟩
  · go_wp2
    go_ret
    exact ⟨rfl, by rw [HBE.out]; exact Q1.out.2⟩
  have hrn : ¬ r < 0 := by omega
  have hln' : l.length ≤ 1048576 := by omega
  have hzn' : zs.length ≤ 1048576 := by omega
  clear hln hzn
  have HL := Lib.hid (show (placesB l).length ≤ 2097152 by have := placesB_len l; omega)
  obtain ⟨c0, c1, c2⟩ := Q1.out.1.cells
  go_wp2_with fail
  clear c0 c1 c2
  refine (to_net A ca l D cd zs x w1 (HR.out.below (by rw [HBE.out]; exact Q1.out.2)) (HD.out.below (by rw [HBE.out]; exact Q1.out.2)) hln' hzn').mono ?_; rintro e w2 ⟨g2, h2, rfl, ho2, hb2⟩
  have Q2 := Lib.hid (And.intro (Q1.out.1.below hb2) (Q1.out.2.trans (hb2.mono (Nat.le_of_lt Q1.out.1.lt)))); clear hb2
  have HO2 := Lib.hid ho2; clear ho2
  go_wp2_with fail
  refine (places_spec (some ⟨g2, 0, none⟩) l.length l (some ⟨h2, 0, none⟩) zs.length zs.length x w2 (HO2.out.1.ins lgC_len).2 hln').mono ?_; rintro e w3 ⟨⟨v0, rfl, ho0⟩, hb3⟩
  have Q3 := Lib.hid (And.intro (Q2.out.1.below hb3) (Q2.out.2.trans (hb3.mono (Nat.le_of_lt Q2.out.1.lt)))); clear hb3
  have HV0 := Lib.hid (show ∀ k, v0.ownBlock = some k → k < w3.heap.size from fun k h => (ho0.lt k h).2)
  have HO0 := Lib.hid ho0; clear ho0
  clear HO2
  obtain ⟨c0, c1, c2⟩ := Q3.out.1.cells
  go_wp2_with fail
  clear c0 c1 c2
  refine (to_net A ca l D cd zs x w3 (HR.out.below (by rw [HBE.out]; exact Q3.out.2)) (HD.out.below (by rw [HBE.out]; exact Q3.out.2)) hln' hzn').mono ?_; rintro e w4 ⟨g4, h4, rfl, ho4, hb4⟩
  have Q4 := Lib.hid (And.intro (Q3.out.1.below hb4) (Q3.out.2.trans (hb4.mono (Nat.le_of_lt Q3.out.1.lt))))
  have HO0 := Lib.hid (own_below HO0.out hb4); clear hb4
  have hg4 := (World.ownsRow.lt ho4.1 g4 rfl)
  have hh4 := (World.ownsRow.lt ho4.2.1 h4 rfl)
  have HG4 := Lib.hid (And.intro hg4 hh4); clear hg4 hh4
  have HGH := Lib.hid ho4.2.2
  have hX := Box3.new (T := 56) (v0 := .slice (some ⟨g4, 0, none⟩) l.length l.length) (v1 := .slice (some ⟨h4, 0, none⟩) zs.length zs.length) (v2 := .int .i64 x) w4
  have hbx := (Below.refl w4.heap.size w4).alloc (Nat.le_refl _) (.cells #[.slice (some ⟨g4, 0, none⟩) l.length l.length, .slice (some ⟨h4, 0, none⟩) zs.length zs.length, .int .i64 x] 56)
  have Q5 := Lib.hid (And.intro (Q4.out.1.below hbx) (And.intro (Q4.out.2.trans (hbx.mono (Nat.le_of_lt Q4.out.1.lt))) (And.intro hX (And.intro (ho4.1.below hbx) (ho4.2.1.below hbx)))))
  have HO0 := Lib.hid (own_below HO0.out hbx); clear hbx hX ho4
  obtain ⟨x0, x1, x2⟩ := Q5.out.2.2.1.cells
  go_wp2_with fail
  clear x0 x1 x2
  have hx4 := Q4.out.1.lt
  have hXs : w4.heap.size < (w4.alloc (.cells #[.slice (some ⟨g4, 0, none⟩) l.length l.length, .slice (some ⟨h4, 0, none⟩) zs.length zs.length, .int .i64 x] 56)).heap.size := by simp
  generalize hX : w4.heap.size = X at *
  generalize w4.alloc (.cells #[.slice (some ⟨g4, 0, none⟩) l.length l.length, .slice (some ⟨h4, 0, none⟩) zs.length zs.length, .int .i64 x] 56) = w5 at *
  clear hX
  refine (places_impl (some ⟨g4, 0, none⟩) l.length l (some ⟨h4, 0, none⟩) zs.length zs.length x w5 (Q5.out.2.2.2.1.ins lgC_len).2 hln').mono ?_; rintro e w6 ⟨⟨v1, rfl, ho1⟩, hb6⟩
  have HV1 := Lib.hid (show ∀ k, v1.ownBlock = some k → X < k from fun k h => by have := (ho1.lt k h).1; omega)
  have S6 : St w w6 B X _ _ _ _ _ _ v0 v1 _ _ (placesB l) (placesB l) := ⟨Q5.out.1.below hb6, Q5.out.2.1.trans (hb6.mono (Nat.le_of_lt Q5.out.1.lt)), Q5.out.2.2.1.below hb6, own_below HO0.out hb6, ho1⟩
  have hl6 : w3.heap.size ≤ X ∧ B < w3.heap.size := ⟨by have := HG4.out.1; omega, Q3.out.1.lt⟩
  have HA4 := Lib.hid (Q5.out.2.2.2.1.below hb6); have HD4 := Lib.hid (Q5.out.2.2.2.2.below hb6)
  have HL6 := Lib.hid hl6; clear hl6 hb6 ho1
  clear Q1 Q2 Q3 Q4 Q5 H0 HO0
  have HS6 := Lib.hid S6; clear S6
  go_wp2_with fail
  refine (eq_strs v1 v0 (placesB l) _ _ w6 HS6.out.o1 HS6.out.o0 (by have := HL.out; omega)).mono ?_; rintro e w7 ⟨rfl, hb7⟩
  have HS7 := Lib.hid (HS6.out.below hb7)
  have HA7 := Lib.hid (HA4.out.below hb7); have HD7 := Lib.hid (HD4.out.below hb7)
  clear hb7 HS6 HA4 HD4
  go_wp2_with fail
  obtain ⟨c0, c1, c2⟩ := HS7.out.box.cells
  obtain ⟨x0, x1, x2⟩ := HS7.out.xb.cells
  have hBl := HS7.out.box.lt
  have hXl := HS7.out.xb.lt
  have HTP := Lib.hid (fun W' (h : Below w7.heap.size w7 W') => to_net A ca l D cd zs x W' ((HR.out.below (by rw [HBE.out]; exact HS7.out.bel)).below h) ((HD.out.below (by rw [HBE.out]; exact HS7.out.bel)).below h) hln' hzn')
  obtain ⟨WW, hWW⟩ : ∃ WW : World, WW = w7 := ⟨_, rfl⟩
  subst hWW
  go_region_held3 (fun w' => w'.cell? ⟨B, 0, none⟩ = some (.slice A l.length ca) ∧ w'.cell? ⟨B, 1, none⟩ = some (.slice D zs.length cd) ∧ w'.cell? ⟨B, 2, none⟩ = some (.int .i64 x) ∧ w'.cell? ⟨X, 0, none⟩ = some (.slice (some ⟨g4, 0, none⟩) l.length l.length) ∧ w'.cell? ⟨X, 1, none⟩ = some (.slice (some ⟨h4, 0, none⟩) zs.length zs.length) ∧ w'.cell? ⟨X, 2, none⟩ = some (.int .i64 x))
    (go_keep)
    (first
      | (go_at_call 32; refine (HTP.out _ ?_).mono ?_; (focus (first | exact Below.refl _ _ | exact (Below.refl _ _).drew)); (rintro e u ⟨g7, h7, rfl, ho7, hu⟩; (first | (have hb7 : Below WW.heap.size WW u := below_undrew hu) | (have hb7 : Below WW.heap.size WW u := hu)); have HO7 := Lib.hid ho7; have S8 := Lib.hid (HS7.out.below hb7); have HA8 := Lib.hid (HA7.out.below hb7); have HD8 := Lib.hid (HD7.out.below hb7); obtain ⟨d0, d1, d2⟩ := S8.out.box.cells; obtain ⟨y0, y1, y2⟩ := S8.out.xb.cells; clear ho7 hu c0 c1 c2 x0 x1 x2))
      | (go_at_call 34; refine (eq_net _ _ _ _ l _ _ _ _ zs x _ (HA8.out.ins lgC_len).2 (HO7.out.1.ins lgC_len).2 HD8.out.ins.2 HO7.out.2.1.ins.2 hln' hzn').mono ?_; (rintro e u2 ⟨rfl, hu⟩; have hb8 : Below u.heap.size u u2 := hu; have S9 := Lib.hid (S8.out.below hb8); have HA9 := Lib.hid (HA8.out.below hb8); have HD9 := Lib.hid (HD8.out.below hb8); clear d0 d1 d2 y0 y1 y2; obtain ⟨d0, d1, d2⟩ := S9.out.box.cells; obtain ⟨y0, y1, y2⟩ := S9.out.xb.cells; clear hu)))
  all_goals
    clear HO7 HTP HS7 HA7 HD7 S8 HA8 HD8 hb7 hb8
    go_wp2_with fail
    have hx := HL6.out
    have hy := HG4.out
    refine (mark_net g4 l.length l.length h4 zs.length 1 _ zs x u2 (blk_of HA9.out).1 HD9.out HGH.out hln' hzn' (by omega) (by omega)).mono ?_; rintro e w9 ⟨rfl, u9, hga, hgb⟩
    have S10 := Lib.hid ((S9.out.grown hga (by omega) (by omega) (fun h => by have := HV0.out _ h; omega) (fun h => by have := HV1.out _ h; omega)).grown hgb (by omega) (by omega) (fun h => by have := HV0.out _ h; omega) (fun h => by have := HV1.out _ h; omega))
    clear hga hgb S9 HA9 HD9 d0 d1 d2 y0 y1 y2 hx hy
    obtain ⟨M, hM⟩ : ∃ M : Nat, M = 1 + 6 * l.length + zs.length := ⟨_, rfl⟩
    rw [← hM]
    have hMn : ¬ ((M : Int) < 0) := by omega
    clear hM
    go_wp2_with fail
    refine (eq_strs v1 v0 (placesB l) _ _ w9 S10.out.o1 S10.out.o0 (by have := HL.out; omega)).mono ?_; rintro e w10 ⟨rfl, hb10⟩
    have S11 := Lib.hid (S10.out.below hb10); clear S10 hb10
    by_cases hl : placesB l = []
    · have hO1 := S11.out.o1
      rw [hl] at hO1
      obtain ⟨E, cap, rfl⟩ := own_empty hO1
      clear hO1
      go_wp2_with fail
      refine (mark_none E cap 1 w10).mono ?_; rintro e w11 ⟨rfl, rfl⟩
      go_wp2_with fail
      refine (held_none E cap 1 w11).mono ?_; rintro e w12 ⟨rfl, rfl⟩
      obtain ⟨c0, c1, c2⟩ := S11.out.box.cells
      go_wp2_with fail
      clear c0 c1 c2
      refine (to_net A ca l D cd zs x w12 (HR.out.below (by rw [HBE.out]; exact S11.out.bel)) (HD.out.below (by rw [HBE.out]; exact S11.out.bel)) hln' hzn').mono ?_; rintro e w13 ⟨g8, h8, rfl, ho8, hb13⟩
      have S13 := Lib.hid (S11.out.below hb13); clear S11 hb13
      go_wp2_with fail
      refine (places_impl (some ⟨g8, 0, none⟩) l.length l (some ⟨h8, 0, none⟩) zs.length zs.length x w13 (ho8.1.ins lgC_len).2 hln').mono ?_; rintro e w14 ⟨⟨v2, rfl, ho2⟩, hb14⟩
      have S14 := Lib.hid (S13.out.below hb14); clear S13 hb14 ho8
      go_wp2_with fail
      refine (eq_strs v2 v0 (placesB l) _ _ w14 ho2 S14.out.o0 (by have := HL.out; omega)).mono ?_; rintro e w15 ⟨rfl, hb15⟩
      have S15 := Lib.hid (S14.out.below hb15); clear S14 hb15 ho2
      go_wp2_with fail
      refine (held_none E cap 1 w15).mono ?_; rintro e w16 ⟨rfl, rfl⟩
      go_wp2
      go_ret
      exact ⟨rfl, by rw [HBE.out]; exact S15.out.bel⟩
    · obtain ⟨g, cap, rfl, _, _⟩ := own_slice S11.out.o1 hl
      have hgX := HV1.out g rfl
      obtain ⟨N, hN⟩ : ∃ N : Nat, N = 1 + (placesB l).length := ⟨_, rfl⟩
      have HN := Lib.hid hN
      have hNb : ¬ ((N : Int) < 0) := by omega
      have hNN : ((N : Int) != (N : Int)) = false := by simp
      clear hN
      have hx := HL6.out
      go_wp2_with fail
      refine (mark_strs g cap 1 _ (placesB l) w10 S11.out.o1 (by have := HL.out; omega) (by omega) (by omega)).mono ?_; rintro e w11 ⟨rfl, hmk, hgr⟩
      rw [← HN.out]
      have S12 := Lib.hid (S11.out.marked hgr (by omega) (by omega) (fun h => by have := HV0.out g h; omega) hmk); clear S11 hmk hgr hx
      go_wp2_with fail
      refine (held_strs g cap 1 _ (placesB l).length w11 S12.out.o1 (by have := HL.out; omega) (by omega) (by omega)).mono ?_; rintro e w12 ⟨rfl, hb12⟩
      rw [← HN.out]
      have S13 := Lib.hid (S12.out.below hb12); clear S12 hb12
      obtain ⟨c0, c1, c2⟩ := S13.out.box.cells
      go_wp2_with fail
      clear c0 c1 c2
      refine (to_net A ca l D cd zs x w12 (HR.out.below (by rw [HBE.out]; exact S13.out.bel)) (HD.out.below (by rw [HBE.out]; exact S13.out.bel)) hln' hzn').mono ?_; rintro e w13 ⟨g8, h8, rfl, ho8, hb13⟩
      have S14 := Lib.hid (S13.out.below hb13); clear S13 hb13
      go_wp2_with fail
      refine (places_impl (some ⟨g8, 0, none⟩) l.length l (some ⟨h8, 0, none⟩) zs.length zs.length x w13 (ho8.1.ins lgC_len).2 hln').mono ?_; rintro e w14 ⟨⟨v2, rfl, ho2⟩, hb14⟩
      have S15 := Lib.hid (S14.out.below hb14); clear S14 hb14 ho8
      go_wp2_with fail
      refine (eq_strs v2 v0 (placesB l) _ _ w14 ho2 S15.out.o0 (by have := HL.out; omega)).mono ?_; rintro e w15 ⟨rfl, hb15⟩
      have S16 := Lib.hid (S15.out.below hb15); clear S15 hb15 ho2
      go_wp2_with fail
      refine (held_strs g cap 1 _ (placesB l).length w15 S16.out.o1 (by have := HL.out; omega) (by omega) (by omega)).mono ?_; rintro e w16 ⟨rfl, hb16⟩
      rw [← HN.out]
      have S17 := Lib.hid (S16.out.below hb16); clear S16 hb16
      go_wp2
      go_ret
      exact ⟨rfl, by rw [HBE.out]; exact S17.out.bel⟩
end Go.Proofs.Ytichnpjpldkceaa.fnExactPlacesOf

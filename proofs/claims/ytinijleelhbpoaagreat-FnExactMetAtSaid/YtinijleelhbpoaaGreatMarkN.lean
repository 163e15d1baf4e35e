/- The laws' marks on a network. -/
import Derived.Test.YtinijleelhbpoaaGreatBb
import Derived.Test.YtinijleelhbpoaaGreatMark
import Derived.Test.YtinijleelhbpoaaGreatBc
namespace Go.Proofs.YtinijleelhbpoaaGreat
open Go.RowKit
/-- a block of at least so many cells -/
def BlkN (W : World) (T : TypeId) (g N : Nat) : Prop := ∃ cur, W.heap[g]? = some (.cells cur T (0, 0)) ∧ N ≤ cur.size
theorem BlkN.lt {W : World} {T : TypeId} {g N : Nat} (h : BlkN W T g N) : g < W.heap.size := by
 obtain ⟨cur, h, _⟩ := h
 exact (Array.getElem?_eq_some_iff.1 h).1
theorem BlkN.below {W W' : World} {T : TypeId} {g N : Nat} (h : BlkN W T g N) (hb : Below W.heap.size W W') : BlkN W' T g N := by
 have hl := h.lt
 obtain ⟨cur, h, hs⟩ := h
 exact ⟨cur, (hb.block g hl).trans h, hs⟩
theorem BlkN.set {W : World} {T : TypeId} {g N : Nat} (h : BlkN W T g N) (k : Nat) (x : Value) : BlkN (W.setCell ⟨g, k, none⟩ x) T g N := by
 obtain ⟨cur, h, hs⟩ := h
 exact ⟨_, heap_set h k x, by simpa using hs⟩
theorem BlkN.cell {W : World} {T : TypeId} {g N : Nat} (h : BlkN W T g N) (k : Nat) (hk : k < N) : (∃ v, W.cell? ⟨g, k, none⟩ = some v) ∧ W.frozen? ⟨g, k, none⟩ = false := by
 obtain ⟨cur, h, hs⟩ := h
 refine ⟨⟨cur[k]'(by omega), ?_⟩, frozen_of_row W g k _ _ h⟩
 rw [cell_of_row W g k _ _ _ h]
 exact Array.getElem?_eq_getElem (by omega)
theorem blk_of {α : Type} {enc : α → List Value} {n : Nat} {T : TypeId} {w : World} {base g m cap : Nat} {l : List α} (h : OwnK T n enc w base (.slice (some ⟨g, 0, none⟩) m cap) l) : BlkN w T g (m * n) ∧ base ≤ g := by
 rcases h.2 with ⟨e, _⟩ | ⟨g', c, cur, e, hb, hblk, h1, h2, h3, h4⟩
 ·cases e
 ·cases e
  exact ⟨⟨cur, hblk, by rw [h3]; exact Nat.mul_le_mul_right n h1⟩, hb⟩
set_option maxRecDepth 100000 in
set_option maxHeartbeats 4000000 in
theorem mark_legs (g cap n k0 : Nat) (w : World) (hv : BlkN w 62 g (n * 6)) (hn : n ≤ 1048576) (hk0 : 0 < k0) (hk : k0 ≤ 1000000) :
  Calls Tryz.prog 123 #[.slice (some ⟨g, 0, none⟩) n cap, .int .i64 k0] w fun e w' => e = .returned (.int .i64 ((k0 + 6 * n : Nat) : Int)) ∧ w.grownBy w' (some g) := by
 go_enter Tryz.func123, Tryz.ntmps123
 go_wp2
 go_loopw [1, 5] (fun k i wr => ∃ j : Nat, j ≤ n ∧ i = .int .i64 j ∧ k = .int .i64 ((k0 + 6 * j : Nat) : Int) ∧ BlkN wr 62 g (n * 6) ∧ w.grownBy wr (some g)) (fun _ i _ => n - (intOf i).toNat)
 case atStart => exact ⟨0, Nat.zero_le _, rfl, rfl, hv, ⟨rfl, rfl, rfl, Nat.le_refl _, fun _ _ _ => rfl⟩⟩
 case round =>
  obtain ⟨j, hj, rfl, rfl, hb, hgr⟩ := hrel
  by_cases hlt : (j : Int) < (n : Int)
  ·have hjn : j < n := by omega
   obtain ⟨K, hK⟩ : ∃ K, K = k0 + 6 * j := ⟨_, rfl⟩
   rw [← hK]
   have HK := Lib.hid hK
   have hKp : 0 < K := by omega
   have hKb : K ≤ 9223372036854775000 := by omega
   have hj6 : j * 6 + 5 < n * 6 := by omega
   clear hK
   have HB := Lib.hid hb; clear hb
   go_wp2_with fail
   refine (mark_text K wr hKp (by omega)).mono ?_; rintro e w2 ⟨rfl, hbt⟩
   have hB2 := HB.out.below hbt
   obtain ⟨⟨v0, c0⟩, f0⟩ := hB2.cell (j * 6) (by omega)
   have hB2' := hB2.set (j * 6) (.string (mtxt K))
   have hg2 := only_trans (only_of_below hbt g) (only_set w2 g (j * 6) (.string (mtxt K)))
   have HB2 := Lib.hid hB2'; clear hB2 hB2'
   go_wp2_with fail
   have HM := Lib.hid (show ∀ W : World, Calls Tryz.prog 125 #[.int .i64 ((K : Int) + 1)] W fun e w' => e = .returned (.string (mtxt (K + 1))) ∧ Below W.heap.size W w' from fun W => by
    have h := mark_text (K + 1) W (by omega) (by omega)
    rw [show (((K + 1 : Nat) : Int)) = (K : Int) + 1 by omega] at h
    exact h)
   refine (HM.out _).mono ?_; rintro e w3 ⟨rfl, hbt3⟩
   have hB3 := HB2.out.below hbt3
   obtain ⟨⟨v1, c1⟩, f1⟩ := hB3.cell (j * 6 + 1) (by omega)
   obtain ⟨⟨v2, c2⟩, f2⟩ := hB3.cell (j * 6 + 2) (by omega)
   obtain ⟨⟨v3, c3⟩, f3⟩ := hB3.cell (j * 6 + 3) (by omega)
   obtain ⟨⟨v4, c4⟩, f4⟩ := hB3.cell (j * 6 + 4) (by omega)
   obtain ⟨⟨v5, c5⟩, f5⟩ := hB3.cell (j * 6 + 5) (by omega)
   have hg3 := only_trans hgr (only_trans hg2 (only_of_below hbt3 g))
   have HG := Lib.hid (show ∀ x1 x2 x3 x4 x5 : Value, BlkN (((((w3.setCell ⟨g, j * 6 + 1, none⟩ x1).setCell ⟨g, j * 6 + 2, none⟩ x2).setCell ⟨g, j * 6 + 3, none⟩ x3).setCell ⟨g, j * 6 + 4, none⟩ x4).setCell ⟨g, j * 6 + 5, none⟩ x5) 62 g (n * 6) ∧ w.grownBy (((((w3.setCell ⟨g, j * 6 + 1, none⟩ x1).setCell ⟨g, j * 6 + 2, none⟩ x2).setCell ⟨g, j * 6 + 3, none⟩ x3).setCell ⟨g, j * 6 + 4, none⟩ x4).setCell ⟨g, j * 6 + 5, none⟩ x5) (some g) from fun x1 x2 x3 x4 x5 =>
    ⟨((((hB3.set _ x1).set _ x2).set _ x3).set _ x4).set _ x5, only_trans (only_trans (only_trans (only_trans (only_trans hg3 (only_set _ _ _ x1)) (only_set _ _ _ x2)) (only_set _ _ _ x3)) (only_set _ _ _ x4)) (only_set _ _ _ x5)⟩)
   clear hB3 hg3 hg2 c0 f0 hbt hbt3 HB2 HB hgr
   go_wp2
   go_roundw
   case rel =>
    obtain ⟨q1, q2⟩ := HG.out (.string (mtxt (K + 1))) (.int .i64 ((K : Int) + 1 + 1)) (.int .i64 ((K : Int) + 1 + 1 + 1)) (.int .i64 ((K : Int) + 1 + 1 + 1 + 1)) (.int .i64 ((K : Int) + 1 + 1 + 1 + 1 + 1))
    exact ⟨j + 1, by omega, by go_num, by rw [HK.out]; go_num, q1, q2⟩
   case measure => simp [intOf]; omega
  ·obtain rfl : j = n := by omega
   go_wp2
   go_ret
   exact ⟨rfl, hgr⟩
set_option maxRecDepth 100000 in
set_option maxHeartbeats 2000000 in
theorem mark_net (g ca n h cd k0 b : Nat) (zs : List Int) (x : Int) (w : World) (hv : BlkN w 62 g (n * 6)) (hd : OwnI w b (.slice (some ⟨h, 0, none⟩) zs.length cd) zs) (hgh : g ≠ h) (hn : n ≤ 1048576) (hm : zs.length ≤ 1048576) (hk0 : 0 < k0) (hk : k0 ≤ 1000000) :
  Calls Tryz.prog 58 #[.agg #[.slice (some ⟨g, 0, none⟩) n ca, .slice (some ⟨h, 0, none⟩) zs.length cd, .int .i64 x], .int .i64 k0] w fun e w' => e = .returned (.int .i64 ((k0 + 6 * n + zs.length : Nat) : Int)) ∧ ∃ u, w.grownBy u (some g) ∧ u.grownBy w' (some h) := by
 have hB := Box3.new (T := 27) (v0 := .slice (some ⟨g, 0, none⟩) n ca) (v1 := .slice (some ⟨h, 0, none⟩) zs.length cd) (v2 := .int .i64 x) w
 have hb0 := (Below.refl w.heap.size w).alloc (Nat.le_refl _) (.cells #[.slice (some ⟨g, 0, none⟩) n ca, .slice (some ⟨h, 0, none⟩) zs.length cd, .int .i64 x] 27)
 have hv' := hv.below hb0
 have hd' := hd.below hb0
 have hgl := hv.lt
 have hne : ∀ k, (Value.slice (some ⟨h, 0, none⟩) zs.length cd).ownBlock = some k → k ≠ g := fun k e hk => by
  cases e; exact hgh hk.symm
 have HNE := Lib.hid hne
 have HP := Lib.hid (only_of_below hb0 g)
 clear hv hd hb0 hne hgh
 go_enter Tryz.func58, Tryz.ntmps58
 obtain ⟨c0, c1, c2⟩ := hB.cells
 go_wp2_with fail
 clear c0 c1 c2
 have hBl := hB.lt
 generalize hX : w.heap.size = X at *
 generalize w.alloc (.cells #[.slice (some ⟨g, 0, none⟩) n ca, .slice (some ⟨h, 0, none⟩) zs.length cd, .int .i64 x] 27) = W at *
 refine (mark_legs g ca n k0 W hv' hn hk0 hk).mono ?_; rintro e w1 ⟨rfl, hg1⟩
 have hB1 : Box3 27 w1 X (.slice (some ⟨g, 0, none⟩) n ca) (.slice (some ⟨h, 0, none⟩) zs.length cd) (.int .i64 x) := (hg1.block X hBl (fun e => by have := Option.some.inj e; omega)).trans hB
 have hd1 : OwnI w1 b (.slice (some ⟨h, 0, none⟩) zs.length cd) zs := World.ownsRow.kept hd' hg1 (.inr (fun e => HNE.out _ e rfl))
 have hgw := only_trans HP.out hg1
 obtain ⟨c0, c1, c2⟩ := hB1.cells
 have hBl1 := hB1.lt
 obtain ⟨K, hK⟩ : ∃ K : Nat, K = k0 + 6 * n := ⟨_, rfl⟩
 rw [← hK]
 have HK := Lib.hid hK
 have hKb : K ≤ 1000000000 := by omega
 clear hK hB hB1 hv' hd' hg1
 go_wp2_with fail
 refine (mark_ints (.slice (some ⟨h, 0, none⟩) zs.length cd) K b zs w1 hd1 hm hKb).mono ?_; rintro e w2 ⟨rfl, _, hg2⟩
 have HG := Lib.hid (And.intro hgw hg2); clear hgw hg2
 clear c0 c1 c2
 go_wp2
 go_ret
 exact ⟨ret_int (by rw [← HK.out]; omega), w1, HG.out.1, HG.out.2⟩
end Go.Proofs.YtinijleelhbpoaaGreat

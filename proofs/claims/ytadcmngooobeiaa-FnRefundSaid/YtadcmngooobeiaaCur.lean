/- The drawing cursor of the model's package: its contracts. -/
import Derived.Test.YtadcmngooobeiaaBa
import Derived.WalkSpells
import Derived.WalkLawsBesides
import Derived.Deep.QuietTactic
import Derived.BigQuiet
import Derived.Laws.OwnMore
namespace Go.Proofs.Ytadcmngooobeiaa
open Go.RowKit
theorem and255 (x : Int) : bits .and .i64 x 255 = x % 256 := by
  have e : (BitVec.ofInt 64 255).toNat = 2 ^ 8 - 1 := by decide
  show IntKind.i64.wrap ((BitVec.ofInt 64 x &&& BitVec.ofInt 64 255).toNat : Nat) = x % 256
  rw [BitVec.toNat_and, BitVec.toNat_ofInt, e, Nat.and_two_pow_sub_one_eq_mod, IntKind.wrap_i64]
  omega
theorem and255_bd (x : Int) : 0 ≤ bits .and .i64 x 255 ∧ bits .and .i64 x 255 ≤ 255 := by rw [and255]; omega
/-- n bytes that can be read, none of them in block g -/
def BytesAt (w : World) (g : Nat) (A : Option Addr) (n : Nat) : Prop :=
  ∀ j, j < n → ∃ ad v, A = some ad ∧ ad.block < g ∧ ad.block < w.heap.size ∧ w.cell? (ad.add j) = some (.int .u8 v) ∧ 0 ≤ v ∧ v ≤ 255
def CurOK (w : World) (g : Nat) : Prop :=
  ∃ (A : Option Addr) (n cap k : Nat) (h : Int), w.heap[g]? = some (.cells #[.slice A n cap, .int .i64 k, .int .i64 h] 85 (0, 0)) ∧ k ≤ n ∧ n ≤ 4096 ∧ BytesAt w g A n
theorem BytesAt.keep {w w' : World} {g : Nat} {A : Option Addr} {n : Nat} (h : BytesAt w g A n) (hg : w.grownBy w' (some g)) : BytesAt w' g A n := by
  intro j hj
  obtain ⟨ad, v, h1, h2, h3, h4, h5⟩ := h j hj
  refine ⟨ad, v, h1, h2, Nat.lt_of_lt_of_le h3 hg.size, ?_, h5⟩
  rw [← h4]
  refine World.cell?_of_block (hg.block _ (by rw [addr_block]; exact h3) ?_)
  rw [addr_block]
  intro e; injection e with e; omega
set_option maxRecDepth 100000 in
set_option maxHeartbeats 1000000 in
theorem byte_any (g : Nat) (w : World) (hc : CurOK w g) :
    Calls Try.prog 85 #[.pointer (some ⟨g, 0, none⟩)] w fun e w' => (∃ x : Int, 0 ≤ x ∧ x ≤ 255 ∧ e = .returned (.int .i64 x)) ∧ CurOK w' g ∧ w.grownBy w' (some g) := by
  obtain ⟨A, n, cap, k, h, hblk, hk, hn, hby⟩ := hc
  have c0 : w.cell? ⟨g, 0, none⟩ = some (.slice A n cap) := by rw [cell_of_row w g 0 _ _ _ hblk]; rfl
  have c1 : w.cell? ⟨g, 1, none⟩ = some (.int .i64 k) := by rw [cell_of_row w g 1 _ _ _ hblk]; rfl
  have c2 : w.cell? ⟨g, 2, none⟩ = some (.int .i64 h) := by rw [cell_of_row w g 2 _ _ _ hblk]; rfl
  have f0 : w.frozen? ⟨g, 0, none⟩ = false := frozen_of_row w g 0 _ _ hblk
  have f1 : w.frozen? ⟨g, 1, none⟩ = false := frozen_of_row w g 1 _ _ hblk
  have f2 : w.frozen? ⟨g, 2, none⟩ = false := frozen_of_row w g 2 _ _ hblk
  have HB := Lib.hid hblk; clear hblk
  have HY := Lib.hid hby; clear hby
  by_cases hlt : (k : Int) < (n : Int)
  · obtain ⟨ad, v, rfl, hne, hlb, hcv, hv0, hv1⟩ := HY.out k (by omega)
    have hcv' : ∀ X, (w.setCell ⟨g, 2, none⟩ X).cell? (ad.add k) = some (.int .u8 v) := fun X => by
      rw [World.cell?_setCell_other _ _ _ _ (fun e => by have := addr_block ad k; rw [← e] at this; simp at this; omega), hcv]
    have hkn : k < n := by omega
    clear hcv
    go_enter Try.func85, Try.ntmps85
    go_wp2
    go_quiet (fail)
    go_wp2
    go_quiet (fail)
    go_wp2
    go_quiet (fail)
    go_wp2
    go_ret
    refine ⟨⟨_, (and255_bd _).1, (and255_bd _).2, rfl⟩, ?_, ?_⟩
    · refine ⟨some ad, n, cap, k + 1, wrap64 (wrap64 (h * 6364136223846793005) + 1442695040888963407), ?_, by omega, hn, (HY.out.keep (only_set w g 2 _)).keep (only_trans (only_drewN (only_refl _ _) _) (only_set _ g 1 _))⟩
      exact heap_set (w := (w.setCell ⟨g, 2, none⟩ _).drewN _) (heap_set HB.out 2 _) 1 (.int .i64 ((k : Int) + 1))
    · exact only_trans (only_drewN (only_set w g 2 _) _) (only_set _ g 1 _)
  · go_enter Try.func85, Try.ntmps85
    go_wp2
    go_quiet (fail)
    go_wp2
    go_quiet (fail)
    go_wp2
    go_ret
    refine ⟨⟨_, (and255_bd _).1, (and255_bd _).2, rfl⟩, ⟨A, n, cap, k, wrap64 (wrap64 (h * 6364136223846793005) + 1442695040888963407), ?_, hk, hn, HY.out.keep (only_drewN (only_drewN (only_set w g 2 _) _) _)⟩, only_drewN (only_drewN (only_set w g 2 _) _) _⟩
    exact heap_set HB.out 2 _
set_option maxRecDepth 100000 in
set_option maxHeartbeats 1000000 in
theorem below_any (g : Nat) (n : Int) (w : World) (hn : n ≤ 9223372036854775807) (hc : CurOK w g) :
    Calls Try.prog 76 #[.pointer (some ⟨g, 0, none⟩), .int .i64 n] w fun e w' => (∃ x : Int, 0 ≤ x ∧ (0 < n → x < n) ∧ (n ≤ 0 → x = 0) ∧ e = .returned (.int .i64 x)) ∧ CurOK w' g ∧ w.grownBy w' (some g) := by
  have HC := Lib.hid hc; clear hc
  by_cases h0 : n ≤ 0
  · go_enter Try.func76, Try.ntmps76
    go_wp2
    go_ret
    exact ⟨⟨0, by omega, fun h => by omega, fun _ => rfl, rfl⟩, HC.out, only_refl _ _⟩
  · have hn0 : ¬ n = 0 := by omega
    have h1 : 1 ≤ n := by omega
    by_cases h2 : n ≤ 256
    · go_enter Try.func76, Try.ntmps76
      go_wp2_with fail
      refine (byte_any g _ HC.out).mono ?_; rintro e w1 ⟨⟨x, hx0, hx1, rfl⟩, hc1, ho1⟩
      have H1 := Lib.hid hc1; clear hc1
      have hm := Int.emod_nonneg x (show n ≠ 0 by omega)
      have hm2 := Int.emod_lt_of_pos x (show 0 < n by omega)
      go_wp2
      go_ret
      exact ⟨⟨x % n, hm, fun _ => hm2, fun h => by omega, rfl⟩, H1.out, ho1⟩
    · go_enter Try.func76, Try.ntmps76
      go_wp2_with fail
      refine (byte_any g _ HC.out).mono ?_; rintro e w1 ⟨⟨x, hx0, hx1, rfl⟩, hc1, ho1⟩
      have H1 := Lib.hid hc1; clear hc1
      go_wp2_with fail
      refine (byte_any g _ H1.out).mono ?_; rintro e w2 ⟨⟨y, hy0, hy1, rfl⟩, hc2, ho2⟩
      have H2 := Lib.hid hc2; clear hc2
      go_wp2_with fail
      refine (byte_any g _ H2.out).mono ?_; rintro e w3 ⟨⟨z, hz0, hz1, rfl⟩, hc3, ho3⟩
      have H3 := Lib.hid hc3; clear hc3
      have hm := Int.emod_nonneg (x * 65536 + y * 256 + z) (show n ≠ 0 by omega)
      have hm2 := Int.emod_lt_of_pos (x * 65536 + y * 256 + z) (show 0 < n by omega)
      go_wp2
      go_ret
      exact ⟨⟨(x * 65536 + y * 256 + z) % n, hm, fun _ => hm2, fun h => by omega, rfl⟩, H3.out, only_trans ho1 (only_trans ho2 ho3)⟩
set_option maxRecDepth 100000 in
set_option maxHeartbeats 1000000 in
theorem once_any (g : Nat) (n : Int) (w : World) (hn : n ≤ 9223372036854775807) (hc : CurOK w g) :
    Calls Try.prog 78 #[.pointer (some ⟨g, 0, none⟩), .int .i64 n] w fun e w' => (∃ x : Bool, e = .returned (.bool x)) ∧ CurOK w' g ∧ w.grownBy w' (some g) := by
  have HC := Lib.hid hc; clear hc
  go_enter Try.func78, Try.ntmps78
  go_wp2_with fail
  refine (below_any g n _ hn HC.out).mono ?_; rintro e w1 ⟨⟨x, _, _, _, rfl⟩, hc1, ho1⟩
  have H1 := Lib.hid hc1; clear hc1
  go_wp2
  go_ret
  exact ⟨⟨_, rfl⟩, H1.out, ho1⟩
end Go.Proofs.Ytadcmngooobeiaa

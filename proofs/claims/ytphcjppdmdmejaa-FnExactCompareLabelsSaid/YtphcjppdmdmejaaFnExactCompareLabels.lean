/- The walk of the law on CompareLabels. -/
import Derived.Test.YtphcjppdmdmejaaCmp2
import Derived.Test.YtphcjppdmdmejaaIsLab
import Derived.Deep.RegionWith
import Derived.Deep.DeepCutAuto
namespace Go.Proofs.Ytphcjppdmdmejaa.fnExactCompareLabels
open Go.RowKit
set_option maxHeartbeats 1000000 in
theorem walk (a b : Int) (s : ByteArray) (_ha : -9223372036854775808 ≤ a ∧ a ≤ 9223372036854775807) (_hb : -9223372036854775808 ≤ b ∧ b ≤ 9223372036854775807) (hs : s.size ≤ maxLen)
    (a' b' : Int) (t : ByteArray) (_ha' : -9223372036854775808 ≤ a' ∧ a' ≤ 9223372036854775807) (_hb' : -9223372036854775808 ≤ b' ∧ b' ≤ 9223372036854775807) (ht : t.size ≤ maxLen) (w : World) :
    Calls Try.prog 9 #[.agg #[.int .i64 a, .int .i64 b, .string s], .agg #[.int .i64 a', .int .i64 b', .string t]] w fun e w' => e = .returned (.bool true) ∧ Below w.heap.size w w' := by
  clear _ha _hb _ha' _hb'
  by_cases hbig : (1048576 : Int) < (s.size : Int)
  · go_enter Try.func9, Try.ntmps9
    go_wp2_with fail
    refine (sz_big _ _ _ _ _ hs (by omega) (by omega)).mono ?_; rintro e w1 ⟨rfl, hb1⟩
    go_wp2
    go_ret
    exact ⟨rfl, (((Below.refl _ _).alloc (Nat.le_refl _) _).alloc (by simp) _).trans (hb1.mono (by simp; omega))⟩
  · have hn : ¬ ((1048576 : Int) - (s.size : Int) < 0) := by omega
    go_enter Try.func9, Try.ntmps9
    go_wp2_with fail
    refine (sz_ok _ _ _ _ _ hs (by omega) (by omega)).mono ?_; rintro e w1 ⟨rfl, hb1⟩
    obtain ⟨hc1, hf1⟩ := old_cells hb1
    have hz1 : w.heap.size + 1 < w1.heap.size := by have := hb1.size; simp at this; omega
    have hz1' : w.heap.size < w1.heap.size := by omega
    have hbw : Below w.heap.size w w1 := (((Below.refl _ _).alloc (Nat.le_refl _) _).alloc (by simp) _).trans (hb1.mono (by simp; omega))
    by_cases hbig2 : (1048576 : Int) - (s.size : Int) < (t.size : Int)
    · go_wp2_with fail
      refine (sz_big _ _ _ _ _ ht (by omega) (by omega)).mono ?_; rintro e w2 ⟨rfl, hb2⟩
      go_wp2
      go_ret
      exact ⟨rfl, hbw.trans (hb2.mono (by omega))⟩
    · have hn2 : ¬ ((1048576 : Int) - (s.size : Int) - (t.size : Int) < 0) := by omega
      go_wp2_with fail
      refine (sz_ok _ _ _ _ _ ht (by omega) (by omega)).mono ?_; rintro e w2 ⟨rfl, hb2⟩
      have c0 : w2.cell? ⟨w.heap.size, 0, none⟩ = some (.int .i64 a) := by rw [(old_cells hb2).1 _ _ hz1', hc1 _ _ (by simp <;> omega)]; go_simp
      have c1 : w2.cell? ⟨w.heap.size, 1, none⟩ = some (.int .i64 b) := by rw [(old_cells hb2).1 _ _ hz1', hc1 _ _ (by simp <;> omega)]; go_simp
      have c2 : w2.cell? ⟨w.heap.size, 2, none⟩ = some (.string s) := by rw [(old_cells hb2).1 _ _ hz1', hc1 _ _ (by simp <;> omega)]; go_simp
      have d0 : w2.cell? ⟨w.heap.size + 1, 0, none⟩ = some (.int .i64 a') := by rw [(old_cells hb2).1 _ _ hz1, hc1 _ _ (by simp <;> omega)]; go_simp
      have d1 : w2.cell? ⟨w.heap.size + 1, 1, none⟩ = some (.int .i64 b') := by rw [(old_cells hb2).1 _ _ hz1, hc1 _ _ (by simp <;> omega)]; go_simp
      have d2 : w2.cell? ⟨w.heap.size + 1, 2, none⟩ = some (.string t) := by rw [(old_cells hb2).1 _ _ hz1, hc1 _ _ (by simp <;> omega)]; go_simp
      have hz2 : w.heap.size + 1 < w2.heap.size := by have := hb2.size; omega
      have hz2' : w.heap.size < w2.heap.size := by omega
      have hbw2 := hbw.trans (hb2.mono (by omega))
      clear hc1 hf1 hb1 hb2 hz1 hz1' hbw
      go_wp2_with fail
      go_cut [6] (fun v wx => v = .int .i64 (cmpL a b s a' b' t) ∧ Below w2.heap.size w2 wx)
      case first =>
        go_region_with (first
          | (go_at_call 22; refine (to_label _ _ _ _).mono ?_; rintro e u ⟨rfl, hu⟩; (first | (have hcu : ∀ (b o : Nat), b < w2.heap.size → u.cell? ⟨b, o, none⟩ = w2.cell? ⟨b, o, none⟩ := (old_cells hu).1) | skip); (first | (have hbu : Below w2.heap.size w2 u := below_undrew hu) | (have hbu' : Below w2.heap.size w2 u := hbu.trans (hu.mono hbu.size))))
          | (go_at_call 26; refine (cmp_spec _ _ _ _ _ _ _).mono ?_; rintro e u ⟨rfl, hu⟩; have hbz : Below w2.heap.size w2 u := hbu'.trans (hu.mono hbu'.size)))
        all_goals (go_wp2_with fail; go_meet; exact ⟨rfl, hbz⟩)
      case rest =>
        obtain ⟨rfl, hb3⟩ := hcut
        have hq : (cmpL a b s a' b' t != cmpL a b s a' b' t) = false := by simp
        replace c0 : wc.cell? ⟨w.heap.size, 0, none⟩ = some (.int .i64 a) := by rw [(old_cells hb3).1 _ _ hz2', c0]
        replace c1 : wc.cell? ⟨w.heap.size, 1, none⟩ = some (.int .i64 b) := by rw [(old_cells hb3).1 _ _ hz2', c1]
        replace c2 : wc.cell? ⟨w.heap.size, 2, none⟩ = some (.string s) := by rw [(old_cells hb3).1 _ _ hz2', c2]
        replace d0 : wc.cell? ⟨w.heap.size + 1, 0, none⟩ = some (.int .i64 a') := by rw [(old_cells hb3).1 _ _ hz2, d0]
        replace d1 : wc.cell? ⟨w.heap.size + 1, 1, none⟩ = some (.int .i64 b') := by rw [(old_cells hb3).1 _ _ hz2, d1]
        replace d2 : wc.cell? ⟨w.heap.size + 1, 2, none⟩ = some (.string t) := by rw [(old_cells hb3).1 _ _ hz2, d2]
        have hbw3 := hbw2.trans (hb3.mono (by omega))
        replace hz2' : w.heap.size < wc.heap.size := by have := hb3.size; omega
        replace hz2 : w.heap.size + 1 < wc.heap.size := by have := hb3.size; omega
        clear hb3 hbw2
        go_wp2_with fail
        go_cut [7] (fun v wy => v = .int .i64 (cmpL a b s a' b' t) ∧ Below wc.heap.size wc wy)
        case first =>
          go_region_with (first
            | (go_at_call 22; refine (to_label _ _ _ _).mono ?_; rintro e u ⟨rfl, hu⟩; (first | (have hcu : ∀ (b o : Nat), b < wc.heap.size → u.cell? ⟨b, o, none⟩ = wc.cell? ⟨b, o, none⟩ := (old_cells hu).1) | skip); (first | (have hbu : Below wc.heap.size wc u := below_undrew hu) | (have hbu' : Below wc.heap.size wc u := hbu.trans (hu.mono hbu.size))))
            | (go_at_call 13; refine (cmp_impl _ _ _ _ _ _ _).mono ?_; rintro e u ⟨rfl, hu⟩; have hbz : Below wc.heap.size wc u := hbu'.trans (hu.mono hbu'.size)))
          all_goals (go_wp2_with fail; go_meet; exact ⟨rfl, hbz⟩)
        case rest =>
          obtain ⟨rfl, hb4⟩ := hcut
          go_wp2
          go_ret
          exact ⟨rfl, hbw3.trans (hb4.mono (by omega))⟩
end Go.Proofs.Ytphcjppdmdmejaa.fnExactCompareLabels

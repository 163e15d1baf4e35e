/- Rates: what the exact laws make and compare. -/
import Derived.Test.YtakpeakahofjlaaZone
import Derived.Test.YtakpeakahofjlaaBytes
import Derived.Deep.RegionHeld3
namespace Go.Proofs.Ytakpeakahofjlaa
open Go.RowKit
structure Rt where
  z : Int
  s : Int
  l : Int
  p : Int
def rC (r : Rt) : List Value := [.int .i64 r.z, .int .i64 r.s, .int .i64 r.l, .int .i64 r.p]
theorem rC_len (r : Rt) : (rC r).length = 4 := rfl
def rV (r : Rt) : Value := .agg #[.int .i64 r.z, .int .i64 r.s, .int .i64 r.l, .int .i64 r.p]
theorem rate_info : (Try.prog.info? 87).map (fun i => (i.zero, i.size, i.bytes)) = some (some (.agg #[.int .i64 0, .int .i64 0, .int .i64 0, .int .i64 0]), 4, 32) := by kernel_rfl
theorem InK.rate {w : World} {A : Option Addr} {l : List Rt} (h : InK 4 rC w A l) (j : Nat) (hj : j < l.length) : ∃ g, A = some ⟨g, 0, none⟩ ∧ g < w.heap.size ∧ w.cell? ⟨g, j * 4, none⟩ = some (.int .i64 l[j].z) ∧ w.cell? ⟨g, j * 4 + 1, none⟩ = some (.int .i64 l[j].s) ∧ w.cell? ⟨g, j * 4 + 2, none⟩ = some (.int .i64 l[j].l) ∧ w.cell? ⟨g, j * 4 + 3, none⟩ = some (.int .i64 l[j].p) := by
  obtain ⟨g, h1, h2, h3⟩ := h j hj
  exact ⟨g, h1, h2, h3 0 (by omega), h3 1 (by omega), h3 2 (by omega), h3 3 (by omega)⟩
theorem RawK.rate {w : World} {A : Option Addr} {l : List Rt} (h : RawK 4 rC w A l) (j : Nat) (hj : j < l.length) : ∃ b o, A = some ⟨b, o, none⟩ ∧ b < w.heap.size ∧ w.cell? ⟨b, o + j * 4, none⟩ = some (.int .i64 l[j].z) ∧ w.cell? ⟨b, o + j * 4 + 1, none⟩ = some (.int .i64 l[j].s) ∧ w.cell? ⟨b, o + j * 4 + 2, none⟩ = some (.int .i64 l[j].l) ∧ w.cell? ⟨b, o + j * 4 + 3, none⟩ = some (.int .i64 l[j].p) := by
  obtain ⟨b, o, h1, h2, h3⟩ := h j hj
  exact ⟨b, o, h1, h2, h3 0 (by omega), h3 1 (by omega), h3 2 (by omega), h3 3 (by omega)⟩
set_option maxHeartbeats 400000 in
theorem to_rate (a b c d : Int) (w : World) :
    Calls Try.prog 87 #[.agg #[.int .i64 a, .int .i64 b, .int .i64 c, .int .i64 d]] w fun e w' => e = .returned (.agg #[.int .i64 a, .int .i64 b, .int .i64 c, .int .i64 d]) ∧ Below w.heap.size w w' := by
  go_enter Try.func87, Try.ntmps87
  go_wp2
  exact bodyPost_ret (v := .agg #[.int .i64 a, .int .i64 b, .int .i64 c, .int .i64 d]) (by simp [results, Try.results87, go_sem]) rfl ⟨rfl, (((Below.refl _ _).alloc (Nat.le_refl _) _).alloc (by simp) _).alloc (by simp; omega) _⟩
theorem sz_rates (A : Option Addr) (cap n : Nat) (left : Int) (w : World) (hn : n ≤ maxLen) (hl : 0 ≤ left ∧ left ≤ 1048576) :
    Calls Try.prog 52 #[.slice A n cap, .int .i64 left] w fun e w' => SzPost left n e ∧ Below w.heap.size w w' := by
  unfold maxLen at hn
  obtain ⟨hl0, hl1⟩ := hl
  by_cases h1 : left - (n : Int) < 0
  · go_enter Try.func52, Try.ntmps52
    go_wp2
    go_ret
    exact ⟨⟨-1, rfl, .inl rfl⟩, Below.refl _ _⟩
  · go_enter Try.func52, Try.ntmps52
    go_wp2
    go_ret
    exact ⟨⟨_, rfl, .inr ⟨by omega, by omega, by omega⟩⟩, Below.refl _ _⟩
theorem make_rates (n : Nat) (hn : n ≤ 4398046511103) : ∀ W : World, (Instr.makeSlice 38 (.int .i64 (n : Int)) (.int .i64 (n : Int))).run Try.prog W = .ok (.slice (some ⟨W.heap.size, 0, none⟩) n n) (W.alloc (.cells (madeCells #[.int .i64 0, .int .i64 0, .int .i64 0, .int .i64 0] (n * 4)) 87)) := by
  intro W
  obtain ⟨i0, hi0, hz0, hz1, hz2⟩ := info_parts rate_info
  have h := run_make (P := Try.prog) W 38 87 i0 (.agg #[.int .i64 0, .int .i64 0, .int .i64 0, .int .i64 0]) Try.underlying38 hi0 hz0 .i64 .i64 n n (by omega) (by omega) (by rw [hz2]; omega) (by omega)
  rw [hz1] at h
  simpa [Value.cells] using h
theorem made_rate (w : World) {g : Nat} (l : List Rt) (j : Nat) (h : Made 87 4 rC w g l j) (hj : j < l.length) :
    Made 87 4 rC ((((w.setCell ⟨g, j * 4, none⟩ (.int .i64 l[j].z)).setCell ⟨g, j * 4 + 1, none⟩ (.int .i64 l[j].s)).setCell ⟨g, j * 4 + 2, none⟩ (.int .i64 l[j].l)).setCell ⟨g, j * 4 + 3, none⟩ (.int .i64 l[j].p)) g l (j + 1) := by
  obtain ⟨cs, h1, h2, h3⟩ := h
  refine ⟨(((cs.set (j * 4) (.int .i64 l[j].z)).set (j * 4 + 1) (.int .i64 l[j].s)).set (j * 4 + 2) (.int .i64 l[j].l)).set (j * 4 + 3) (.int .i64 l[j].p), ?_, by simp [h2], ?_⟩
  · rw [heap_set (heap_set (heap_set (heap_set h1 _ _) _ _) _ _)]; simp
  · rw [flat_take l j hj, ← h3]
    have hl : (cs.take (j * 4)).length = j * 4 := by rw [List.length_take]; omega
    apply List.ext_getElem
    · simp [rC]; omega
    · intro i h5 h6
      simp only [List.length_append, hl, rC, List.length_cons, List.length_nil] at h6
      by_cases hi : i < j * 4
      · rw [List.getElem_append_left (by omega)]
        simp only [List.getElem_take]
        rw [List.getElem_set_ne (by omega), List.getElem_set_ne (by omega), List.getElem_set_ne (by omega), List.getElem_set_ne (by omega)]
      · rw [List.getElem_append_right (by omega)]
        simp only [List.getElem_take, hl, rC]
        have hc : i = j * 4 ∨ i = j * 4 + 1 ∨ i = j * 4 + 2 ∨ i = j * 4 + 3 := by omega
        rcases hc with rfl | rfl | rfl | rfl
        · simp
        · simp
        · simp
        · simp
set_option maxRecDepth 100000 in
set_option maxHeartbeats 400000 in
theorem to_rates (A : Option Addr) (cap : Nat) (l : List Rt) (w : World) (hA : RawK 4 rC w A l) (hn : l.length ≤ 1048576) :
    Calls Try.prog 54 #[.slice A l.length cap] w fun e w' => e = .returned (.slice (some ⟨w.heap.size, 0, none⟩) l.length l.length) ∧ OwnK 87 4 rC w' w.heap.size (.slice (some ⟨w.heap.size, 0, none⟩) l.length l.length) l ∧ Below w.heap.size w w' := by
  have HA := Lib.hid hA; clear hA
  have hmk := make_rates l.length (by omega)
  have h0 : Made 87 4 rC (w.alloc (.cells (madeCells #[.int .i64 0, .int .i64 0, .int .i64 0, .int .i64 0] (l.length * 4)) 87)) w.heap.size l 0 :=
    ⟨(madeCells #[.int .i64 0, .int .i64 0, .int .i64 0, .int .i64 0] (l.length * 4)).toList, by rw [Array.toArray_toList]; exact heap_alloc_new w _, by simp [size_madeCells], by simp⟩
  have hb0 := (Below.refl w.heap.size w).alloc (Nat.le_refl _) (.cells (madeCells #[.int .i64 0, .int .i64 0, .int .i64 0, .int .i64 0] (l.length * 4)) 87)
  have hz0 : w.heap.size < (w.alloc (.cells (madeCells #[.int .i64 0, .int .i64 0, .int .i64 0, .int .i64 0] (l.length * 4)) 87)).heap.size := by simp
  go_enter Try.func54, Try.ntmps54
  go_wp2
  clear hmk
  obtain ⟨g, hg⟩ : ∃ g, g = w.heap.size := ⟨_, rfl⟩
  rw [← hg] at h0 hb0 hz0 ⊢
  have hgl : g ≤ w.heap.size := by omega
  have hgu : w.heap.size ≤ g := by omega
  have HG := Lib.hid hg; clear hg
  have H0 := Lib.hid h0; clear h0
  generalize w.alloc (.cells (madeCells #[.int .i64 0, .int .i64 0, .int .i64 0, .int .i64 0] (l.length * 4)) 87) = W at *
  go_loopw [4] (fun i wr => ∃ k : Nat, k ≤ l.length ∧ i = .int .i64 k ∧ Made 87 4 rC wr g l k ∧ Below g w wr ∧ g < wr.heap.size) (fun i _ => l.length - (intOf i).toNat)
  case atStart => exact ⟨0, Nat.zero_le _, rfl, H0.out, hb0, hz0⟩
  case round =>
    obtain ⟨k, hk, rfl, hmd, hb, hgz⟩ := hrel
    clear hb0 hz0
    have HM := Lib.hid hmd; clear hmd
    by_cases hlt : (k : Int) < (l.length : Int)
    · have hkn : k < l.length := by omega
      obtain ⟨b, o, rfl, hab, c0, c1, c2, c3⟩ := (HA.out.below (hb.mono hgu)).rate k hkn
      go_wp2_with fail
      refine (to_rate _ _ _ _ wr).mono ?_; rintro e w1 ⟨rfl, hb1⟩
      have HM1 := Lib.hid (HM.out.below hgz hb1)
      have hb2 := hb.trans (hb1.mono (Nat.le_of_lt hgz))
      have hz1 := Nat.lt_of_lt_of_le hgz hb1.size
      clear hb1 c0 c1 c2 c3
      obtain ⟨x0, d0⟩ := HM1.out.at hkn 0 (by omega)
      obtain ⟨x1, d1⟩ := HM1.out.at hkn 1 (by omega)
      obtain ⟨x2, d2⟩ := HM1.out.at hkn 2 (by omega)
      obtain ⟨x3, d3⟩ := HM1.out.at hkn 3 (by omega)
      rw [Nat.add_zero] at d0
      have f0 := HM1.out.free (k * 4)
      have f1 := HM1.out.free (k * 4 + 1)
      have f2 := HM1.out.free (k * 4 + 2)
      have f3 := HM1.out.free (k * 4 + 3)
      have HS := Lib.hid (made_rate w1 l k HM1.out hkn)
      go_wp2
      go_roundw
      case rel => exact ⟨k + 1, by omega, by go_num, HS.out, (((hb2.setCell (Nat.le_refl _) _).setCell (Nat.le_refl _) _).setCell (Nat.le_refl _) _).setCell (Nat.le_refl _) _, by simpa [World.setCell] using hz1⟩
      case measure => simp [intOf]; omega
    · obtain rfl : k = l.length := by omega
      go_wp2
      go_ret
      exact ⟨by rw [← HG.out]; rfl, by rw [← HG.out]; exact HM.out.owns (by unfold maxLen; omega), by rw [← HG.out]; exact hb⟩
set_option maxHeartbeats 400000 in
theorem eq_rate (a b c d : Int) (w : World) :
    Calls Try.prog 90 #[.agg #[.int .i64 a, .int .i64 b, .int .i64 c, .int .i64 d], .agg #[.int .i64 a, .int .i64 b, .int .i64 c, .int .i64 d]] w fun e w' => e = .returned (.bool true) ∧ Below w.heap.size w w' := by
  have h1 : (a != a) = false := by simp
  have h2 : (b != b) = false := by simp
  have h3 : (c != c) = false := by simp
  have h4 : (d != d) = false := by simp
  go_enter Try.func90, Try.ntmps90
  go_wp2
  go_ret
  exact ⟨rfl, ((Below.refl _ _).alloc (Nat.le_refl _) _).alloc (by simp) _⟩
set_option maxRecDepth 100000 in
set_option maxHeartbeats 400000 in
theorem eq_rates (A B : Option Addr) (ca cb : Nat) (l : List Rt) (w : World) (hA : InK 4 rC w A l) (hB : InK 4 rC w B l) (hn : l.length ≤ 1048576) :
    Calls Try.prog 56 #[.slice A l.length ca, .slice B l.length cb] w fun e w' => e = .returned (.bool true) ∧ Below w.heap.size w w' := by
  have HA := Lib.hid hA; have HB := Lib.hid hB; clear hA hB
  have hlb : ((l.length : Int) != (l.length : Int)) = false := by simp
  go_enter Try.func56, Try.ntmps56
  go_wp2
  go_loopw [5] (fun i wr => ∃ j : Nat, j ≤ l.length ∧ i = .int .i64 j ∧ Below w.heap.size w wr) (fun i _ => l.length - (intOf i).toNat)
  case atStart => exact ⟨0, Nat.zero_le _, rfl, Below.refl _ _⟩
  case round =>
    obtain ⟨j, hj, rfl, hb⟩ := hrel
    by_cases hlt : (j : Int) < (l.length : Int)
    · have hjn : j < l.length := by omega
      obtain ⟨g, rfl, hg, k0, k1, k2, k3⟩ := (HA.out.below hb).rate j hjn
      obtain ⟨g', rfl, hg', m0, m1, m2, m3⟩ := (HB.out.below hb).rate j hjn
      obtain ⟨x0, hx0⟩ : ∃ x, x = l[j].z := ⟨_, rfl⟩
      rw [← hx0] at k0 m0; clear hx0
      obtain ⟨x1, hx1⟩ : ∃ x, x = l[j].s := ⟨_, rfl⟩
      rw [← hx1] at k1 m1; clear hx1
      obtain ⟨x2, hx2⟩ : ∃ x, x = l[j].l := ⟨_, rfl⟩
      rw [← hx2] at k2 m2; clear hx2
      obtain ⟨x3, hx3⟩ : ∃ x, x = l[j].p := ⟨_, rfl⟩
      rw [← hx3] at k3 m3; clear hx3
      have hbz := hb.size
      obtain ⟨W, hW⟩ : ∃ W : World, W = wr := ⟨_, rfl⟩
      subst hW
      go_wp2_with fail
      go_region_held3 (fun w' => w'.cell? ⟨g, j * 4, none⟩ = some (.int .i64 x0) ∧ w'.cell? ⟨g, j * 4 + 1, none⟩ = some (.int .i64 x1) ∧ w'.cell? ⟨g, j * 4 + 2, none⟩ = some (.int .i64 x2) ∧ w'.cell? ⟨g, j * 4 + 3, none⟩ = some (.int .i64 x3) ∧ w'.cell? ⟨g', j * 4, none⟩ = some (.int .i64 x0) ∧ w'.cell? ⟨g', j * 4 + 1, none⟩ = some (.int .i64 x1) ∧ w'.cell? ⟨g', j * 4 + 2, none⟩ = some (.int .i64 x2) ∧ w'.cell? ⟨g', j * 4 + 3, none⟩ = some (.int .i64 x3))
        (go_keep)
        (first
          | (go_at_call 90; refine (eq_rate x0 x1 x2 x3 _).mono ?_; (rintro e u ⟨rfl, hu⟩; (first | (have hb1 : Below W.heap.size W u := below_undrew hu) | (have hb1 : Below W.heap.size W u := hu)); have ek0 := (hb1.cell (p := ⟨g, j * 4, none⟩) hg).trans k0; have ek1 := (hb1.cell (p := ⟨g, j * 4 + 1, none⟩) hg).trans k1; have ek2 := (hb1.cell (p := ⟨g, j * 4 + 2, none⟩) hg).trans k2; have ek3 := (hb1.cell (p := ⟨g, j * 4 + 3, none⟩) hg).trans k3; have em0 := (hb1.cell (p := ⟨g', j * 4, none⟩) hg').trans m0; have em1 := (hb1.cell (p := ⟨g', j * 4 + 1, none⟩) hg').trans m1; have em2 := (hb1.cell (p := ⟨g', j * 4 + 2, none⟩) hg').trans m2; have em3 := (hb1.cell (p := ⟨g', j * 4 + 3, none⟩) hg').trans m3)))
      all_goals
        go_wp2
        go_roundw
        case rel => exact ⟨j + 1, by omega, by go_num, hb.trans (hb1.mono hbz)⟩
        case measure => simp [intOf]; omega
    · go_wp2
      go_ret
      exact ⟨rfl, hb⟩
end Go.Proofs.Ytakpeakahofjlaa

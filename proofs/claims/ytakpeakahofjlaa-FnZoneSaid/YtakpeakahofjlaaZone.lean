/- Zones: what the exact laws make and compare. -/
import Derived.Test.YtakpeakahofjlaaOwnK
import Derived.Test.YtakpeakahofjlaaBytes
import Derived.Deep.RegionHeld3
import Derived.Deep.Slices
namespace Go.Proofs.Ytakpeakahofjlaa
open Go.RowKit
abbrev Zn := ByteArray × ByteArray
def zC (z : Zn) : List Value := [.string z.1, .string z.2]
theorem zC_len (z : Zn) : (zC z).length = 2 := rfl
theorem zone_info : (Try.prog.info? 37).map (fun i => (i.zero, i.size, i.bytes)) = some (some (.agg #[.string ⟨#[]⟩, .string ⟨#[]⟩]), 2, 32) := by kernel_rfl
theorem InK.zone {w : World} {A : Option Addr} {l : List Zn} (h : InK 2 zC w A l) (j : Nat) (hj : j < l.length) : ∃ g, A = some ⟨g, 0, none⟩ ∧ g < w.heap.size ∧ w.cell? ⟨g, j * 2, none⟩ = some (.string l[j].1) ∧ w.cell? ⟨g, j * 2 + 1, none⟩ = some (.string l[j].2) := by
  obtain ⟨g, h1, h2, h3⟩ := h j hj
  exact ⟨g, h1, h2, h3 0 (by omega), h3 1 (by omega)⟩
theorem RawK.zone {w : World} {A : Option Addr} {l : List Zn} (h : RawK 2 zC w A l) (j : Nat) (hj : j < l.length) : ∃ b o, A = some ⟨b, o, none⟩ ∧ b < w.heap.size ∧ w.cell? ⟨b, o + j * 2, none⟩ = some (.string l[j].1) ∧ w.cell? ⟨b, o + j * 2 + 1, none⟩ = some (.string l[j].2) := by
  obtain ⟨b, o, h1, h2, h3⟩ := h j hj
  exact ⟨b, o, h1, h2, h3 0 (by omega), h3 1 (by omega)⟩
set_option maxHeartbeats 400000 in
theorem to_zone (s t : ByteArray) (w : World) :
    Calls Try.prog 84 #[.agg #[.string s, .string t]] w fun e w' => e = .returned (.agg #[.string s, .string t]) ∧ Below w.heap.size w w' := by
  go_enter Try.func84, Try.ntmps84
  go_wp2
  exact bodyPost_ret (v := .agg #[.string s, .string t]) (by simp [results, Try.results84, go_sem]) rfl ⟨rfl, (((Below.refl _ _).alloc (Nat.le_refl _) _).alloc (by simp) _).alloc (by simp; omega) _⟩
def SzPost (left : Int) (n : Nat) (e : Ending) : Prop := ∃ r : Int, e = .returned (.int .i64 r) ∧ (r = -1 ∨ (0 ≤ r ∧ r ≤ left ∧ (n : Int) ≤ left))
set_option maxHeartbeats 400000 in
theorem sz_zone (s t : ByteArray) (left : Int) (w : World) (hs : s.size ≤ maxLen) (ht : t.size ≤ maxLen) (hl : 0 ≤ left ∧ left ≤ 1048576) :
    Calls Try.prog 83 #[.agg #[.string s, .string t], .int .i64 left] w fun e w' => SzPost left (s.size + t.size) e ∧ Below w.heap.size w w' := by
  unfold maxLen at hs ht
  obtain ⟨hl0, hl1⟩ := hl
  by_cases h1 : left - (s.size : Int) < 0
  · go_enter Try.func83, Try.ntmps83
    go_wp2
    go_ret
    exact ⟨⟨-1, rfl, .inl rfl⟩, (Below.refl _ _).alloc (Nat.le_refl _) _⟩
  · by_cases h2 : left - (s.size : Int) - (t.size : Int) < 0
    · go_enter Try.func83, Try.ntmps83
      go_wp2
      go_ret
      exact ⟨⟨-1, rfl, .inl rfl⟩, (Below.refl _ _).alloc (Nat.le_refl _) _⟩
    · go_enter Try.func83, Try.ntmps83
      go_wp2
      go_ret
      exact ⟨⟨_, rfl, .inr ⟨by omega, by omega, by omega⟩⟩, (Below.refl _ _).alloc (Nat.le_refl _) _⟩
set_option maxRecDepth 100000 in
set_option maxHeartbeats 400000 in
theorem sz_zones (A : Option Addr) (cap : Nat) (l : List Zn) (left : Int) (w : World) (hA : RawK 2 zC w A l) (hs : ∀ z ∈ l, z.1.size ≤ maxLen ∧ z.2.size ≤ maxLen) (hn : l.length ≤ maxLen) (hl : 0 ≤ left ∧ left ≤ 1048576) :
    Calls Try.prog 47 #[.slice A l.length cap, .int .i64 left] w fun e w' => SzPost left l.length e ∧ Below w.heap.size w w' := by
  have HA := Lib.hid hA; clear hA
  have HS := Lib.hid hs; clear hs
  unfold maxLen at hn
  obtain ⟨hl0, hl1⟩ := hl
  by_cases h1 : left - (l.length : Int) < 0
  · go_enter Try.func47, Try.ntmps47
    go_wp2
    go_ret
    exact ⟨⟨-1, rfl, .inl rfl⟩, Below.refl _ _⟩
  · go_enter Try.func47, Try.ntmps47
    go_wp2
    go_loopw [1, 5] (fun r i wr => ∃ (j : Nat) (x : Int), j ≤ l.length ∧ i = .int .i64 j ∧ r = .int .i64 x ∧ 0 ≤ x ∧ x ≤ left ∧ Below w.heap.size w wr) (fun _ i _ => l.length - (intOf i).toNat)
    case atStart => exact ⟨0, _, Nat.zero_le _, rfl, rfl, by omega, by omega, Below.refl _ _⟩
    case round =>
      obtain ⟨j, x, hj, rfl, rfl, hx0, hx1, hb⟩ := hrel
      by_cases hlt : (j : Int) < (l.length : Int)
      · have hjn : j < l.length := by omega
        obtain ⟨b, o, rfl, hab, c0, c1⟩ := (HA.out.below hb).zone j hjn
        have hz := HS.out l[j] (List.getElem_mem hjn)
        have hbz := hb.size
        go_wp2_with fail
        refine (sz_zone _ _ x wr hz.1 hz.2 (by omega)).mono ?_; rintro e w1 ⟨⟨r, rfl, hr⟩, hb1⟩
        replace hb1 := hb.trans (hb1.mono hbz)
        clear c0 c1 hz
        rcases hr with rfl | ⟨hr0, hr1, _⟩
        · go_wp2
          go_ret
          exact ⟨⟨-1, rfl, .inl rfl⟩, hb1⟩
        · have hr2 : ¬ r < 0 := by omega
          go_wp2
          go_roundw
          case rel => exact ⟨j + 1, r, by omega, by go_num, rfl, hr0, by omega, hb1⟩
          case measure => simp [intOf]; omega
      · go_wp2
        go_ret
        exact ⟨⟨_, rfl, .inr ⟨hx0, hx1, by omega⟩⟩, hb⟩
theorem make_zones (n : Nat) (hn : n ≤ 4398046511103) : ∀ W : World, (Instr.makeSlice 30 (.int .i64 (n : Int)) (.int .i64 (n : Int))).run Try.prog W = .ok (.slice (some ⟨W.heap.size, 0, none⟩) n n) (W.alloc (.cells (madeCells #[.string ⟨#[]⟩, .string ⟨#[]⟩] (n * 2)) 37)) := by
  intro W
  obtain ⟨i0, hi0, hz0, hz1, hz2⟩ := info_parts zone_info
  have h := run_make (P := Try.prog) W 30 37 i0 (.agg #[.string ⟨#[]⟩, .string ⟨#[]⟩]) Try.underlying30 hi0 hz0 .i64 .i64 n n (by omega) (by omega) (by rw [hz2]; omega) (by omega)
  rw [hz1] at h
  simpa [Value.cells] using h
theorem made_zone (w : World) {g : Nat} (l : List Zn) (j : Nat) (h : Made 37 2 zC w g l j) (hj : j < l.length) :
    Made 37 2 zC ((w.setCell ⟨g, j * 2, none⟩ (.string l[j].1)).setCell ⟨g, j * 2 + 1, none⟩ (.string l[j].2)) g l (j + 1) := by
  obtain ⟨cs, h1, h2, h3⟩ := h
  refine ⟨(cs.set (j * 2) (.string l[j].1)).set (j * 2 + 1) (.string l[j].2), ?_, by simp [h2], ?_⟩
  · rw [heap_set (heap_set h1 _ _)]; simp
  · rw [flat_take l j hj, ← h3, show (j + 1) * 2 = j * 2 + 1 + 1 from by omega, List.take_succ_eq_append_getElem (by simp; omega), List.take_set_of_le (by omega), List.take_succ_eq_append_getElem (by simp; omega), List.take_set_of_le (by omega), List.append_assoc]
    congr 1
    simp [zC]
set_option maxRecDepth 100000 in
set_option maxHeartbeats 400000 in
theorem to_zones (A : Option Addr) (cap : Nat) (l : List Zn) (w : World) (hA : RawK 2 zC w A l) (hn : l.length ≤ 1048576) :
    Calls Try.prog 49 #[.slice A l.length cap] w fun e w' => e = .returned (.slice (some ⟨w.heap.size, 0, none⟩) l.length l.length) ∧ OwnK 37 2 zC w' w.heap.size (.slice (some ⟨w.heap.size, 0, none⟩) l.length l.length) l ∧ Below w.heap.size w w' := by
  have HA := Lib.hid hA; clear hA
  have hmk := make_zones l.length (by omega)
  have h0 : Made 37 2 zC (w.alloc (.cells (madeCells #[.string ⟨#[]⟩, .string ⟨#[]⟩] (l.length * 2)) 37)) w.heap.size l 0 :=
    ⟨(madeCells #[.string ⟨#[]⟩, .string ⟨#[]⟩] (l.length * 2)).toList, by rw [Array.toArray_toList]; exact heap_alloc_new w _, by simp [size_madeCells], by simp⟩
  have hb0 := (Below.refl w.heap.size w).alloc (Nat.le_refl _) (.cells (madeCells #[.string ⟨#[]⟩, .string ⟨#[]⟩] (l.length * 2)) 37)
  have hz0 : w.heap.size < (w.alloc (.cells (madeCells #[.string ⟨#[]⟩, .string ⟨#[]⟩] (l.length * 2)) 37)).heap.size := by simp
  go_enter Try.func49, Try.ntmps49
  go_wp2
  clear hmk
  obtain ⟨g, hg⟩ : ∃ g, g = w.heap.size := ⟨_, rfl⟩
  rw [← hg] at h0 hb0 hz0 ⊢
  have hgl : g ≤ w.heap.size := by omega
  have hgu : w.heap.size ≤ g := by omega
  have HG := Lib.hid hg; clear hg
  have H0 := Lib.hid h0; clear h0
  generalize w.alloc (.cells (madeCells #[.string ⟨#[]⟩, .string ⟨#[]⟩] (l.length * 2)) 37) = W at *
  go_loopw [4] (fun i wr => ∃ k : Nat, k ≤ l.length ∧ i = .int .i64 k ∧ Made 37 2 zC wr g l k ∧ Below g w wr ∧ g < wr.heap.size) (fun i _ => l.length - (intOf i).toNat)
  case atStart => exact ⟨0, Nat.zero_le _, rfl, H0.out, hb0, hz0⟩
  case round =>
    obtain ⟨k, hk, rfl, hmd, hb, hgz⟩ := hrel
    clear hb0 hz0
    have HM := Lib.hid hmd; clear hmd
    by_cases hlt : (k : Int) < (l.length : Int)
    · have hkn : k < l.length := by omega
      obtain ⟨b, o, rfl, hab, c0, c1⟩ := (HA.out.below (hb.mono hgu)).zone k hkn
      go_wp2_with fail
      refine (to_zone _ _ wr).mono ?_; rintro e w1 ⟨rfl, hb1⟩
      have HM1 := Lib.hid (HM.out.below hgz hb1)
      have hb2 := hb.trans (hb1.mono (Nat.le_of_lt hgz))
      have hz1 := Nat.lt_of_lt_of_le hgz hb1.size
      clear hb1 c0 c1
      obtain ⟨x0, d0⟩ := HM1.out.at hkn 0 (by omega)
      obtain ⟨x1, d1⟩ := HM1.out.at hkn 1 (by omega)
      rw [Nat.add_zero] at d0
      have f0 := HM1.out.free (k * 2)
      have f1 := HM1.out.free (k * 2 + 1)
      have HS := Lib.hid (made_zone w1 l k HM1.out hkn)
      go_wp2
      go_roundw
      case rel => exact ⟨k + 1, by omega, by go_num, HS.out, (hb2.setCell (Nat.le_refl _) _).setCell (Nat.le_refl _) _, by simpa [World.setCell] using hz1⟩
      case measure => simp [intOf]; omega
    · obtain rfl : k = l.length := by omega
      go_wp2
      go_ret
      exact ⟨by rw [← HG.out]; rfl, by rw [← HG.out]; exact HM.out.owns (by unfold maxLen; omega), by rw [← HG.out]; exact hb⟩
set_option maxHeartbeats 400000 in
theorem eq_zone (s t : ByteArray) (w : World) :
    Calls Try.prog 85 #[.agg #[.string s, .string t], .agg #[.string s, .string t]] w fun e w' => e = .returned (.bool true) ∧ Below w.heap.size w w' := by
  have h1 : (s.toList != s.toList) = false := by simp
  have h2 : (t.toList != t.toList) = false := by simp
  go_enter Try.func85, Try.ntmps85
  go_wp2
  go_ret
  exact ⟨rfl, ((Below.refl _ _).alloc (Nat.le_refl _) _).alloc (by simp) _⟩
set_option maxRecDepth 100000 in
set_option maxHeartbeats 400000 in
theorem eq_zones (A B : Option Addr) (ca cb : Nat) (l : List Zn) (w : World) (hA : InK 2 zC w A l) (hB : InK 2 zC w B l) (hn : l.length ≤ 1048576) :
    Calls Try.prog 50 #[.slice A l.length ca, .slice B l.length cb] w fun e w' => e = .returned (.bool true) ∧ Below w.heap.size w w' := by
  have HA := Lib.hid hA; have HB := Lib.hid hB; clear hA hB
  have hlb : ((l.length : Int) != (l.length : Int)) = false := by simp
  go_enter Try.func50, Try.ntmps50
  go_wp2
  go_loopw [5] (fun i wr => ∃ j : Nat, j ≤ l.length ∧ i = .int .i64 j ∧ Below w.heap.size w wr) (fun i _ => l.length - (intOf i).toNat)
  case atStart => exact ⟨0, Nat.zero_le _, rfl, Below.refl _ _⟩
  case round =>
    obtain ⟨j, hj, rfl, hb⟩ := hrel
    by_cases hlt : (j : Int) < (l.length : Int)
    · have hjn : j < l.length := by omega
      obtain ⟨g, rfl, hg, k0, k1⟩ := (HA.out.below hb).zone j hjn
      obtain ⟨g', rfl, hg', m0, m1⟩ := (HB.out.below hb).zone j hjn
      obtain ⟨s, hs⟩ : ∃ s, s = l[j].1 := ⟨_, rfl⟩
      obtain ⟨t, ht⟩ : ∃ t, t = l[j].2 := ⟨_, rfl⟩
      rw [← hs] at k0 m0; rw [← ht] at k1 m1
      clear hs ht
      have hbz := hb.size
      obtain ⟨W, hW⟩ : ∃ W : World, W = wr := ⟨_, rfl⟩
      subst hW
      go_wp2_with fail
      go_region_held3 (fun w' => w'.cell? ⟨g, j * 2, none⟩ = some (.string s) ∧ w'.cell? ⟨g, j * 2 + 1, none⟩ = some (.string t) ∧ w'.cell? ⟨g', j * 2, none⟩ = some (.string s) ∧ w'.cell? ⟨g', j * 2 + 1, none⟩ = some (.string t))
        (go_keep)
        (first
          | (go_at_call 85; refine (eq_zone s t _).mono ?_; (rintro e u ⟨rfl, hu⟩; (first | (have hb1 : Below W.heap.size W u := below_undrew hu) | (have hb1 : Below W.heap.size W u := hu)); have e0 := (hb1.cell (p := ⟨g, j * 2, none⟩) hg).trans k0; have e1 := (hb1.cell (p := ⟨g, j * 2 + 1, none⟩) hg).trans k1; have e2 := (hb1.cell (p := ⟨g', j * 2, none⟩) hg').trans m0; have e3 := (hb1.cell (p := ⟨g', j * 2 + 1, none⟩) hg').trans m1)))
      all_goals
        go_wp2
        go_roundw
        case rel => exact ⟨j + 1, by omega, by go_num, hb.trans (hb1.mono hbz)⟩
        case measure => simp [intOf]; omega
    · go_wp2
      go_ret
      exact ⟨rfl, hb⟩
end Go.Proofs.Ytakpeakahofjlaa

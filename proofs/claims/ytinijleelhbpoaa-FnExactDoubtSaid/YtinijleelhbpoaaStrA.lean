/- Texts and beliefs as a law's arguments: their size, their copies, and that copies are alike. -/
import Derived.Test.YtinijleelhbpoaaTrips
import Derived.Test.YtinijleelhbpoaaStrs
import Derived.Test.YtinijleelhbpoaaSz
import Derived.Test.YtinijleelhbpoaaMark
import Derived.Deep.RegionHeld3
namespace Go.Proofs.Ytinijleelhbpoaa
open Go.RowKit
def stC (s : ByteArray) : List Value := [.string s]
theorem stC_len (s : ByteArray) : (stC s).length = 1 := rfl
theorem strV_stC (l : List ByteArray) : strV l = l.flatMap stC := by
  induction l with
  | nil => rfl
  | cons a l ih => rw [List.flatMap_cons, ← ih]; rfl
theorem RawK.st {w : World} {A : Option Addr} {l : List ByteArray} (h : RawK 1 stC w A l) (j : Nat) (hj : j < l.length) : ∃ b o, A = some ⟨b, o, none⟩ ∧ b < w.heap.size ∧ w.cell? ⟨b, o + j, none⟩ = some (.string l[j]) := by
  obtain ⟨b, o, h1, h2, h3⟩ := h j hj
  refine ⟨b, o, h1, h2, ?_⟩
  have h4 := h3 0 (by omega)
  rw [Nat.mul_one, Nat.add_zero] at h4
  exact h4
set_option maxRecDepth 100000 in
set_option maxHeartbeats 1000000 in
theorem sz_sts (A : Option Addr) (cap : Nat) (l : List ByteArray) (left : Int) (w : World) (hA : RawK 1 stC w A l) (hs : ∀ z ∈ l, z.size ≤ maxLen) (hn : l.length ≤ maxLen) (hl : 0 ≤ left ∧ left ≤ 1048576) :
    Calls Try.prog 9 #[.slice A l.length cap, .int .i64 left] w fun e w' => SzPost left l.length e ∧ Below w.heap.size w w' := by
  have HA := Lib.hid hA; clear hA
  have HS := Lib.hid hs; clear hs
  unfold maxLen at hn
  obtain ⟨hl0, hl1⟩ := hl
  by_cases h1 : left - (l.length : Int) < 0
  · go_enter Try.func9, Try.ntmps9
    go_wp2
    go_ret
    exact ⟨⟨-1, rfl, .inl rfl⟩, Below.refl _ _⟩
  · go_enter Try.func9, Try.ntmps9
    go_wp2
    go_loopw [1, 5] (fun r i wr => ∃ (j : Nat) (x : Int), j ≤ l.length ∧ i = .int .i64 j ∧ r = .int .i64 x ∧ 0 ≤ x ∧ x ≤ left ∧ wr = w) (fun _ i _ => l.length - (intOf i).toNat)
    case atStart => exact ⟨0, _, Nat.zero_le _, rfl, rfl, by omega, by omega, rfl⟩
    case round =>
      obtain ⟨j, x, hj, rfl, rfl, hx0, hx1, rfl⟩ := hrel
      by_cases hlt : (j : Int) < (l.length : Int)
      · have hjn : j < l.length := by omega
        obtain ⟨b, o, rfl, hab, c0⟩ := HA.out.st j hjn
        have hz := HS.out l[j] (List.getElem_mem hjn)
        unfold maxLen at hz
        generalize l[j] = y at *
        by_cases hy : x - (y.size : Int) < 0
        · go_wp2
          go_ret
          exact ⟨⟨-1, rfl, .inl rfl⟩, Below.refl _ _⟩
        · go_wp2
          go_roundw
          case rel => exact ⟨j + 1, x - (y.size : Int), by omega, by go_num, by go_num, by omega, by omega, by first | rfl | trivial⟩
          case measure => simp [intOf]; omega
      · obtain rfl : j = l.length := by omega
        go_wp2
        go_ret
        exact ⟨⟨_, rfl, .inr ⟨by omega, by omega, by omega⟩⟩, Below.refl _ _⟩
theorem make_sts (n : Nat) (hn : n ≤ 1048576) : ∀ W : World, (Instr.makeSlice 22 (.int .i64 (n : Int)) (.int .i64 (n : Int))).run Try.prog W = .ok (.slice (some ⟨W.heap.size, 0, none⟩) n n) (W.alloc (.cells (madeCells #[.string ⟨#[]⟩] (n * 1)) 9)) := by
  intro W
  obtain ⟨i0, hi0, hz0, hz1, hz2⟩ := info_parts str_info
  have h := run_make (P := Try.prog) W 22 9 i0 (.string ⟨#[]⟩) Try.underlying22 hi0 hz0 .i64 .i64 n n (by omega) (by omega) (by rw [hz2]; omega) (by omega)
  rw [hz1] at h
  simpa [Value.cells] using h
theorem made_st (w : World) {g : Nat} (l : List ByteArray) (j : Nat) (h : Made 9 1 stC w g l j) (hj : j < l.length) : Made 9 1 stC (w.setCell ⟨g, j, none⟩ (.string l[j])) g l (j + 1) := by
  have h1 := Made.step stC_len h hj
  rw [Nat.mul_one] at h1
  exact h1
set_option maxRecDepth 100000 in
set_option maxHeartbeats 1000000 in
theorem to_sts (A : Option Addr) (cap : Nat) (l : List ByteArray) (w : World) (hA : RawK 1 stC w A l) (hn : l.length ≤ 1048576) :
    Calls Try.prog 11 #[.slice A l.length cap] w fun e w' => e = .returned (.slice (some ⟨w.heap.size, 0, none⟩) l.length l.length) ∧ OwnStr w' w.heap.size (.slice (some ⟨w.heap.size, 0, none⟩) l.length l.length) l ∧ Below w.heap.size w w' := by
  have HA := Lib.hid hA; clear hA
  have hmk := make_sts l.length (by omega)
  have h0 : Made 9 1 stC (w.alloc (.cells (madeCells #[.string ⟨#[]⟩] (l.length * 1)) 9)) w.heap.size l 0 :=
    ⟨(madeCells #[.string ⟨#[]⟩] (l.length * 1)).toList, by rw [Array.toArray_toList]; exact heap_alloc_new w _, by simp [size_madeCells], by simp⟩
  have hb0 := (Below.refl w.heap.size w).alloc (Nat.le_refl _) (.cells (madeCells #[.string ⟨#[]⟩] (l.length * 1)) 9)
  have hz0 : w.heap.size < (w.alloc (.cells (madeCells #[.string ⟨#[]⟩] (l.length * 1)) 9)).heap.size := by simp
  go_enter Try.func11, Try.ntmps11
  go_wp2
  clear hmk
  obtain ⟨g, hg⟩ : ∃ g, g = w.heap.size := ⟨_, rfl⟩
  rw [← hg] at h0 hb0 hz0 ⊢
  have hgl : g ≤ w.heap.size := by omega
  have hgu : w.heap.size ≤ g := by omega
  have HG := Lib.hid hg; clear hg
  have H0 := Lib.hid h0; clear h0
  simp only [Nat.mul_one] at *
  generalize w.alloc (.cells (madeCells #[.string ⟨#[]⟩] l.length) 9) = W at *
  go_loopw [4] (fun i wr => ∃ k : Nat, k ≤ l.length ∧ i = .int .i64 k ∧ Hid (Made 9 1 stC wr g l k) ∧ Below g w wr ∧ g < wr.heap.size) (fun i _ => l.length - (intOf i).toNat)
  case atStart => exact ⟨0, Nat.zero_le _, rfl, H0, hb0, hz0⟩
  case round =>
    obtain ⟨k, hk, rfl, HM, hb, hgz⟩ := hrel
    clear hb0 hz0
    by_cases hlt : (k : Int) < (l.length : Int)
    · have hkn : k < l.length := by omega
      obtain ⟨b, o, rfl, hab, c0⟩ := (HA.out.below (hb.mono hgu)).st k hkn
      obtain ⟨x0, d0⟩ := HM.out.at hkn 0 (by omega)
      rw [Nat.add_zero, Nat.mul_one] at d0
      have f0 := HM.out.free k
      have HS := Lib.hid (made_st wr l k HM.out hkn)
      go_wp2
      go_roundw
      case rel => exact ⟨k + 1, by omega, by go_num, HS, hb.setCell (Nat.le_refl _) _, by simpa [World.setCell] using hgz⟩
      case measure => simp [intOf]; omega
    · obtain rfl : k = l.length := by omega
      go_wp2
      go_ret
      refine ⟨by rw [← HG.out]; rfl, ?_, by rw [← HG.out]; exact hb⟩
      rw [← HG.out]
      have h := HM.out.owns (by unfold maxLen; omega)
      unfold OwnK at h
      unfold OwnStr
      rw [strV_stC]
      exact h
end Go.Proofs.Ytinijleelhbpoaa

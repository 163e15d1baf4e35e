/- The contracts of the texts that write a label's body. -/
import Derived.Test.YtichnpjpldkceaaDoorPad
import Derived.Test.YtichnpjpldkceaaDoorFmt
import Derived.Test.YtichnpjpldkceaaDoorIsLab
import Derived.Deep.RegionWith
namespace Go.Proofs.YtichnpjpldkceaaDoor
open Go.RowKit
def bodyS (a b : Int) (s : ByteArray) : ByteArray := itoaS a ++ padS 9 b.toNat ++ s
theorem itoaS_size (a : Int) (h : -9223372036854775808 ≤ a ∧ a ≤ 9223372036854775807) : (itoaS a).size ≤ 21 := by
  have := Lib.itoa_length_le a h.1 h.2
  simpa [itoaS, ByteArray.size] using this
theorem dec_len9 (b : Nat) (h : b < 10 ^ 9) : (Lib.decDigits b).length ≤ 9 := by
  have := congrArg List.length (lowD_pad 9 b (by omega) h)
  rw [lowD_len] at this
  unfold padL at this
  simp only [List.length_append, List.length_replicate] at this
  omega
theorem padS_size (d n : Nat) (h0 : 0 < d) (h : n < 10 ^ d) : (padS d n).size = d := by
  have := congrArg List.length (lowD_pad d n h0 h)
  rw [lowD_len] at this
  simp [padS, ByteArray.size, ← this]
set_option maxRecDepth 100000 in
set_option maxHeartbeats 1000000 in
theorem body_impl (a : Int) (b : Nat) (s : ByteArray) (w : World) (ha : -9223372036854775808 ≤ a ∧ a ≤ 9223372036854775807) (hb : b < 10 ^ 9) (hs : s.size ≤ 1048576) (hp : PowIs w) :
    Calls Tryd.prog 65 #[.agg #[.int .i64 a, .int .i64 b, .string s]] w fun e w' => e = .returned (.string (bodyS a b s)) ∧ Below w.heap.size w w' := by
  have hx := itoaS_size a ha
  have hy := padS_size 9 b (by omega) hb
  have HA := Lib.hid ha; clear ha
  have HB := Lib.hid hb; clear hb
  have HP := Lib.hid hp; clear hp
  have H1 := Lib.hid (show bodyS a b s = itoaS a ++ padS 9 b ++ s from rfl)
  obtain ⟨x, hxe⟩ : ∃ x, x = itoaS a := ⟨_, rfl⟩
  obtain ⟨y, hye⟩ : ∃ y, y = padS 9 b := ⟨_, rfl⟩
  rw [← hxe] at hx; rw [← hye] at hy
  have hy' : y.size ≤ 9 := by omega
  have HX := Lib.hid hxe; have HY := Lib.hid hye
  clear hxe hye hy
  have o1 : ¬ 9223372036854775807 < x.size + y.size := by omega
  have o2 : ¬ 9223372036854775807 < x.size + y.size + s.size := by omega
  have o1' : ¬ (9223372036854775807 : Int) < (x.size : Int) + (y.size : Int) := by omega
  go_enter Tryd.func65, Tryd.ntmps65
  go_wp2_with fail
  obtain ⟨W, hW⟩ : ∃ W, W = w.alloc (.cells #[.int .i64 a, .int .i64 b, .string s] 29) := ⟨_, rfl⟩
  rw [← hW]
  have c0 : W.cell? ⟨w.heap.size, 0, none⟩ = some (.int .i64 a) := by rw [hW]; go_simp
  have c1 : W.cell? ⟨w.heap.size, 1, none⟩ = some (.int .i64 b) := by rw [hW]; go_simp
  have c2 : W.cell? ⟨w.heap.size, 2, none⟩ = some (.string s) := by rw [hW]; go_simp
  have hz : w.heap.size < W.heap.size := by rw [hW]; simp
  have hbW : Below w.heap.size w W := by rw [hW]; exact (Below.refl _ _).alloc (Nat.le_refl _) _
  clear hW
  go_region_with (first
    | (go_at_call 33; refine (fmt_impl a HA.out _ ?_).mono ?_; (focus (first | exact (HP.out.below hbW).drew | exact (HP.out.below hbW).below hb1 | exact ((HP.out.below hbW).below hb1).drew)); (rintro e u ⟨he, hu⟩; rw [← HX.out] at he; subst he; (first | (have hb1 : Below W.heap.size W u := below_undrew hu) | (have hb2 : Below W.heap.size W u := hb1.trans (hu.mono hb1.size))); (first | (have hcu : ∀ (b o : Nat), b < W.heap.size → u.cell? ⟨b, o, none⟩ = W.cell? ⟨b, o, none⟩ := (old_cells hb1).1) | skip)))
    | (go_at_call 66; refine (pad_impl b 9 _ (by have := HB.out; omega) (by omega) (by omega) HB.out).mono ?_; (rintro e u ⟨he, hu⟩; rw [← HY.out] at he; subst he; (first | (have hb1 : Below W.heap.size W u := below_undrew hu) | (have hb2 : Below W.heap.size W u := hb1.trans (hu.mono hb1.size))); (first | (have hcu : ∀ (b o : Nat), b < W.heap.size → u.cell? ⟨b, o, none⟩ = W.cell? ⟨b, o, none⟩ := (old_cells hb2).1) | (have hcu : ∀ (b o : Nat), b < W.heap.size → u.cell? ⟨b, o, none⟩ = W.cell? ⟨b, o, none⟩ := (old_cells hb1).1)))))
  all_goals
    go_wp2
    go_ret
    exact ⟨ret_str' (by rw [H1.out, ← HX.out, ← HY.out]), hbW.trans (hb2.mono (by omega))⟩
end Go.Proofs.YtichnpjpldkceaaDoor

/- The draws of labels: whatever the code, a label whose numbers are ints and whose text is short. -/
import Derived.Test.YtadcmngooobeiaaCur2
namespace Go.Proofs.Ytadcmngooobeiaa
open Go.RowKit
def BytesIn (w : World) (A : Option Addr) (n : Nat) : Prop :=
  ∀ j, j < n → ∃ ad v, A = some ad ∧ ad.block < w.heap.size ∧ w.cell? (ad.add j) = some (.int .u8 v) ∧ 0 ≤ v ∧ v ≤ 255
theorem BytesIn.below {w w' : World} {A : Option Addr} {n : Nat} (h : BytesIn w A n) (hb : Below w.heap.size w w') : BytesIn w' A n := by
  intro j hj
  obtain ⟨ad, v, h1, h2, h3, h4⟩ := h j hj
  refine ⟨ad, v, h1, Nat.lt_of_lt_of_le h2 hb.size, ?_, h4⟩
  rw [← h3]
  exact hb.cell (by rw [addr_block]; exact h2)
theorem CurOK.set {w : World} {g : Nat} (h : CurOK w g) {p : Addr} (hp : g < p.block) (v : Value) : CurOK (w.setCell p v) g := by
  obtain ⟨A, n, cap, k, x, h1, h2, h3, h4⟩ := h
  refine ⟨A, n, cap, k, x, (Below.heap_setCell w p v g (by omega)).trans h1, h2, h3, fun j hj => ?_⟩
  obtain ⟨ad, u, a1, a2, a3, a4, a5⟩ := h4 j hj
  refine ⟨ad, u, a1, a2, by simpa [World.setCell] using a3, ?_, a5⟩
  rw [World.cell?_setCell_other _ _ _ _ (fun e => by have := addr_block ad j; rw [← e] at this; omega), a4]
set_option maxRecDepth 100000 in
set_option maxHeartbeats 1000000 in
theorem new_any (A : Option Addr) (n cap : Nat) (w : World) (hn : n ≤ 4096) (hb : BytesIn w A n) :
    Calls Try.prog 74 #[.slice A n cap] w fun e w' => ∃ g, e = .returned (.pointer (some ⟨g, 0, none⟩)) ∧ CurOK w' g ∧ w.heap.size ≤ g ∧ Below w.heap.size w w' := by
  have HB := Lib.hid hb; clear hb
  go_enter Try.func74, Try.ntmps74
  go_wp2
  go_loop [3, 4] (fun h i => ∃ (k : Nat) (x : Int), k ≤ n ∧ i = .int .i64 k ∧ h = .int .i64 x) (fun _ i => n - (intOf i).toNat)
  case atStart => exact ⟨0, _, Nat.zero_le _, rfl, rfl⟩
  case round =>
    obtain ⟨k, x, hk, rfl, rfl⟩ := hrel
    by_cases hlt : (k : Int) < (n : Int)
    · by_cases h4 : (k : Int) < 4000
      · obtain ⟨ad, v, rfl, hl, hcv, hv0, hv1⟩ := HB.out k (by omega)
        have hkn : k < n := by omega
        go_wp2
        go_round
        case rel => exact ⟨k + 1, _, by omega, by go_num, rfl⟩
        case measure => simp [intOf]; omega
      · go_wp2
        go_ret
        refine ⟨w.heap.size, rfl, ⟨A, n, cap, 0, x, heap_alloc_new w _, by omega, hn, ?_⟩, Nat.le_refl _, (Below.refl _ _).alloc (Nat.le_refl _) _⟩
        intro j hj
        obtain ⟨ad, v, h1, h2, h3, h4⟩ := HB.out j hj
        exact ⟨ad, v, h1, h2, by simp; omega, by rw [((Below.refl w.heap.size w).alloc (Nat.le_refl _) _).cell (by rw [addr_block]; exact h2), h3], h4⟩
    · go_wp2
      go_ret
      refine ⟨w.heap.size, rfl, ⟨A, n, cap, 0, x, heap_alloc_new w _, by omega, hn, ?_⟩, Nat.le_refl _, (Below.refl _ _).alloc (Nat.le_refl _) _⟩
      intro j hj
      obtain ⟨ad, v, h1, h2, h3, h4⟩ := HB.out j hj
      exact ⟨ad, v, h1, h2, by simp; omega, by rw [((Below.refl w.heap.size w).alloc (Nat.le_refl _) _).cell (by rw [addr_block]; exact h2), h3], h4⟩
set_option maxRecDepth 100000 in
set_option maxHeartbeats 1000000 in
theorem odd_draw (g : Nat) (w : World) (hc : CurOK w g) :
    Calls Try.prog 79 #[.pointer (some ⟨g, 0, none⟩)] w fun e w' => (∃ x : Int, i64B x ∧ e = .returned (.int .i64 x)) ∧ CurOK w' g ∧ w.grownBy w' (some g) := by
  have HC := Lib.hid hc; clear hc
  go_enter Try.func79, Try.ntmps79
  go_wp2_with fail
  refine (int_new g 14 _ _ _ HC.out rfl (by omega) (by omega) (by decide)).mono ?_; rintro e w1 ⟨⟨x, hx, rfl⟩, hc1, ho1⟩
  have H1 := Lib.hid hc1; clear hc1
  have HX := Lib.hid hx; clear hx
  go_wp2
  go_ret
  exact ⟨⟨x, HX.out, rfl⟩, H1.out, ho1⟩
end Go.Proofs.Ytadcmngooobeiaa

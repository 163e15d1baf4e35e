/- CountBelt, CountWait. -/
import Derived.Test.YtiplbfpkfhlhcaaCen
namespace Go.Proofs.Ytiplbfpkfhlhcaa
open Go.RowKit
def isIt (x : It) : Bool := decide (x.i ≠ 0)
/-- how many cells have an item -/
def cntB (b : List It) : Nat := (b.filter isIt).length
def cntK (b : List It) (k : Nat) : Nat := ((b.take k).filter isIt).length
theorem cntK_all (b : List It) : cntK b b.length = cntB b := by unfold cntK cntB; rw [List.take_length]
theorem cntK_yes {b : List It} {k : Nat} (h : k < b.length) (hi : b[k].i ≠ 0) : cntK b (k + 1) = cntK b k + 1 := by
  unfold cntK; rw [List.take_succ_eq_append_getElem h, List.filter_append]; simp [isIt, hi]
theorem cntK_no {b : List It} {k : Nat} (h : k < b.length) (hi : b[k].i = 0) : cntK b (k + 1) = cntK b k := by
  unfold cntK; rw [List.take_succ_eq_append_getElem h, List.filter_append]; simp [isIt, hi]
theorem cntK_le (b : List It) (k : Nat) : cntK b k ≤ b.length := by
  unfold cntK
  exact Nat.le_trans (List.length_filter_le _ _) (by rw [List.length_take]; omega)
theorem cntB_le (b : List It) : cntB b ≤ b.length := by unfold cntB; exact List.length_filter_le _ _
set_option maxRecDepth 100000 in
set_option maxHeartbeats 1000000 in
theorem cnt_impl (A0 : Option Addr) (k0 : Nat) (b : List It) (V1 V2 V3 V4 : Value) (w : World) (hA : RawK 2 itC w A0 b) (hn : b.length ≤ 1048576) :
    Calls Try.prog 26 #[.agg #[.slice A0 b.length k0, V1, V2, V3, V4]] w fun e w' => e = .returned (.int .i64 (cntB b : Nat)) ∧ Below w.heap.size w w' := by
  have HA := Lib.hid hA; clear hA
  have HE := Lib.hid (cntK_all b)
  have hb0 := Lib.hid ((Below.refl w.heap.size w).alloc (Nat.le_refl _) (.cells ⟨[.slice A0 b.length k0, V1, V2, V3, V4]⟩ 34))
  go_enter Try.func26, Try.ntmps26
  go_wp2
  go_loopw [3, 9] (fun n i wr => ∃ k : Nat, k ≤ b.length ∧ i = .int .i64 k ∧ n = .int .i64 (cntK b k : Nat) ∧ Below w.heap.size w wr) (fun _ i _ => b.length - (intOf i).toNat)
  case atStart => exact ⟨0, Nat.zero_le _, rfl, by simp [cntK], hb0.out⟩
  case round =>
    obtain ⟨k, hk, rfl, rfl, hb⟩ := hrel
    have hbz := hb.size
    have hck := cntK_le b k
    by_cases hlt : (k : Int) < (b.length : Int)
    · have hkn : k < b.length := by omega
      obtain ⟨a, o, rfl, ha, c0, c1⟩ := (HA.out.below hb).it k hkn
      have HY := Lib.hid (fun h => cntK_yes hkn h)
      have HN := Lib.hid (fun h => cntK_no hkn h)
      generalize b[k] = y at *
      obtain ⟨yi, yd⟩ := y
      dsimp only at c0 c1
      have HB := Lib.hid (hb.alloc hbz (.cells ⟨[.int .i64 yi, .int .i64 yd]⟩ 60))
      clear hb
      by_cases h0 : yi = 0
      · have HQ := Lib.hid (HN.out h0)
        have hne : (yi != 0) = false := by simp [h0]
        clear h0
        go_wp2
        go_roundw
        case rel => exact ⟨k + 1, by omega, by go_num, by rw [HQ.out], HB.out⟩
        case measure => simp [intOf]; omega
      · have HQ := Lib.hid (HY.out h0)
        have hne : (yi != 0) = true := by simp [h0]
        clear h0
        go_wp2
        go_roundw
        case rel => exact ⟨k + 1, by omega, by go_num, by rw [HQ.out]; go_num, HB.out⟩
        case measure => simp [intOf]; omega
    · obtain rfl : k = b.length := by omega
      go_wp2
      go_ret
      exact ⟨by rw [HE.out]; rfl, hb⟩
set_option maxRecDepth 100000 in
set_option maxHeartbeats 1000000 in
theorem cnt_spec (A0 : Option Addr) (k0 : Nat) (b : List It) (V1 V2 V3 V4 : Value) (w : World) (hA : RawK 2 itC w A0 b) (hn : b.length ≤ 1048576) :
    Calls Try.prog 24 #[.agg #[.slice A0 b.length k0, V1, V2, V3, V4]] w fun e w' => e = .returned (.int .i64 (cntB b : Nat)) ∧ Below w.heap.size w w' := by
  have HA := Lib.hid hA; clear hA
  have HE := Lib.hid (cntK_all b)
  have hb0 := Lib.hid (And.intro ((Below.refl w.heap.size w).alloc (Nat.le_refl _) (.cells ⟨[.slice A0 b.length k0, V1, V2, V3, V4]⟩ 34)) (Bx.new (T := 34) w [.slice A0 b.length k0, V1, V2, V3, V4]))
  go_enter Try.func24, Try.ntmps24
  go_wp2
  go_loopw [3, 4] (fun n i wr => ∃ k : Nat, k ≤ b.length ∧ i = .int .i64 k ∧ n = .int .i64 (cntK b k : Nat) ∧ Below w.heap.size w wr ∧ Bx 34 wr w.heap.size [.slice A0 b.length k0, V1, V2, V3, V4]) (fun _ i _ => b.length - (intOf i).toNat)
  case atStart => exact ⟨0, Nat.zero_le _, rfl, by simp [cntK], hb0.out.1, hb0.out.2⟩
  case round =>
    obtain ⟨k, hk, rfl, rfl, hb, hx⟩ := hrel
    have hck := cntK_le b k
    have b0 := hx.cell 0 _ rfl
    have HX := Lib.hid hx; clear hx
    by_cases hlt : (k : Int) < (b.length : Int)
    · have hkn : k < b.length := by omega
      obtain ⟨a, o, rfl, ha, c0, c1⟩ := (HA.out.below hb).it k hkn
      have HY := Lib.hid (fun h => cntK_yes hkn h)
      have HN := Lib.hid (fun h => cntK_no hkn h)
      generalize b[k] = y at *
      obtain ⟨yi, yd⟩ := y
      dsimp only at c0 c1
      by_cases h0 : yi = 0
      · have HQ := Lib.hid (HN.out h0)
        have hne : (yi != 0) = false := by simp [h0]
        clear h0
        go_wp2
        go_roundw
        case rel => exact ⟨k + 1, by omega, by go_num, by rw [HQ.out], hb, HX.out⟩
        case measure => simp [intOf]; omega
      · have HQ := Lib.hid (HY.out h0)
        have hne : (yi != 0) = true := by simp [h0]
        clear h0
        go_wp2
        go_roundw
        case rel => exact ⟨k + 1, by omega, by go_num, by rw [HQ.out]; go_num, hb, HX.out⟩
        case measure => simp [intOf]; omega
    · obtain rfl : k = b.length := by omega
      go_wp2
      go_ret
      exact ⟨by rw [HE.out]; rfl, hb⟩
theorem totNl_le_take (M : List NlR) (k : Nat) : totNlR (M.take k) ≤ totNlR M := by
  conv => rhs; rw [← List.take_append_drop k M]
  unfold totNlR
  rw [List.map_append, List.sum_append]
  omega
set_option maxRecDepth 100000 in
set_option maxHeartbeats 1000000 in
theorem wait_impl (A2 : Option Addr) (k2 : Nat) (M : List NlR) (V0 V1 V3 V4 : Value) (w : World) (hA : RawK 2 nlC w A2 M) (hn : M.length + totNlR M ≤ 1048576) :
    Calls Try.prog 29 #[.agg #[V0, V1, .slice A2 M.length k2, V3, V4]] w fun e w' => e = .returned (.int .i64 (totNlR M : Nat)) ∧ Below w.heap.size w w' := by
  have HA := Lib.hid hA; clear hA
  have hb0 := Lib.hid ((Below.refl w.heap.size w).alloc (Nat.le_refl _) (.cells ⟨[V0, V1, .slice A2 M.length k2, V3, V4]⟩ 34))
  go_enter Try.func29, Try.ntmps29
  go_wp2
  go_loopw [3, 9] (fun n i wr => ∃ k : Nat, k ≤ M.length ∧ i = .int .i64 k ∧ n = .int .i64 (totNlR (M.take k) : Nat) ∧ Below w.heap.size w wr) (fun _ i _ => M.length - (intOf i).toNat)
  case atStart => exact ⟨0, Nat.zero_le _, rfl, by simp [totNlR], hb0.out⟩
  case round =>
    obtain ⟨k, hk, rfl, rfl, hb⟩ := hrel
    have hbz := hb.size
    have hle := totNl_le_take M k
    by_cases hlt : (k : Int) < (M.length : Int)
    · have hkn : k < M.length := by omega
      obtain ⟨a, o, rfl, ha, c0, c1⟩ := (HA.out.below hb).nl k hkn
      have HT := Lib.hid (totNlR_take M k hkn)
      have hl1 := totNlR_le M _ (List.getElem_mem hkn)
      generalize M[k] = y at *
      obtain ⟨yc, yh, yA, yk⟩ := y
      dsimp only at c0 c1 hl1
      have HB := Lib.hid (hb.alloc hbz (.cells ⟨[.int .i64 yc, .slice yA yh.length yk]⟩ 76))
      clear hb
      go_wp2
      go_roundw
      case rel => exact ⟨k + 1, by omega, by go_num, by rw [HT.out]; go_num, HB.out⟩
      case measure => simp [intOf]; omega
    · obtain rfl : k = M.length := by omega
      rw [List.take_length]
      go_wp2
      go_ret
      exact ⟨rfl, hb⟩
set_option maxRecDepth 100000 in
set_option maxHeartbeats 1000000 in
theorem wait_spec (A2 : Option Addr) (k2 : Nat) (M : List NlR) (V0 V1 V3 V4 : Value) (w : World) (hA : RawK 2 nlC w A2 M) (hn : M.length + totNlR M ≤ 1048576) :
    Calls Try.prog 28 #[.agg #[V0, V1, .slice A2 M.length k2, V3, V4]] w fun e w' => e = .returned (.int .i64 (totNlR M : Nat)) ∧ Below w.heap.size w w' := by
  have HA := Lib.hid hA; clear hA
  have hb0 := Lib.hid (And.intro ((Below.refl w.heap.size w).alloc (Nat.le_refl _) (.cells ⟨[V0, V1, .slice A2 M.length k2, V3, V4]⟩ 34)) (Bx.new (T := 34) w [V0, V1, .slice A2 M.length k2, V3, V4]))
  go_enter Try.func28, Try.ntmps28
  go_wp2
  go_loopw [3, 4] (fun n i wr => ∃ k : Nat, k ≤ M.length ∧ i = .int .i64 k ∧ n = .int .i64 (totNlR (M.take k) : Nat) ∧ Below w.heap.size w wr ∧ Bx 34 wr w.heap.size [V0, V1, .slice A2 M.length k2, V3, V4]) (fun _ i _ => M.length - (intOf i).toNat)
  case atStart => exact ⟨0, Nat.zero_le _, rfl, by simp [totNlR], hb0.out.1, hb0.out.2⟩
  case round =>
    obtain ⟨k, hk, rfl, rfl, hb, hx⟩ := hrel
    have b2 := hx.cell 2 _ rfl
    have HX := Lib.hid hx; clear hx
    have hle := totNl_le_take M k
    by_cases hlt : (k : Int) < (M.length : Int)
    · have hkn : k < M.length := by omega
      obtain ⟨a, o, rfl, ha, c0, c1⟩ := (HA.out.below hb).nl k hkn
      have HT := Lib.hid (totNlR_take M k hkn)
      have hl1 := totNlR_le M _ (List.getElem_mem hkn)
      generalize M[k] = y at *
      obtain ⟨yc, yh, yA, yk⟩ := y
      dsimp only at c0 c1 hl1
      go_wp2
      go_roundw
      case rel => exact ⟨k + 1, by omega, by go_num, by rw [HT.out]; go_num, hb, HX.out⟩
      case measure => simp [intOf]; omega
    · obtain rfl : k = M.length := by omega
      rw [List.take_length]
      go_wp2
      go_ret
      exact ⟨rfl, hb⟩
theorem cnt_implC (A0 : Option Addr) (k0 : Nat) (b : List It) (A1 : Option Addr) (k1 : Nat) (L : List ChR) (A2 : Option Addr) (k2 : Nat) (M : List NlR) (A3 : Option Addr) (k3 : Nat) (p : List Int) (n : Int) (W : World) (hR : CenR W A0 b A1 L A2 M) (_ : IntsIn W A3 p) (hn : cenN b L M p ≤ 1048576) :
    Calls Try.prog 26 #[.agg #[.slice A0 b.length k0, .slice A1 L.length k1, .slice A2 M.length k2, .slice A3 p.length k3, .int .i64 n]] W fun e w' => e = .returned (.int .i64 ((cntB b : Nat) : Int)) ∧ Below W.heap.size W w' := by
  have h := cnt_impl A0 k0 b (.slice A1 L.length k1) (.slice A2 M.length k2) (.slice A3 p.length k3) (.int .i64 n) W hR.belt (by unfold cenN at hn; omega)
  exact h
theorem cnt_specC (A0 : Option Addr) (k0 : Nat) (b : List It) (A1 : Option Addr) (k1 : Nat) (L : List ChR) (A2 : Option Addr) (k2 : Nat) (M : List NlR) (A3 : Option Addr) (k3 : Nat) (p : List Int) (n : Int) (W : World) (hR : CenR W A0 b A1 L A2 M) (_ : IntsIn W A3 p) (hn : cenN b L M p ≤ 1048576) :
    Calls Try.prog 24 #[.agg #[.slice A0 b.length k0, .slice A1 L.length k1, .slice A2 M.length k2, .slice A3 p.length k3, .int .i64 n]] W fun e w' => e = .returned (.int .i64 ((cntB b : Nat) : Int)) ∧ Below W.heap.size W w' := by
  have h := cnt_spec A0 k0 b (.slice A1 L.length k1) (.slice A2 M.length k2) (.slice A3 p.length k3) (.int .i64 n) W hR.belt (by unfold cenN at hn; omega)
  exact h
theorem wait_implC (A0 : Option Addr) (k0 : Nat) (b : List It) (A1 : Option Addr) (k1 : Nat) (L : List ChR) (A2 : Option Addr) (k2 : Nat) (M : List NlR) (A3 : Option Addr) (k3 : Nat) (p : List Int) (n : Int) (W : World) (hR : CenR W A0 b A1 L A2 M) (_ : IntsIn W A3 p) (hn : cenN b L M p ≤ 1048576) :
    Calls Try.prog 29 #[.agg #[.slice A0 b.length k0, .slice A1 L.length k1, .slice A2 M.length k2, .slice A3 p.length k3, .int .i64 n]] W fun e w' => e = .returned (.int .i64 ((totND (M.map NlR.d) : Nat) : Int)) ∧ Below W.heap.size W w' := by
  have h := wait_impl A2 k2 M (.slice A0 b.length k0) (.slice A1 L.length k1) (.slice A3 p.length k3) (.int .i64 n) W hR.ins (by unfold cenN at hn; omega)
  rw [totND_eq] at h
  exact h
theorem wait_specC (A0 : Option Addr) (k0 : Nat) (b : List It) (A1 : Option Addr) (k1 : Nat) (L : List ChR) (A2 : Option Addr) (k2 : Nat) (M : List NlR) (A3 : Option Addr) (k3 : Nat) (p : List Int) (n : Int) (W : World) (hR : CenR W A0 b A1 L A2 M) (_ : IntsIn W A3 p) (hn : cenN b L M p ≤ 1048576) :
    Calls Try.prog 28 #[.agg #[.slice A0 b.length k0, .slice A1 L.length k1, .slice A2 M.length k2, .slice A3 p.length k3, .int .i64 n]] W fun e w' => e = .returned (.int .i64 ((totND (M.map NlR.d) : Nat) : Int)) ∧ Below W.heap.size W w' := by
  have h := wait_spec A2 k2 M (.slice A0 b.length k0) (.slice A1 L.length k1) (.slice A3 p.length k3) (.int .i64 n) W hR.ins (by unfold cenN at hn; omega)
  rw [totND_eq] at h
  exact h
end Go.Proofs.Ytiplbfpkfhlhcaa

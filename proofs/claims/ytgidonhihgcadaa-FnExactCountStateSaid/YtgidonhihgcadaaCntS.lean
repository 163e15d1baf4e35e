/- CountState. -/
import Derived.Test.YtgidonhihgcadaaWor
namespace Go.Proofs.Ytgidonhihgcadaa
open Go.RowKit
/-- how many orders have a state -/
def cntW (d : Wd) (s : Int) : Nat := (d.os.filter fun o => o.z == s).length
def cntK (l : List OrR) (s : Int) (k : Nat) : Nat := ((l.take k).filter fun o => o.z == s).length
theorem cntK_all (x : Wp) (s : Int) : cntK x.os s x.os.length = cntW x.dat s := by
  unfold cntK cntW Wp.dat
  rw [List.take_length, List.filter_map, List.length_map]; rfl
theorem cntK_yes {b : List OrR} {s : Int} {k : Nat} (h : k < b.length) (hi : b[k].z = s) : cntK b s (k + 1) = cntK b s k + 1 := by
  unfold cntK; rw [List.take_succ_eq_append_getElem h, List.filter_append]; simp [hi]
theorem cntK_no {b : List OrR} {s : Int} {k : Nat} (h : k < b.length) (hi : b[k].z ≠ s) : cntK b s (k + 1) = cntK b s k := by
  unfold cntK; rw [List.take_succ_eq_append_getElem h, List.filter_append]; simp [hi]
theorem cntK_le (b : List OrR) (s : Int) (k : Nat) : cntK b s k ≤ b.length := by
  unfold cntK
  exact Nat.le_trans (List.length_filter_le _ _) (by rw [List.length_take]; omega)
set_option maxRecDepth 100000 in
set_option maxHeartbeats 2000000 in
theorem cnt_implW (x : Wp) (s : Int) (w : World) (hR : WorIn w x) (hz : WorSz x) (_ : -9223372036854775808 ≤ s ∧ s ≤ 9223372036854775807) :
    Calls Try.prog 8 #[worV x, .int .i64 s] w fun e w' => e = .returned (.int .i64 (cntW x.dat s : Nat)) ∧ Below w.heap.size w w' := by
  dsimp only [worV]
  have hn := hz.os; clear hz
  have HE := Lib.hid (cntK_all x s)
  have hb0 := Lib.hid ((Below.refl w.heap.size w).alloc (Nat.le_refl _) (.cells ⟨[.slice x.A0 x.l.length x.k0, .slice x.A1 x.zs.length x.k1, .int .i64 x.c, .slice x.A2 x.os.length x.k2, .slice x.A3 x.bs.length x.k3, .slice x.A4 x.cs.length x.k4, .int .i64 x.n, .slice x.A5 x.ss.length x.k5, .slice x.A6 x.sk.length x.k6, .int .i64 x.m]⟩ 42))
  have c3 := (Bx.new (T := 42) w [.slice x.A0 x.l.length x.k0, .slice x.A1 x.zs.length x.k1, .int .i64 x.c, .slice x.A2 x.os.length x.k2, .slice x.A3 x.bs.length x.k3, .slice x.A4 x.cs.length x.k4, .int .i64 x.n, .slice x.A5 x.ss.length x.k5, .slice x.A6 x.sk.length x.k6, .int .i64 x.m]).cell 3 _ rfl
  have HA := Lib.hid hR.os; clear hR
  go_enter Try.func8, Try.ntmps8
  go_wp2
  clear c3
  generalize x.os = l at *
  generalize x.A2 = A2 at *
  go_loopw [5, 11] (fun n i wr => ∃ k : Nat, k ≤ l.length ∧ i = .int .i64 k ∧ n = .int .i64 (cntK l s k : Nat) ∧ Below w.heap.size w wr) (fun _ i _ => l.length - (intOf i).toNat)
  case atStart => exact ⟨0, Nat.zero_le _, rfl, by simp [cntK], hb0.out⟩
  case round =>
    obtain ⟨k, hk, rfl, rfl, hb⟩ := hrel
    have hbz := hb.size
    have hck := cntK_le l s k
    by_cases hlt : (k : Int) < (l.length : Int)
    · have hkn : k < l.length := by omega
      obtain ⟨a, rfl, ha, q0, q1, q2, q3, q4, q5, q6, q7, q8, q9, q10⟩ := (HA.out.below hb).or k hkn
      have HY := Lib.hid (fun h => cntK_yes (s := s) hkn h)
      have HN := Lib.hid (fun h => cntK_no (s := s) hkn h)
      generalize l[k] = b at *
      have HB := Lib.hid (hb.alloc hbz (.cells ⟨[.string b.f, .string b.t, .int .i64 b.s, .int .i64 b.m, .int .i64 b.a, .int .i64 b.u, .slice b.A b.h.length b.k, .int .i64 b.g, .int .i64 b.z, .string b.p, .int .i64 b.e]⟩ 54))
      clear hb
      by_cases h0 : b.z = s
      · have HQ := Lib.hid (HY.out h0)
        have hne : (b.z == s) = true := by simp [h0]
        clear h0
        go_wp2
        go_roundw
        case rel => exact ⟨k + 1, by omega, by go_num, by rw [HQ.out]; go_num, HB.out⟩
        case measure => simp [intOf]; omega
      · have HQ := Lib.hid (HN.out h0)
        have hne : (b.z == s) = false := by simp [h0]
        clear h0
        go_wp2
        go_roundw
        case rel => exact ⟨k + 1, by omega, by go_num, by rw [HQ.out], HB.out⟩
        case measure => simp [intOf]; omega
    · obtain rfl : k = l.length := by omega
      go_wp2
      go_ret
      exact ⟨by rw [HE.out]; rfl, hb⟩
set_option maxRecDepth 100000 in
set_option maxHeartbeats 2000000 in
theorem cnt_specW (x : Wp) (s : Int) (w : World) (hR : WorIn w x) (hz : WorSz x) (_ : -9223372036854775808 ≤ s ∧ s ≤ 9223372036854775807) :
    Calls Try.prog 6 #[worV x, .int .i64 s] w fun e w' => e = .returned (.int .i64 (cntW x.dat s : Nat)) ∧ Below w.heap.size w w' := by
  dsimp only [worV]
  have hn := hz.os; clear hz
  have HE := Lib.hid (cntK_all x s)
  have hb0 := Lib.hid ((Below.refl w.heap.size w).alloc (Nat.le_refl _) (.cells ⟨[.slice x.A0 x.l.length x.k0, .slice x.A1 x.zs.length x.k1, .int .i64 x.c, .slice x.A2 x.os.length x.k2, .slice x.A3 x.bs.length x.k3, .slice x.A4 x.cs.length x.k4, .int .i64 x.n, .slice x.A5 x.ss.length x.k5, .slice x.A6 x.sk.length x.k6, .int .i64 x.m]⟩ 42))
  have HBX := Lib.hid (Bx.new (T := 42) w [.slice x.A0 x.l.length x.k0, .slice x.A1 x.zs.length x.k1, .int .i64 x.c, .slice x.A2 x.os.length x.k2, .slice x.A3 x.bs.length x.k3, .slice x.A4 x.cs.length x.k4, .int .i64 x.n, .slice x.A5 x.ss.length x.k5, .slice x.A6 x.sk.length x.k6, .int .i64 x.m])
  have HA := Lib.hid (hR.os.below hb0.out); clear hR
  go_enter Try.func6, Try.ntmps6
  go_wp2_with fail
  change Hid (Bx 42 (w.alloc (.cells ⟨[.slice x.A0 x.l.length x.k0, .slice x.A1 x.zs.length x.k1, .int .i64 x.c, .slice x.A2 x.os.length x.k2, .slice x.A3 x.bs.length x.k3, .slice x.A4 x.cs.length x.k4, .int .i64 x.n, .slice x.A5 x.ss.length x.k5, .slice x.A6 x.sk.length x.k6, .int .i64 x.m]⟩ 42)) w.heap.size [.slice x.A0 x.l.length x.k0, .slice x.A1 x.zs.length x.k1, .int .i64 x.c, .slice x.A2 x.os.length x.k2, .slice x.A3 x.bs.length x.k3, .slice x.A4 x.cs.length x.k4, .int .i64 x.n, .slice x.A5 x.ss.length x.k5, .slice x.A6 x.sk.length x.k6, .int .i64 x.m]) at HBX
  change Hid (InK 11 orC (w.alloc (.cells ⟨[.slice x.A0 x.l.length x.k0, .slice x.A1 x.zs.length x.k1, .int .i64 x.c, .slice x.A2 x.os.length x.k2, .slice x.A3 x.bs.length x.k3, .slice x.A4 x.cs.length x.k4, .int .i64 x.n, .slice x.A5 x.ss.length x.k5, .slice x.A6 x.sk.length x.k6, .int .i64 x.m]⟩ 42)) x.A2 x.os) at HA
  generalize hW : w.alloc (.cells ⟨[.slice x.A0 x.l.length x.k0, .slice x.A1 x.zs.length x.k1, .int .i64 x.c, .slice x.A2 x.os.length x.k2, .slice x.A3 x.bs.length x.k3, .slice x.A4 x.cs.length x.k4, .int .i64 x.n, .slice x.A5 x.ss.length x.k5, .slice x.A6 x.sk.length x.k6, .int .i64 x.m]⟩ 42) = W at *
  have hz0 := HBX.out.lt
  have hb1 : Below w.heap.size w W := by rw [← hW]; exact (Below.refl w.heap.size w).alloc (Nat.le_refl _) _
  replace hb0 := Lib.hid hb1; clear hb1 hW
  generalize x.os = l at *
  go_loopw [5, 6] (fun n i wr => ∃ k : Nat, k ≤ l.length ∧ i = .int .i64 k ∧ n = .int .i64 (cntK l s k : Nat) ∧ Below W.heap.size W wr) (fun _ i _ => l.length - (intOf i).toNat)
  case atStart => exact ⟨0, Nat.zero_le _, rfl, by simp [cntK], Below.refl _ _⟩
  case round =>
    obtain ⟨k, hk, rfl, rfl, hb⟩ := hrel
    have hbz := hb.size
    have hck := cntK_le l s k
    have b3 := (HBX.out.below hb).cell 3 _ rfl
    by_cases hlt : (k : Int) < (l.length : Int)
    · have hkn : k < l.length := by omega
      obtain ⟨a, hAe, ha, q0, q1, q2, q3, q4, q5, q6, q7, q8, q9, q10⟩ := (HA.out.below hb).or k hkn
      rw [hAe] at b3
      have HY := Lib.hid (fun h => cntK_yes (s := s) hkn h)
      have HN := Lib.hid (fun h => cntK_no (s := s) hkn h)
      generalize l[k] = b at *
      by_cases h0 : b.z = s
      · have HQ := Lib.hid (HY.out h0)
        have hne : (b.z == s) = true := by simp [h0]
        clear h0
        go_wp2
        go_roundw
        case rel => exact ⟨k + 1, by omega, by go_num, by rw [HQ.out]; go_num, hb⟩
        case measure => simp [intOf]; omega
      · have HQ := Lib.hid (HN.out h0)
        have hne : (b.z == s) = false := by simp [h0]
        clear h0
        go_wp2
        go_roundw
        case rel => exact ⟨k + 1, by omega, by go_num, by rw [HQ.out], hb⟩
        case measure => simp [intOf]; omega
    · obtain rfl : k = l.length := by omega
      go_wp2
      go_ret
      exact ⟨by rw [HE.out]; rfl, hb0.out.trans (hb.mono (Nat.le_of_lt hz0))⟩
end Go.Proofs.Ytgidonhihgcadaa

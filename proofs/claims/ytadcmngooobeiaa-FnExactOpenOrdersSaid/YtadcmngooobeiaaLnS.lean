/- Lines of money, the reference: IsLine, SumOf, l11Count. -/
import Derived.Test.YtadcmngooobeiaaLnM
import Derived.Test.YtadcmngooobeiaaBxW
namespace Go.Proofs.Ytadcmngooobeiaa
open Go.RowKit
set_option maxRecDepth 100000 in
set_option maxHeartbeats 1000000 in
theorem isl_spec (xo xk xa xt : Int) (w : World) :
    Calls Try.prog 18 #[.agg #[.int .i64 xo, .int .i64 xk, .int .i64 xa, .int .i64 xt]] w fun e w' => e = .returned (.bool (lineB ⟨xo, xk, xa, xt⟩)) ∧ Below w.heap.size w w' := by
  have HV := Lib.hid (show lineB ⟨xo, xk, xa, xt⟩ = (inB xo 1 9999 && inB xk 1 3 && inB xa 1 100000 && inB xt 0 100000) from rfl)
  generalize lineB ⟨xo, xk, xa, xt⟩ = V at *
  have HB := Lib.hid ((Below.refl w.heap.size w).alloc (Nat.le_refl _) (.cells #[.int .i64 xo, .int .i64 xk, .int .i64 xa, .int .i64 xt] 25))
  have HX := Lib.hid (Bx.new (T := 25) w [.int .i64 xo, .int .i64 xk, .int .i64 xa, .int .i64 xt])
  go_enter Try.func18, Try.ntmps18
  go_wp2_with fail
  generalize hB : w.heap.size = B at *
  have HBE := Lib.hid hB; clear hB
  change Hid (Bx 25 (w.alloc (.cells #[.int .i64 xo, .int .i64 xk, .int .i64 xa, .int .i64 xt] 25)) B [.int .i64 xo, .int .i64 xk, .int .i64 xa, .int .i64 xt]) at HX
  generalize w.alloc (.cells #[.int .i64 xo, .int .i64 xk, .int .i64 xa, .int .i64 xt] 25) = W0 at *
  have x0_ := HX.out.cell 0 _ rfl; have x1_ := HX.out.cell 1 _ rfl; have x2_ := HX.out.cell 2 _ rfl; have x3_ := HX.out.cell 3 _ rfl
  refine (in_any xo 1 9999 W0).mono ?_; rintro e u0 ⟨rfl, hu⟩; subst hu
  cases q0 : inB xo 1 9999 with
  | false =>
    have HVF := Lib.hid (HV.out.trans (show _ = false by rw [q0]; simp only [Bool.false_and]))
    go_wp2
    go_ret
    exact ⟨ret_bool HVF.out.symm, by rw [HBE.out]; exact HB.out⟩
  | true =>
    go_wp2_with fail
    refine (in_any xk 1 3 W0).mono ?_; rintro e u1 ⟨rfl, hu⟩; subst hu
    cases q1 : inB xk 1 3 with
    | false =>
      have HVF := Lib.hid (HV.out.trans (show _ = false by rw [q1]; simp only [Bool.and_false, Bool.false_and]))
      go_wp2
      go_ret
      exact ⟨ret_bool HVF.out.symm, by rw [HBE.out]; exact HB.out⟩
    | true =>
      go_wp2_with fail
      refine (in_any xa 1 100000 W0).mono ?_; rintro e u2 ⟨rfl, hu⟩; subst hu
      cases q2 : inB xa 1 100000 with
      | false =>
        have HVF := Lib.hid (HV.out.trans (show _ = false by rw [q2]; simp only [Bool.and_false, Bool.false_and]))
        go_wp2
        go_ret
        exact ⟨ret_bool HVF.out.symm, by rw [HBE.out]; exact HB.out⟩
      | true =>
        go_wp2_with fail
        refine (in_any xt 0 100000 W0).mono ?_; rintro e u3 ⟨rfl, hu⟩; subst hu
        cases q3 : inB xt 0 100000 with
        | false =>
          have HVF := Lib.hid (HV.out.trans (show _ = false by rw [q3]; simp only [Bool.and_false]))
          go_wp2
          go_ret
          exact ⟨ret_bool HVF.out.symm, by rw [HBE.out]; exact HB.out⟩
        | true =>
          have HVF := Lib.hid (HV.out.trans (show _ = true by rw [q0, q1, q2, q3]; rfl))
          go_wp2
          go_ret
          exact ⟨ret_bool HVF.out.symm, by rw [HBE.out]; exact HB.out⟩
set_option maxRecDepth 100000 in
set_option maxHeartbeats 1000000 in
theorem sum_spec (o k : Int) (A : Option Addr) (ca : Nat) (l : List Ln) (w : World) (hA : InK 4 lnC w A l) (hn : l.length ≤ 1048576) :
    Calls Try.prog 22 #[.slice A l.length ca, .int .i64 o, .int .i64 k] w fun e w' => e = .returned (.int .i64 (sumT l o k)) ∧ Below w.heap.size w w' := by
  have HA := Lib.hid hA; clear hA
  have HN := Lib.hid (fun j (h : j < l.length) => foldN_next (f := valL o k) h)
  have HS := Lib.hid (fun j (h : j < l.length) e => foldN_skip (f := valL o k) h e)
  have HE := Lib.hid (foldN_all (l := l) (f := valL o k))
  go_enter Try.func22, Try.ntmps22
  go_wp2
  go_loopw [7, 8] (fun n i wr => ∃ j : Nat, j ≤ l.length ∧ i = .int .i64 j ∧ n = .int .i64 (foldN (valL o k) l j) ∧ Below w.heap.size w wr) (fun _ i _ => l.length - (intOf i).toNat)
  case atStart => exact ⟨0, Nat.zero_le _, rfl, rfl, Below.refl _ _⟩
  case round =>
    obtain ⟨j, hj, rfl, rfl, hb⟩ := hrel
    by_cases hlt : (j : Int) < (l.length : Int)
    · have hjl : j < l.length := by omega
      obtain ⟨a, rfl, ha, c0, c1, c2, c3⟩ := (HA.out.below hb).ln j hjl
      have HNj := Lib.hid (HN.out j hjl); have HSj := Lib.hid (HS.out j hjl)
      generalize l[j] = y at *
      obtain ⟨yo, yk, ya, yt⟩ := y
      dsimp only at c0 c1 c2 c3
      obtain ⟨N, hN⟩ : ∃ N, N = foldN (valL o k) l j := ⟨_, rfl⟩
      rw [← hN] at HNj HSj ⊢
      clear hN
      have HHB := Lib.hid hb; clear hb
      by_cases hg : yo = o
      · by_cases hd : yk = k
        · have HV := Lib.hid (HNj.out.trans (show wrap64 (N + valL o k ⟨yo, yk, ya, yt⟩) = wrap64 (N + ya) by rw [valL_yes (x := ⟨yo, yk, ya, yt⟩) hg hd]))
          clear HNj HSj
          subst hg hd
          go_wp2
          go_roundw
          case rel => exact ⟨j + 1, by omega, by go_num, by rw [HV.out], by first | exact HHB.out | exact below_drewN HHB.out _⟩
          case measure => simp [intOf]; omega
        · have HV := Lib.hid (HSj.out (valL_no (x := ⟨yo, yk, ya, yt⟩) (fun h => hd h.2)))
          clear HNj HSj
          have hdd : (yk == k) = false := beq_eq_false_iff_ne.2 hd
          subst hg
          go_wp2
          go_roundw
          case rel => exact ⟨j + 1, by omega, by go_num, by rw [HV.out], by first | exact HHB.out | exact below_drewN HHB.out _⟩
          case measure => simp [intOf]; omega
      · have HV := Lib.hid (HSj.out (valL_no (x := ⟨yo, yk, ya, yt⟩) (fun h => hg h.1)))
        clear HNj HSj
        have hgg : (yo == o) = false := beq_eq_false_iff_ne.2 hg
        go_wp2
        go_roundw
        case rel => exact ⟨j + 1, by omega, by go_num, by rw [HV.out], by first | exact HHB.out | exact below_drewN HHB.out _⟩
        case measure => simp [intOf]; omega
    · obtain rfl : j = l.length := by omega
      go_wp2
      go_ret
      exact ⟨by rw [HE.out]; rfl, hb⟩
set_option maxRecDepth 100000 in
set_option maxHeartbeats 1000000 in
theorem cnt_spec (o k : Int) (A : Option Addr) (ca : Nat) (l : List Ln) (w : World) (hA : InK 4 lnC w A l) (hn : l.length ≤ 1048576) :
    Calls Try.prog 62 #[.slice A l.length ca, .int .i64 o, .int .i64 k] w fun e w' => e = .returned (.int .i64 (cntT l o k : Nat)) ∧ Below w.heap.size w w' := by
  have HA := Lib.hid hA; clear hA
  have HY := Lib.hid (fun j (h : j < l.length) (e : hitL o k l[j] = true) => show ((l.take (j + 1)).filter (hitL o k)).length = ((l.take j).filter (hitL o k)).length + 1 by rw [filt_yes h e, List.length_append]; rfl)
  have HNO := Lib.hid (fun j (h : j < l.length) (e : hitL o k l[j] = false) => show ((l.take (j + 1)).filter (hitL o k)).length = ((l.take j).filter (hitL o k)).length by rw [filt_no h e])
  go_enter Try.func62, Try.ntmps62
  go_wp2
  go_loopw [7, 8] (fun n i wr => ∃ j : Nat, j ≤ l.length ∧ i = .int .i64 j ∧ n = .int .i64 ((((l.take j).filter (hitL o k)).length : Nat) : Int) ∧ Below w.heap.size w wr) (fun _ i _ => l.length - (intOf i).toNat)
  case atStart => exact ⟨0, Nat.zero_le _, rfl, by simp, Below.refl _ _⟩
  case round =>
    obtain ⟨j, hj, rfl, rfl, hb⟩ := hrel
    by_cases hlt : (j : Int) < (l.length : Int)
    · have hjl : j < l.length := by omega
      obtain ⟨a, rfl, ha, c0, c1, c2, c3⟩ := (HA.out.below hb).ln j hjl
      have HYj := Lib.hid (HY.out j hjl); have HNj := Lib.hid (HNO.out j hjl)
      have hDl := List.length_filter_le (hitL o k) (l.take j)
      rw [List.length_take] at hDl
      generalize l[j] = y at *
      obtain ⟨yo, yk, ya, yt⟩ := y
      dsimp only at c0 c1 c2 c3
      obtain ⟨N, hN⟩ : ∃ N, N = ((l.take j).filter (hitL o k)).length := ⟨_, rfl⟩
      rw [← hN] at HYj HNj hDl ⊢
      clear hN
      have HHB := Lib.hid hb; clear hb
      by_cases hg : yo = o
      · by_cases hd : yk = k
        · have HV := Lib.hid (HYj.out (show hitL o k ⟨yo, yk, ya, yt⟩ = true by unfold hitL; simp [hg, hd]))
          clear HYj HNj
          subst hg hd
          go_wp2
          go_roundw
          case rel => exact ⟨j + 1, by omega, by go_num, by rw [HV.out]; go_num, by first | exact HHB.out | exact below_drewN HHB.out _⟩
          case measure => simp [intOf]; omega
        · have HV := Lib.hid (HNj.out (show hitL o k ⟨yo, yk, ya, yt⟩ = false by unfold hitL; simp [hd]))
          clear HYj HNj
          have hdd : (yk == k) = false := beq_eq_false_iff_ne.2 hd
          subst hg
          go_wp2
          go_roundw
          case rel => exact ⟨j + 1, by omega, by go_num, by rw [HV.out], by first | exact HHB.out | exact below_drewN HHB.out _⟩
          case measure => simp [intOf]; omega
      · have HV := Lib.hid (HNj.out (show hitL o k ⟨yo, yk, ya, yt⟩ = false by unfold hitL; simp [hg]))
        clear HYj HNj
        have hgg : (yo == o) = false := beq_eq_false_iff_ne.2 hg
        go_wp2
        go_roundw
        case rel => exact ⟨j + 1, by omega, by go_num, by rw [HV.out], by first | exact HHB.out | exact below_drewN HHB.out _⟩
        case measure => simp [intOf]; omega
    · obtain rfl : j = l.length := by omega
      go_wp2
      go_ret
      exact ⟨rfl, hb⟩
end Go.Proofs.Ytadcmngooobeiaa

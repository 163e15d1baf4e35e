/- Contracts of the two texts of ChargeWeight. -/
import Derived.Test.YtakpeakahofjlaaParcel2
namespace Go.Proofs.Ytakpeakahofjlaa
open Go.RowKit
set_option maxRecDepth 100000 in
set_option maxHeartbeats 2000000 in
theorem charge (a b : Int) (t f : ByteArray) (wt : Int) (A : Option Addr) (cap : Nat) (zs : List Int) (v : Int) (w : World) (ht : t.size ≤ maxLen) (hf : f.size ≤ maxLen) (hA : IntsIn w A zs) (hn : zs.length ≤ 1048576) :
    Calls Try.prog 46 #[.agg #[.int .i64 a, .int .i64 b, .string t, .string f, .int .i64 wt, .slice A zs.length cap, .int .i64 v]] w fun e w' => e = .returned (.int .i64 (chW a b t f wt zs v)) ∧ Below w.heap.size w w' := by
  have hB0 := BoxP.new (T := 42) (a := a) (b := b) (t := t) (f := f) (wt := wt) (S := .slice A zs.length cap) (v := v) w
  have hb0 := (Below.refl w.heap.size w).alloc (Nat.le_refl _) (.cells #[.int .i64 a, .int .i64 b, .string t, .string f, .int .i64 wt, .slice A zs.length cap, .int .i64 v] 42)
  have H0 := Lib.hid (And.intro hB0 (And.intro hb0 (hA.below hb0))); clear hB0 hb0 hA
  have HI := Lib.hid (fun W (h : IntsIn W A zs) => is_parcel a b t f wt A cap zs v W ht hf h hn)
  have HV := Lib.hid (fun W (h : IntsIn W A zs) => vol_impl A cap zs W h (by omega))
  have hvb := vol_bd (l := zs)
  cases hp : parB a b t f wt zs v with
  | false =>
    have HR := Lib.hid (show chW a b t f wt zs v = 0 by unfold chW; rw [hp]; rfl)
    rw [hp] at HI; clear hp
    go_enter Try.func46, Try.ntmps46
    obtain ⟨k0, k1, k2, k3, k4, k5, k6⟩ := H0.out.1.cells
    go_wp2_with fail
    generalize hB : w.heap.size = B at *
    have HBE := Lib.hid hB; clear hB
    generalize w.alloc (.cells #[.int .i64 a, .int .i64 b, .string t, .string f, .int .i64 wt, .slice A zs.length cap, .int .i64 v] 42) = W at *
    refine (HI.out W H0.out.2.2).mono ?_; rintro e w1 ⟨rfl, hb1⟩
    go_wp2
    go_ret
    exact ⟨ret_int HR.out.symm, by rw [HBE.out]; exact H0.out.2.1.trans (hb1.mono (Nat.le_of_lt H0.out.1.lt))⟩
  | true =>
    have hwt := parB_wt hp
    have HR := Lib.hid (show chW a b t f wt zs v = max wt ((vol zs + 4999) / 5000) by unfold chW; rw [hp]; rfl)
    rw [hp] at HI; clear hp
    generalize vol zs = V at *
    obtain ⟨hv0, hv1⟩ := hvb
    obtain ⟨hw0, hw1⟩ := hwt
    have hd0 : 0 ≤ (V + 4999) / 5000 := by omega
    have hd1 : (V + 4999) / 5000 ≤ 2000000 := by omega
    go_enter Try.func46, Try.ntmps46
    obtain ⟨k0, k1, k2, k3, k4, k5, k6⟩ := H0.out.1.cells
    go_wp2_with fail
    generalize hB : w.heap.size = B at *
    have HBE := Lib.hid hB; clear hB
    generalize w.alloc (.cells #[.int .i64 a, .int .i64 b, .string t, .string f, .int .i64 wt, .slice A zs.length cap, .int .i64 v] 42) = W at *
    refine (HI.out W H0.out.2.2).mono ?_; rintro e w1 ⟨rfl, hb1⟩
    have Q1 := Lib.hid (And.intro (H0.out.1.below hb1) (And.intro (H0.out.2.1.trans (hb1.mono (Nat.le_of_lt H0.out.1.lt))) (H0.out.2.2.below hb1)))
    clear k0 k1 k2 k3 k4 k5 k6 hb1
    obtain ⟨k0, k1, k2, k3, k4, k5, k6⟩ := Q1.out.1.cells
    go_wp2_with fail
    refine (HV.out w1 Q1.out.2.2).mono ?_; rintro e w2 ⟨rfl, n, rfl⟩
    have hq : V + 5000 - 1 = V + 4999 := by omega
    by_cases hgt : wt < (V + 4999) / 5000
    all_goals
      go_wp2
      go_ret
      exact ⟨ret_int (by first | (rw [HR.out]; done) | (rw [HR.out]; omega)), by rw [HBE.out]; exact below_drewN Q1.out.2.1 _⟩
set_option maxRecDepth 100000 in
set_option maxHeartbeats 2000000 in
theorem charge_spec (a b : Int) (t f : ByteArray) (wt : Int) (A : Option Addr) (cap : Nat) (zs : List Int) (v : Int) (w : World) (ht : t.size ≤ maxLen) (hf : f.size ≤ maxLen) (hA : IntsIn w A zs) (hn : zs.length ≤ 1048576) :
    Calls Try.prog 45 #[.agg #[.int .i64 a, .int .i64 b, .string t, .string f, .int .i64 wt, .slice A zs.length cap, .int .i64 v]] w fun e w' => e = .returned (.int .i64 (chW a b t f wt zs v)) ∧ Below w.heap.size w w' := by
  have hB0 := BoxP.new (T := 42) (a := a) (b := b) (t := t) (f := f) (wt := wt) (S := .slice A zs.length cap) (v := v) w
  have hb0 := (Below.refl w.heap.size w).alloc (Nat.le_refl _) (.cells #[.int .i64 a, .int .i64 b, .string t, .string f, .int .i64 wt, .slice A zs.length cap, .int .i64 v] 42)
  have H0 := Lib.hid (And.intro hB0 (And.intro hb0 (hA.below hb0))); clear hB0 hb0 hA
  have HI := Lib.hid (fun W (h : IntsIn W A zs) => is_parcel_spec a b t f wt A cap zs v W ht hf h hn)
  have HV := Lib.hid (fun W (h : IntsIn W A zs) => vol_spec A cap zs W h (by omega))
  have hvb := vol_bd (l := zs)
  cases hp : parB a b t f wt zs v with
  | false =>
    have HR := Lib.hid (show chW a b t f wt zs v = 0 by unfold chW; rw [hp]; rfl)
    rw [hp] at HI; clear hp
    go_enter Try.func45, Try.ntmps45
    obtain ⟨k0, k1, k2, k3, k4, k5, k6⟩ := H0.out.1.cells
    go_wp2_with fail
    generalize hB : w.heap.size = B at *
    have HBE := Lib.hid hB; clear hB
    generalize w.alloc (.cells #[.int .i64 a, .int .i64 b, .string t, .string f, .int .i64 wt, .slice A zs.length cap, .int .i64 v] 42) = W at *
    refine (HI.out W H0.out.2.2).mono ?_; rintro e w1 ⟨rfl, hb1⟩
    go_wp2
    go_ret
    exact ⟨ret_int HR.out.symm, by rw [HBE.out]; exact H0.out.2.1.trans (hb1.mono (Nat.le_of_lt H0.out.1.lt))⟩
  | true =>
    have hwt := parB_wt hp
    have HR := Lib.hid (show chW a b t f wt zs v = max wt ((vol zs + 4999) / 5000) by unfold chW; rw [hp]; rfl)
    rw [hp] at HI; clear hp
    generalize vol zs = V at *
    obtain ⟨hv0, hv1⟩ := hvb
    obtain ⟨hw0, hw1⟩ := hwt
    have hd0 : 0 ≤ (V + 4999) / 5000 := by omega
    have hd1 : (V + 4999) / 5000 ≤ 2000000 := by omega
    go_enter Try.func45, Try.ntmps45
    obtain ⟨k0, k1, k2, k3, k4, k5, k6⟩ := H0.out.1.cells
    go_wp2_with fail
    generalize hB : w.heap.size = B at *
    have HBE := Lib.hid hB; clear hB
    generalize w.alloc (.cells #[.int .i64 a, .int .i64 b, .string t, .string f, .int .i64 wt, .slice A zs.length cap, .int .i64 v] 42) = W at *
    refine (HI.out W H0.out.2.2).mono ?_; rintro e w1 ⟨rfl, hb1⟩
    have Q1 := Lib.hid (And.intro (H0.out.1.below hb1) (And.intro (H0.out.2.1.trans (hb1.mono (Nat.le_of_lt H0.out.1.lt))) (H0.out.2.2.below hb1)))
    clear k0 k1 k2 k3 k4 k5 k6 hb1
    obtain ⟨k0, k1, k2, k3, k4, k5, k6⟩ := Q1.out.1.cells
    go_wp2_with fail
    refine (HV.out w1 Q1.out.2.2).mono ?_; rintro e w2 ⟨rfl, n, rfl⟩
    have hq : V + 5000 - 1 = V + 4999 := by omega
    by_cases hgt : wt < (V + 4999) / 5000
    all_goals
      go_wp2
      go_ret
      exact ⟨ret_int (by first | (rw [HR.out]; done) | (rw [HR.out]; omega)), by rw [HBE.out]; exact below_drewN Q1.out.2.1 _⟩
end Go.Proofs.Ytakpeakahofjlaa

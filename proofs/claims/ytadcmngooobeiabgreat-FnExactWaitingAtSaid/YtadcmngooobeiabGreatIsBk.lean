/- A booking of a network: isBooking; and all of a list. -/
import Derived.Test.YtadcmngooobeiabGreatBkCmp
import Derived.Test.YtadcmngooobeiabGreatBd
namespace Go.Proofs.YtadcmngooobeiabGreat
open Go.RowKit
/-- of a trip, with a thing and a weight in their ranges -/
def bkOk (l : List Lg) (zs : List Int) (x : Int) (b : Bk) : Bool := ronB l zs x b.g b.d && (decide (1 ≤ b.h ∧ b.h ≤ 9999) && decide (1 ≤ b.m ∧ b.m ≤ 1000000))
set_option maxRecDepth 100000 in
set_option maxHeartbeats 2000000 in
theorem is_bk (bh bg bd bm : Int) (A : Option Addr) (ca : Nat) (l : List Lg) (D : Option Addr) (cd : Nat) (zs : List Int) (x : Int) (w : World) (hA : InK 6 lgC w A l) (hD : IntsIn w D zs) (hs : ∀ z ∈ l, z.f.size ≤ maxLen ∧ z.t.size ≤ maxLen) (hn : l.length ≤ 1048576) (hm : zs.length ≤ 1048576) :
    Calls Tryz.prog 100 #[.agg #[.slice A l.length ca, .slice D zs.length cd, .int .i64 x], .agg #[.int .i64 bh, .int .i64 bg, .int .i64 bd, .int .i64 bm]] w fun e w' => e = .returned (.bool (bkOk l zs x ⟨bh, bg, bd, bm⟩)) ∧ Below w.heap.size w w' := by
  have H2 := Lib.hid (two w (.cells #[.slice A l.length ca, .slice D zs.length cd, .int .i64 x] 36) (.cells #[.int .i64 bh, .int .i64 bg, .int .i64 bd, .int .i64 bm] 106))
  have HA := Lib.hid (hA.below H2.out.2.2.1); have HD := Lib.hid (hD.below H2.out.2.2.1); clear hA hD
  have HT := Lib.hid (fun W (h1 : InK 6 lgC W A l) (h2 : IntsIn W D zs) => is_trip bg bd A ca l D cd zs x W h1 h2 hs hn hm)
  have HV := Lib.hid (show bkOk l zs x ⟨bh, bg, bd, bm⟩ = (ronB l zs x bg bd && (decide (1 ≤ bh ∧ bh ≤ 9999) && decide (1 ≤ bm ∧ bm ≤ 1000000))) from rfl)
  generalize bkOk l zs x ⟨bh, bg, bd, bm⟩ = V at *
  generalize ronB l zs x bg bd = T at *
  go_enter Tryz.func100, Tryz.ntmps100
  go_wp2_with fail
  generalize hB : w.heap.size = B at *
  have HBE := Lib.hid hB; clear hB
  generalize (w.alloc (.cells #[.slice A l.length ca, .slice D zs.length cd, .int .i64 x] 36)).alloc (.cells #[.int .i64 bh, .int .i64 bg, .int .i64 bd, .int .i64 bm] 106) = W at *
  refine (HT.out W HA.out HD.out).mono ?_; rintro e w1 ⟨rfl, hb1⟩
  obtain ⟨h1, h2, h3, h4⟩ := H2.out
  obtain ⟨b0, b1, b2, b3, _, _, _, _⟩ := row4 ((hb1.block (B + 1) (by omega)).trans h2)
  have HF := Lib.hid (h3.trans (hb1.mono (by omega)))
  clear h1 h2 h3 h4 hb1 H2 HT HA HD
  cases T with
  | false =>
    go_wp2
    go_ret
    exact ⟨by rw [HV.out]; simp [*], by rw [HBE.out]; exact HF.out⟩
  | true =>
    by_cases q1 : 1 ≤ bh
    · by_cases q2 : bh ≤ 9999
      · by_cases q3 : 1 ≤ bm
        · go_wp2
          go_ret
          exact ⟨by rw [HV.out]; simp [*], by rw [HBE.out]; exact HF.out⟩
        · have HZ := Lib.hid (show decide (1 ≤ bm ∧ bm ≤ 1000000) = false from decide_eq_false (by omega))
          go_wp2
          go_ret
          exact ⟨by rw [HV.out, HZ.out]; simp, by rw [HBE.out]; exact HF.out⟩
      · have HZ := Lib.hid (show decide (1 ≤ bh ∧ bh ≤ 9999) = false from decide_eq_false (by omega))
        go_wp2
        go_ret
        exact ⟨by rw [HV.out, HZ.out]; simp, by rw [HBE.out]; exact HF.out⟩
    · have HZ := Lib.hid (show decide (1 ≤ bh ∧ bh ≤ 9999) = false from decide_eq_false (by omega))
      go_wp2
      go_ret
      exact ⟨by rw [HV.out, HZ.out]; simp, by rw [HBE.out]; exact HF.out⟩
end Go.Proofs.YtadcmngooobeiabGreat

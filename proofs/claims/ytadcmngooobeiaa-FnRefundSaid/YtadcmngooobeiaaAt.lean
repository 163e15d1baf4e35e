/- The contract of laws.at: one number for one index, whatever was made behind the code. -/
import Derived.Test.YtadcmngooobeiaaOpenB
import Derived.Test.YtadcmngooobeiaaBig
namespace Go.Proofs.Ytadcmngooobeiaa
open Go.RowKit
theorem at_val (A : Option Addr) (n cap : Nat) (w : World) (hr : BytesIn w A n) (_hn : n ≤ 4096) (i : Nat) (_hi : i ≤ 1000) :
    ∃ v : Int, 0 ≤ v ∧ v ≤ 255 ∧ ∀ w' : World, Below w.heap.size w w' → Calls Try.prog 56 #[.slice A n cap, .int .i64 i] w' fun e w'' => e = .returned (.int .i64 v) ∧ w' = w'' := by
  by_cases h : i < n
  · obtain ⟨ad, v, rfl, hl, hc, h0, h1⟩ := hr i h
    refine ⟨v, h0, h1, fun w' hb => ?_⟩
    have hc' : w'.cell? (ad.add i) = some (.int .u8 v) := by rw [← hc]; exact hb.cell (by rw [addr_block]; exact hl)
    have hlt : ¬ ((n : Int) ≤ (i : Int)) := by omega
    clear hc hr hb
    go_enter Try.func56, Try.ntmps56
    go_wp2
    go_ret
    exact ⟨rfl, rfl⟩
  · refine ⟨0, by omega, by omega, fun w' _ => ?_⟩
    have hlt : (n : Int) ≤ (i : Int) := by omega
    clear hr
    go_enter Try.func56, Try.ntmps56
    go_wp2
    go_ret
    exact ⟨rfl, rfl⟩
end Go.Proofs.Ytadcmngooobeiaa

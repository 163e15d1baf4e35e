/- The laws' marks on a slice of texts, and the test that two slices of texts are alike. -/
import Derived.Test.YtamlbiagjipedaaGreatBa
import Derived.Test.YtamlbiagjipedaaGreatDecM
import Derived.Test.YtamlbiagjipedaaGreatConv1
import Derived.Deep.RegionWith
import Derived.Deep.RegionHeld3
import Derived.Laws.OwnMore
import Derived.WalkKit
namespace Go.Proofs.YtamlbiagjipedaaGreat
open Go.RowKit
def mtxt (k : Nat) : ByteArray := ⟨#[109]⟩ ++ ⟨(Lib.itoa k).toArray⟩
def mks (k n : Nat) : List ByteArray := (List.range n).map fun i => mtxt (k + i)
theorem mks_len (k0 j : Nat) (l : List ByteArray) (hj : j ≤ l.length) : (mks k0 j ++ l.drop j).length = l.length := by simp [mks]; omega
theorem mks_set (k0 j : Nat) (l : List ByteArray) (hj : j < l.length) : strV (mks k0 (j + 1) ++ l.drop (j + 1)) = (strV (mks k0 j ++ l.drop j)).set j (.string (mtxt (k0 + j))) := by
  have e : l.drop j = l[j] :: l.drop (j + 1) := List.drop_eq_getElem_cons hj
  have hl : (mks k0 j).length = j := by simp [mks]
  rw [e]
  simp only [strV, List.map_append, List.map_cons]
  rw [List.set_append_right _ _ (by simp [hl])]
  simp [mks, List.range_succ]
set_option maxRecDepth 100000 in
set_option maxHeartbeats 400000 in
theorem mark_text (n : Nat) (w : World) (h0 : 0 < n) (h1 : n ≤ 9223372036854775807) :
    Calls Tryz.prog 91 #[.int .i64 n] w fun e w' => e = .returned (.string (mtxt n)) ∧ Below w.heap.size w w' := by
  have hneg : ¬ ((n : Int) ≤ 0) := by omega
  go_enter Tryz.func91, Tryz.ntmps91
  go_wp2
  go_loopw [3, 0] (fun s x wr => ∃ (m : Nat) (l : List UInt8), m ≤ n ∧ x = .int .i64 m ∧ s = .string ⟨l.toArray⟩ ∧ decTail m ++ l = Lib.decDigits n ∧ Below w.heap.size w wr) (fun _ x _ => (intOf x).toNat)
  case atStart => exact ⟨n, [], Nat.le_refl _, rfl, rfl, by unfold decTail; rw [if_neg (by omega), List.append_nil], Below.refl _ _⟩
  case round =>
    obtain ⟨m, l, hm, rfl, rfl, hl, hb⟩ := hrel
    have HL := Lib.hid hl; clear hl
    have hll : ¬ 9223372036854775807 < 1 + l.length := by
      have h2 := congrArg List.length HL.out
      have h3 := Lib.itoa_length_le n (by omega) (by omega)
      rw [Lib.itoa_nonneg] at h3
      simp only [List.length_append] at h2
      omega
    by_cases hm0 : m = 0
    · subst hm0
      have hmb : ¬ ((0 : Int) < ((0 : Nat) : Int)) := by omega
      go_wp2
      go_ret
      exact ⟨ret_str' (by have := HL.out; simp only [decTail, if_true, List.nil_append] at this; rw [this]; unfold mtxt; rw [Lib.itoa_nonneg]), hb⟩
    · have hmb : (0 : Int) < m := by omega
      have hm1 : (0 : Int) ≤ m := by omega
      have hm2 : (m : Int) ≤ 9223372036854775807 := by omega
      have kc := conv_one wr (48 + (m : Int) % 10) (by omega) (by omega)
      go_wp2
      go_roundw
      case rel =>
        refine ⟨m / 10, UInt8.ofNat (48 + m % 10) :: l, by omega, by go_num, ?_, ?_, hb.alloc hb.size _⟩
        · refine congrArg Value.string ?_
          rw [byte_sum]; rfl
        · have := HL.out
          rw [tail_step m hm0] at this
          simpa using this
      case measure => simp [intOf]; omega
end Go.Proofs.YtamlbiagjipedaaGreat

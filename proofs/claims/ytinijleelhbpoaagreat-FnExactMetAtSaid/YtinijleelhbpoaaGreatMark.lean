/- The laws' marks on a slice of texts, and the test that two slices of texts are alike. -/
import Derived.Test.YtinijleelhbpoaaGreatBa
import Derived.Test.YtinijleelhbpoaaGreatDecM
import Derived.Test.YtinijleelhbpoaaGreatConv1
import Derived.Deep.RegionWith
import Derived.Deep.RegionHeld3
import Derived.Laws.OwnMore
import Derived.WalkKit
namespace Go.Proofs.YtinijleelhbpoaaGreat
open Go.RowKit
def mtxt (k : Nat) : ByteArray := ⟨#[109]⟩ ++ ⟨(Lib.itoa k).toArray⟩
def mks (k n : Nat) : List ByteArray := (List.range n).map fun i => mtxt (k + i)
theorem mks_len (k0 j : Nat) (l : List ByteArray) (hj : j ≤ l.length) : (mks k0 j ++ l.drop j).length = l.length := by simp [mks]; omega
theorem mks_set (k0 j : Nat) (l : List ByteArray) (hj : j < l.length) : strV (mks k0 (j + 1) ++ l.drop (j + 1)) = (strV (mks k0 j ++ l.drop j)).set j (.string (mtxt (k0 + j))) := by
 have e : l.drop j = l[j] :: l.drop (j + 1) := List.drop_eq_getElem_cons hj
 have hl : (mks k0 j).length = j := by simp [mks]
 rw [e]
 simp only [strV, List.map_append, List.map_cons]
 rw [List.set_append_right _ _ (by simp [hl])]
 simp [mks, List.range_succ]
set_option maxRecDepth 100000 in
set_option maxHeartbeats 400000 in
theorem mark_text (n : Nat) (w : World) (h0 : 0 < n) (h1 : n ≤ 9223372036854775807) :
  Calls Tryz.prog 125 #[.int .i64 n] w fun e w' => e = .returned (.string (mtxt n)) ∧ Below w.heap.size w w' := by
 have hneg : ¬ ((n : Int) ≤ 0) := by omega
 go_enter Tryz.func125, Tryz.ntmps125
 go_wp2
 go_loopw [3, 0] (fun s x wr => ∃ (m : Nat) (l : List UInt8), m ≤ n ∧ x = .int .i64 m ∧ s = .string ⟨l.toArray⟩ ∧ decTail m ++ l = Lib.decDigits n ∧ Below w.heap.size w wr) (fun _ x _ => (intOf x).toNat)
 case atStart => exact ⟨n, [], Nat.le_refl _, rfl, rfl, by unfold decTail; rw [if_neg (by omega), List.append_nil], Below.refl _ _⟩
 case round =>
  obtain ⟨m, l, hm, rfl, rfl, hl, hb⟩ := hrel
  have HL := Lib.hid hl; clear hl
  have hll : ¬ 9223372036854775807 < 1 + l.length := by
   have h2 := congrArg List.length HL.out
   have h3 := Lib.itoa_length_le n (by omega) (by omega)
   rw [Lib.itoa_nonneg] at h3
   simp only [List.length_append] at h2
   omega
  by_cases hm0 : m = 0
  ·subst hm0
   have hmb : ¬ ((0 : Int) < ((0 : Nat) : Int)) := by omega
   go_wp2
   go_ret
   exact ⟨ret_str' (by have := HL.out; simp only [decTail, if_true, List.nil_append] at this; rw [this]; unfold mtxt; rw [Lib.itoa_nonneg]), hb⟩
  ·have hmb : (0 : Int) < m := by omega
   have hm1 : (0 : Int) ≤ m := by omega
   have hm2 : (m : Int) ≤ 9223372036854775807 := by omega
   have kc := conv_one wr (48 + (m : Int) % 10) (by omega) (by omega)
   go_wp2
   go_roundw
   case rel =>
    refine ⟨m / 10, UInt8.ofNat (48 + m % 10) :: l, by omega, by go_num, ?_, ?_, hb.alloc hb.size _⟩
    ·refine congrArg Value.string ?_
     rw [byte_sum]; rfl
    ·have := HL.out
     rw [tail_step m hm0] at this
     simpa using this
   case measure => simp [intOf]; omega
set_option maxRecDepth 100000 in
set_option maxHeartbeats 400000 in
theorem eq_strs (v u : Value) (l : List ByteArray) (b c : Nat) (w : World) (hv : OwnStr w b v l) (hu : OwnStr w c u l) (hn : l.length ≤ 4000000) :
  Calls Tryz.prog 67 #[v, u] w fun e w' => e = .returned (.bool true) ∧ Below w.heap.size w w' := by
 by_cases hl : l = []
 ·subst hl
  obtain ⟨cv, A, rfl⟩ : ∃ (cv : Nat) (A : Option Addr), v = .slice A 0 cv := by
   rcases hv.2 with ⟨h, _⟩ | ⟨g, cap, _, h, _⟩
   ·exact ⟨_, _, h⟩
   ·exact ⟨_, _, h⟩
  obtain ⟨cu, B, rfl⟩ : ∃ (cu : Nat) (B : Option Addr), u = .slice B 0 cu := by
   rcases hu.2 with ⟨h, _⟩ | ⟨g, cap, _, h, _⟩
   ·exact ⟨_, _, h⟩
   ·exact ⟨_, _, h⟩
  go_enter Tryz.func67, Tryz.ntmps67
  go_wp2
  go_loopw [5] (fun i wr => i = .int .i64 0 ∧ wr = w) (fun _ _ => 0)
  case atStart => exact ⟨rfl, rfl⟩
  case round =>
   obtain ⟨rfl, rfl⟩ := hrel
   go_wp2
   go_ret
   exact ⟨rfl, Below.refl _ _⟩
 ·have hne : 0 < l.length := List.length_pos_iff.2 hl
  obtain ⟨g, cap, rfl⟩ : ∃ g cap, v = .slice (some ⟨g, 0, none⟩) l.length cap := by
   rcases hv.2 with ⟨_, h⟩ | ⟨g, cap, _, h, _⟩
   ·omega
   ·exact ⟨_, _, h⟩
  obtain ⟨g', cap', rfl⟩ : ∃ g cap, u = .slice (some ⟨g, 0, none⟩) l.length cap := by
   rcases hu.2 with ⟨_, h⟩ | ⟨g, cap, _, h, _⟩
   ·omega
   ·exact ⟨_, _, h⟩
  have hc1 : ∀ j (hj : j < l.length), w.cell? ⟨g, j, none⟩ = some (.string l[j]) := fun j hj => by
   have h := World.ownsRow.cellAt (w := w) (base := b) (e := 9) (size := 1) hv j (by omega)
   rw [h]; simp [strV, hj]
  have hc2 : ∀ j (hj : j < l.length), w.cell? ⟨g', j, none⟩ = some (.string l[j]) := fun j hj => by
   have h := World.ownsRow.cellAt (w := w) (base := c) (e := 9) (size := 1) hu j (by omega)
   rw [h]; simp [strV, hj]
  have HC1 := Lib.hid hc1; have HC2 := Lib.hid hc2
  clear hc1 hc2 hv hu hl
  have hlb : ((l.length : Int) != (l.length : Int)) = false := by simp
  go_enter Tryz.func67, Tryz.ntmps67
  go_wp2
  go_loopw [5] (fun i wr => ∃ j : Nat, j ≤ l.length ∧ i = .int .i64 j ∧ Below w.heap.size w wr ∧ (∀ a, wr.cell? a = w.cell? a)) (fun i _ => l.length - (intOf i).toNat)
  case atStart => exact ⟨0, Nat.zero_le _, rfl, Below.refl _ _, fun _ => rfl⟩
  case round =>
   obtain ⟨j, hj, rfl, hb, hsame⟩ := hrel
   have HS := Lib.hid hsame; clear hsame
   by_cases hlt : (j : Int) < (l.length : Int)
   ·have hjn : j < l.length := by omega
    have k1 := (HS.out _).trans (HC1.out j hjn)
    have k2 := (HS.out _).trans (HC2.out j hjn)
    have hq : (l[j].toList != l[j].toList) = false := by simp
    go_wp2_with fail
    go_quiet (fail)
    go_wp2
    go_roundw
    case rel => exact ⟨j + 1, by omega, by go_num, below_drewN hb _, fun a => HS.out a⟩
    case measure => simp [intOf]; omega
   ·go_wp2
    go_ret
    exact ⟨rfl, hb⟩
set_option maxRecDepth 100000 in
set_option maxHeartbeats 400000 in
theorem mark_strs (g cap k0 b : Nat) (l : List ByteArray) (w : World) (hv : OwnStr w b (.slice (some ⟨g, 0, none⟩) l.length cap) l) (hn : l.length ≤ 4000000) (hk0 : 0 < k0) (hk : k0 ≤ 1000000) :
  Calls Tryz.prog 68 #[.slice (some ⟨g, 0, none⟩) l.length cap, .int .i64 k0] w fun e w' => e = .returned (.int .i64 ((k0 + l.length : Nat) : Int)) ∧ OwnStr w' b (.slice (some ⟨g, 0, none⟩) l.length cap) (mks k0 l.length) ∧ w.grownBy w' (some g) := by
 go_enter Tryz.func68, Tryz.ntmps68
 go_wp2
 go_loopw [1, 5] (fun k i wr => ∃ j : Nat, j ≤ l.length ∧ i = .int .i64 j ∧ k = .int .i64 ((k0 + j : Nat) : Int) ∧ OwnStr wr b (.slice (some ⟨g, 0, none⟩) l.length cap) (mks k0 j ++ l.drop j) ∧ w.grownBy wr (some g)) (fun _ i _ => l.length - (intOf i).toNat)
 case atStart => exact ⟨0, Nat.zero_le _, rfl, rfl, by simpa [mks] using hv, ⟨rfl, rfl, rfl, Nat.le_refl _, fun _ _ _ => rfl⟩⟩
 case round =>
  obtain ⟨j, hj, rfl, rfl, hown, hgr⟩ := hrel
  by_cases hlt : (j : Int) < (l.length : Int)
  ·have hjn : j < l.length := by omega
   have HO := Lib.hid hown; clear hown
   obtain ⟨K, hK⟩ : ∃ K, K = k0 + j := ⟨_, rfl⟩
   rw [← hK]
   have HK := Lib.hid hK
   have hKp : 0 < K := by omega
   have hKb : K ≤ 9223372036854775800 := by omega
   clear hK
   go_wp2_with fail
   refine (mark_text K wr hKp (by omega)).mono ?_; rintro e w2 ⟨rfl, hbt⟩
   have hown2 := own_below HO.out hbt
   unfold OwnStr at hown2
   rw [mks_len k0 j l hj] at hown2
   have hcell : w2.cell? ⟨g, j, none⟩ = some (.string l[j]) := by
    rw [hown2.cellAt j (by omega)]
    rw [strV, List.getElem?_map, List.getElem?_append_right (by simp [mks])]
    simp [mks, hjn]
   have hfz : w2.frozen? ⟨g, j, none⟩ = false := hown2.frozenAt j
   have hst := hown2.stored j (.string (mtxt K))
   have hgr2 := only_trans (only_trans hgr (only_of_below hbt g)) hst.2
   have HST := Lib.hid hst.1
   clear hst hown2
   go_wp2
   go_roundw
   case rel =>
    refine ⟨j + 1, by omega, by go_num, by rw [HK.out]; go_num, ?_, hgr2⟩
    have e := mks_set k0 j l hjn
    rw [← HK.out] at e
    unfold OwnStr
    rw [mks_len k0 (j + 1) l (by omega), e]
    exact HST.out
   case measure => simp [intOf]; omega
  ·obtain rfl : j = l.length := by omega
   rw [List.drop_length, List.append_nil] at hown
   have HO := Lib.hid hown; clear hown
   go_wp2
   go_ret
   exact ⟨rfl, HO.out, hgr⟩
set_option maxRecDepth 100000 in
set_option maxHeartbeats 400000 in
theorem held_strs (g cap k0 b n : Nat) (w : World) (hv : OwnStr w b (.slice (some ⟨g, 0, none⟩) n cap) (mks k0 n)) (hn : n ≤ 4000000) (hk0 : 0 < k0) (hk : k0 ≤ 1000000) :
  Calls Tryz.prog 69 #[.slice (some ⟨g, 0, none⟩) n cap, .int .i64 k0] w fun e w' => e = .returned (.int .i64 ((k0 + n : Nat) : Int)) ∧ Below w.heap.size w w' := by
 have HV := Lib.hid hv; clear hv
 go_enter Tryz.func69, Tryz.ntmps69
 go_wp2
 go_loopw [1, 5] (fun k i wr => ∃ j : Nat, j ≤ n ∧ i = .int .i64 j ∧ k = .int .i64 ((k0 + j : Nat) : Int) ∧ Below w.heap.size w wr) (fun _ i _ => n - (intOf i).toNat)
 case atStart => exact ⟨0, Nat.zero_le _, rfl, rfl, Below.refl _ _⟩
 case round =>
  obtain ⟨j, hj, rfl, rfl, hb⟩ := hrel
  by_cases hlt : (j : Int) < (n : Int)
  ·have hjn : j < n := by omega
   obtain ⟨K, hK⟩ : ∃ K, K = k0 + j := ⟨_, rfl⟩
   rw [← hK]
   have HK := Lib.hid hK
   have hKp : 0 < K := by omega
   have hKb : K ≤ 9223372036854775800 := by omega
   clear hK
   have hc : wr.cell? ⟨g, j, none⟩ = some (.string (mtxt K)) := by
    have h := own_below HV.out hb
    unfold OwnStr at h
    rw [show (mks k0 n).length = n from by simp [mks]] at h
    rw [h.cellAt j (by omega), HK.out]
    simp [strV, mks, hjn]
   have hglt : g < wr.heap.size := ((own_below HV.out hb).lt g rfl).2
   have hq : ((mtxt K).toList != (mtxt K).toList) = false := by simp
   obtain ⟨W, hW⟩ : ∃ W : World, W = wr := ⟨_, rfl⟩
   subst hW
   go_wp2_with fail
   go_region_with (go_at_call 125; refine (mark_text K _ hKp (by omega)).mono ?_; (rintro e u ⟨rfl, hu⟩; (first | (have hb1 : Below W.heap.size W u := below_undrew hu) | (have hb1 : Below W.heap.size W u := hu)); have hcu := (hb1.cell (p := ⟨g, j, none⟩) hglt).trans hc; have hfu := hb1.frozen (p := ⟨g, j, none⟩) hglt))
   all_goals
    go_wp2
    go_roundw
    case rel => exact ⟨j + 1, by omega, by go_num, by rw [HK.out]; go_num, hb.trans (hb1.mono hb.size)⟩
    case measure => simp [intOf]; omega
  ·obtain rfl : j = n := by omega
   go_wp2
   go_ret
   exact ⟨rfl, hb⟩
set_option maxRecDepth 100000 in
theorem mark_none (A : Option Addr) (cap k : Nat) (w : World) :
  Calls Tryz.prog 68 #[.slice A 0 cap, .int .i64 k] w fun e w' => e = .returned (.int .i64 k) ∧ w' = w := by
 go_enter Tryz.func68, Tryz.ntmps68
 go_wp2
 go_loopw [1, 5] (fun k' i wr => i = .int .i64 0 ∧ k' = .int .i64 k ∧ wr = w) (fun _ _ _ => 0)
 case atStart => exact ⟨rfl, rfl, rfl⟩
 case round =>
  obtain ⟨rfl, rfl, rfl⟩ := hrel
  go_wp2
  go_ret
  exact ⟨rfl, rfl⟩
set_option maxRecDepth 100000 in
theorem held_none (A : Option Addr) (cap k : Nat) (w : World) :
  Calls Tryz.prog 69 #[.slice A 0 cap, .int .i64 k] w fun e w' => e = .returned (.int .i64 k) ∧ w' = w := by
 go_enter Tryz.func69, Tryz.ntmps69
 go_wp2
 go_loopw [1, 5] (fun k' i wr => i = .int .i64 0 ∧ k' = .int .i64 k ∧ wr = w) (fun _ _ _ => 0)
 case atStart => exact ⟨rfl, rfl, rfl⟩
 case round =>
  obtain ⟨rfl, rfl, rfl⟩ := hrel
  go_wp2
  go_ret
  exact ⟨rfl, rfl⟩
end Go.Proofs.YtinijleelhbpoaaGreat

/- The laws' marks on a slice of ints. -/
import Derived.Test.YtadcmngooobeiaaBa
namespace Go.Proofs.Ytadcmngooobeiaa
open Go.RowKit
def mki (k n : Nat) : List Int := (List.range n).map fun i => ((k + i : Nat) : Int)
theorem mki_len (k n : Nat) : (mki k n).length = n := by simp [mki]
theorem mki_mix (k0 j : Nat) (l : List Int) (hj : j ≤ l.length) : (mki k0 j ++ l.drop j).length = l.length := by simp [mki]; omega
theorem mki_set (k0 j : Nat) (l : List Int) (hj : j < l.length) : intV (mki k0 (j + 1) ++ l.drop (j + 1)) = (intV (mki k0 j ++ l.drop j)).set j (.int .i64 ((k0 + j : Nat) : Int)) := by
  have e : l.drop j = l[j] :: l.drop (j + 1) := List.drop_eq_getElem_cons hj
  have hl : (mki k0 j).length = j := by simp [mki]
  rw [e]
  simp only [intV, List.map_append, List.map_cons]
  rw [List.set_append_right _ _ (by simp [hl])]
  simp [mki, List.range_succ]
set_option maxRecDepth 100000 in
set_option maxHeartbeats 400000 in
theorem mark_ints (v : Value) (k0 b : Nat) (l : List Int) (w : World) (hv : OwnI w b v l) (hn : l.length ≤ 1048576) (hk : k0 ≤ 1000000000) :
    Calls Try.prog 44 #[v, .int .i64 k0] w fun e w' => e = .returned (.int .i64 ((k0 + l.length : Nat) : Int)) ∧ OwnI w' b v (mki k0 l.length) ∧ w.grownBy w' v.ownBlock := by
  by_cases h0 : l = []
  · subst h0
    obtain ⟨A, cap, rfl⟩ := hv.opens
    have HV := Lib.hid hv; clear hv
    rw [show ([] : List Int).length = 0 from rfl] at *
    go_enter Try.func44, Try.ntmps44
    go_wp2
    go_loopw [1, 5] (fun k' i wr => i = .int .i64 0 ∧ k' = .int .i64 k0 ∧ wr = w) (fun _ _ _ => 0)
    case atStart => exact ⟨rfl, rfl, rfl⟩
    case round =>
      obtain ⟨rfl, rfl, rfl⟩ := hrel
      go_wp2
      go_ret
      exact ⟨rfl, HV.out, ⟨rfl, rfl, rfl, Nat.le_refl _, fun _ _ _ => rfl⟩⟩
  · obtain ⟨g, cap, rfl, _, _⟩ := hv.row h0
    clear h0
    rw [show (Value.slice (some ⟨g, 0, none⟩) l.length cap).ownBlock = some g from rfl]
    go_enter Try.func44, Try.ntmps44
    go_wp2
    go_loopw [1, 5] (fun k i wr => ∃ j : Nat, j ≤ l.length ∧ i = .int .i64 j ∧ k = .int .i64 ((k0 + j : Nat) : Int) ∧ OwnI wr b (.slice (some ⟨g, 0, none⟩) l.length cap) (mki k0 j ++ l.drop j) ∧ w.grownBy wr (some g)) (fun _ i _ => l.length - (intOf i).toNat)
    case atStart => exact ⟨0, Nat.zero_le _, rfl, rfl, by simpa [mki] using hv, ⟨rfl, rfl, rfl, Nat.le_refl _, fun _ _ _ => rfl⟩⟩
    case round =>
      obtain ⟨j, hj, rfl, rfl, hown, hgr⟩ := hrel
      clear hv
      by_cases hlt : (j : Int) < (l.length : Int)
      · have hjn : j < l.length := by omega
        obtain ⟨K, hK⟩ : ∃ K, K = k0 + j := ⟨_, rfl⟩
        rw [← hK]
        have HK := Lib.hid hK
        have hKb : K ≤ 9223372036854775800 := by omega
        clear hK
        have hown2 := hown
        unfold OwnI at hown2
        rw [mki_mix k0 j l hj] at hown2
        have hcell : wr.cell? ⟨g, j, none⟩ = some (.int .i64 l[j]) := by
          rw [hown2.cellAt j (by omega)]
          rw [intV, List.getElem?_map, List.getElem?_append_right (by simp [mki])]
          simp [mki, hjn]
        have hfz : wr.frozen? ⟨g, j, none⟩ = false := hown2.frozenAt j
        have hst := hown2.stored j (.int .i64 (K : Int))
        have hgr2 := only_trans hgr hst.2
        have HST := Lib.hid hst.1
        clear hst hown2 hown
        go_wp2
        go_roundw
        case rel =>
          refine ⟨j + 1, by omega, by go_num, by rw [HK.out]; go_num, ?_, hgr2⟩
          have e := mki_set k0 j l hjn
          rw [← HK.out] at e
          unfold OwnI
          rw [mki_mix k0 (j + 1) l (by omega), e]
          exact HST.out
        case measure => simp [intOf]; omega
      · obtain rfl : j = l.length := by omega
        rw [List.drop_length, List.append_nil] at hown
        have HO := Lib.hid hown; clear hown
        go_wp2
        go_ret
        exact ⟨rfl, HO.out, hgr⟩
set_option maxRecDepth 100000 in
set_option maxHeartbeats 400000 in
theorem held_ints (v : Value) (k0 b n : Nat) (w : World) (hv : OwnI w b v (mki k0 n)) (hn : n ≤ 1048576) (hk : k0 ≤ 1000000000) :
    Calls Try.prog 49 #[v, .int .i64 k0] w fun e w' => e = .returned (.int .i64 ((k0 + n : Nat) : Int)) ∧ Below w.heap.size w w' := by
  obtain ⟨A, cap, rfl⟩ := hv.opens
  have HI := Lib.hid hv.ins.2
  rw [mki_len] at hv ⊢
  clear hv
  go_enter Try.func49, Try.ntmps49
  go_wp2
  go_loopw [1, 5] (fun k i wr => ∃ j : Nat, j ≤ n ∧ i = .int .i64 j ∧ k = .int .i64 ((k0 + j : Nat) : Int) ∧ Below w.heap.size w wr) (fun _ i _ => n - (intOf i).toNat)
  case atStart => exact ⟨0, Nat.zero_le _, rfl, rfl, Below.refl _ _⟩
  case round =>
    obtain ⟨j, hj, rfl, rfl, hb⟩ := hrel
    by_cases hlt : (j : Int) < (n : Int)
    · have hjn : j < n := by omega
      obtain ⟨K, hK⟩ : ∃ K, K = k0 + j := ⟨_, rfl⟩
      rw [← hK]
      have HK := Lib.hid hK
      have hKb : K ≤ 9223372036854775800 := by omega
      clear hK
      obtain ⟨g, rfl, hg, hc⟩ := HI.out j (by rw [mki_len]; exact hjn)
      have hc' : wr.cell? ⟨g, j, none⟩ = some (.int .i64 (K : Int)) := by
        rw [hb.cell hg, hc, HK.out]; simp [mki]
      clear hc
      have hq : ((K : Int) != (K : Int)) = false := by simp
      go_wp2
      go_roundw
      case rel => exact ⟨j + 1, by omega, by go_num, by rw [HK.out]; go_num, hb⟩
      case measure => simp [intOf]; omega
    · obtain rfl : j = n := by omega
      go_wp2
      go_ret
      exact ⟨rfl, hb⟩
end Go.Proofs.Ytadcmngooobeiaa

/- Contracts of the two texts of ZoneOf. -/
import Derived.Test.YtakpeakahofjlaaZones
namespace Go.Proofs.Ytakpeakahofjlaa
open Go.RowKit
def zIn (z : Zn) (p : ByteArray) : Bool := !Op.bytesLess p.toList z.1.toList && !Op.bytesLess z.2.toList p.toList
def zoneIx (l : List Zn) (p : ByteArray) : Int := match (List.range l.length).find? (fun i => zIn (zAt l i) p) with
  | some i => i
  | none => -1
def zoneOf (l : List Zn) (p : ByteArray) : Int := if areZB l && plcB p.data.toList then zoneIx l p else -1
theorem zIx_hit {l : List Zn} {p : ByteArray} {k : Nat} (hk : k < l.length) (h : ∀ j, j < k → zIn (zAt l j) p = false) (hz : zIn (zAt l k) p = true) : zoneIx l p = k := by
  unfold zoneIx
  have : (List.range l.length).find? (fun i => zIn (zAt l i) p) = some k := by
    rw [List.find?_range_eq_some]
    exact ⟨hz, List.mem_range.2 hk, fun j hj => by simp [h j hj]⟩
  rw [this]
theorem zIx_none {l : List Zn} {p : ByteArray} (h : ∀ j, j < l.length → zIn (zAt l j) p = false) : zoneIx l p = -1 := by
  unfold zoneIx
  have : (List.range l.length).find? (fun i => zIn (zAt l i) p) = none := by
    rw [List.find?_eq_none]
    intro j hj
    simp [h j (List.mem_range.1 hj)]
  rw [this]
theorem zoneOf_bad1 {l : List Zn} {p : ByteArray} (h : areZB l = false) : zoneOf l p = -1 := by unfold zoneOf; rw [h]; rfl
theorem zoneOf_bad2 {l : List Zn} {p : ByteArray} (h : plcB p.data.toList = false) : zoneOf l p = -1 := by unfold zoneOf; rw [h]; simp
theorem zoneOf_ok {l : List Zn} {p : ByteArray} (h1 : areZB l = true) (h2 : plcB p.data.toList = true) : zoneOf l p = zoneIx l p := by unfold zoneOf; rw [h1, h2]; rfl
theorem zoneIx_bd (l : List Zn) (p : ByteArray) : -1 ≤ zoneIx l p ∧ zoneIx l p < max 1 l.length := by
  unfold zoneIx
  split
  · next i h =>
    have := List.mem_range.1 (List.mem_of_find?_eq_some h)
    omega
  · omega
theorem zoneOf_bd (l : List Zn) (p : ByteArray) : -1 ≤ zoneOf l p ∧ zoneOf l p ≤ 8 := by
  unfold zoneOf
  split
  · next h =>
    have h8 : l.length ≤ 8 := by
      simp only [Bool.and_eq_true, areZB, decide_eq_true_eq] at h
      exact h.1.1
    have := zoneIx_bd l p
    omega
  · omega
set_option maxRecDepth 100000 in
set_option maxHeartbeats 1000000 in
theorem zone_of (A : Option Addr) (cap : Nat) (l : List Zn) (p : ByteArray) (w : World) (hA : InK 2 zC w A l) (hs : ∀ z ∈ l, z.1.size ≤ maxLen ∧ z.2.size ≤ maxLen) (hn : l.length ≤ 1048576) (hp : p.size ≤ maxLen) :
    Calls Try.prog 25 #[.slice A l.length cap, .string p] w fun e w' => e = .returned (.int .i64 (zoneOf l p)) ∧ Below w.heap.size w w' := by
  have HA := Lib.hid hA; clear hA
  have H1 := Lib.hid (are_zones A cap l w HA.out hs hn)
  have H2 := Lib.hid (fun W => place_impl p W hp)
  clear hs
  cases h1 : areZB l with
  | false =>
    have HN := Lib.hid (zoneOf_bad1 (p := p) h1)
    rw [h1] at H1; clear h1
    go_enter Try.func25, Try.ntmps25
    go_wp2_with fail
    refine H1.out.mono ?_; rintro e w1 ⟨rfl, hb1⟩
    go_wp2
    go_ret
    exact ⟨ret_int HN.out.symm, hb1⟩
  | true =>
    rw [h1] at H1
    cases h2 : plcB p.data.toList with
    | false =>
      have HN := Lib.hid (zoneOf_bad2 (l := l) h2)
      rw [h2] at H2; clear h1 h2
      go_enter Try.func25, Try.ntmps25
      go_wp2_with fail
      refine H1.out.mono ?_; rintro e w1 ⟨rfl, hb1⟩
      go_wp2_with fail
      refine (H2.out _).mono ?_; rintro e w2 ⟨rfl, rfl⟩
      go_wp2
      go_ret
      exact ⟨ret_int HN.out.symm, hb1⟩
    | true =>
      have HN := Lib.hid (zoneOf_ok h1 h2)
      rw [h2] at H2; clear h1 h2
      go_enter Try.func25, Try.ntmps25
      go_wp2_with fail
      refine H1.out.mono ?_; rintro e w1 ⟨rfl, hb1⟩
      go_wp2_with fail
      refine (H2.out _).mono ?_; rintro e w2 ⟨rfl, rfl⟩
      go_wp2
      go_loopw [17] (fun i wr => ∃ k : Nat, k ≤ l.length ∧ i = .int .i64 k ∧ Hid (∀ j, j < k → zIn (zAt l j) p = false) ∧ Below w.heap.size w wr) (fun i _ => l.length - (intOf i).toNat)
      case atStart => exact ⟨0, Nat.zero_le _, rfl, Lib.hid (fun j h => by omega), hb1⟩
      case round =>
        obtain ⟨k, hk, rfl, hd, hb⟩ := hrel
        clear hb1
        by_cases hlt : (k : Int) < (l.length : Int)
        · have hkn : k < l.length := by omega
          have hbz := hb.size
          obtain ⟨g, rfl, hg, c0, c1⟩ := (HA.out.below hb).zone k hkn
          obtain ⟨s, hs⟩ : ∃ s, s = l[k].1 := ⟨_, rfl⟩
          obtain ⟨t, ht⟩ : ∃ t, t = l[k].2 := ⟨_, rfl⟩
          have HZ := Lib.hid (show zIn (zAt l k) p = (!Op.bytesLess p.toList s.toList && !Op.bytesLess t.toList p.toList) by rw [zAt_get hkn, hs, ht]; rfl)
          rw [← hs] at c0; rw [← ht] at c1
          clear hs ht
          have e1 := le_not s.toList p.toList
          have e2 := le_not p.toList t.toList
          cases h1 : Op.bytesLess p.toList s.toList with
          | true =>
            rw [h1] at e1 HZ; clear h1
            have HF := Lib.hid (show zIn (zAt l k) p = false by rw [HZ.out]; rfl)
            go_wp2
            go_roundw
            case rel => exact ⟨k + 1, by omega, by go_num, Lib.hid (fun j hj => by
              by_cases e : j = k
              · subst e; exact HF.out
              · exact hd.out j (by omega)), hb.alloc hbz _⟩
            case measure => simp [intOf]; omega
          | false =>
            rw [h1] at e1 HZ; clear h1
            cases h2 : Op.bytesLess t.toList p.toList with
            | true =>
              rw [h2] at e2 HZ; clear h2
              have HF := Lib.hid (show zIn (zAt l k) p = false by rw [HZ.out]; rfl)
              go_wp2
              go_roundw
              case rel => exact ⟨k + 1, by omega, by go_num, Lib.hid (fun j hj => by
                by_cases e : j = k
                · subst e; exact HF.out
                · exact hd.out j (by omega)), hb.alloc hbz _⟩
              case measure => simp [intOf]; omega
            | false =>
              rw [h2] at e2 HZ; clear h2
              have HF := Lib.hid (zIx_hit hkn hd.out (show zIn (zAt l k) p = true by rw [HZ.out]; rfl))
              go_wp2
              go_ret
              exact ⟨ret_int (by rw [HN.out, HF.out]), hb.alloc hbz _⟩
        · obtain rfl : k = l.length := by omega
          go_wp2
          go_ret
          exact ⟨ret_int (by rw [HN.out, zIx_none hd.out]), hb⟩
set_option maxRecDepth 100000 in
set_option maxHeartbeats 1000000 in
theorem zone_of_spec (A : Option Addr) (cap : Nat) (l : List Zn) (p : ByteArray) (w : World) (hA : InK 2 zC w A l) (hs : ∀ z ∈ l, z.1.size ≤ maxLen ∧ z.2.size ≤ maxLen) (hn : l.length ≤ 1048576) (hp : p.size ≤ maxLen) :
    Calls Try.prog 51 #[.slice A l.length cap, .string p] w fun e w' => e = .returned (.int .i64 (zoneOf l p)) ∧ Below w.heap.size w w' := by
  have HA := Lib.hid hA; clear hA
  have H1 := Lib.hid (are_zones_spec A cap l w HA.out hs hn)
  have H2 := Lib.hid (fun W => place_spec p W hp)
  clear hs
  cases h1 : areZB l with
  | false =>
    have HN := Lib.hid (zoneOf_bad1 (p := p) h1)
    rw [h1] at H1; clear h1
    go_enter Try.func51, Try.ntmps51
    go_wp2_with fail
    refine H1.out.mono ?_; rintro e w1 ⟨rfl, hb1⟩
    go_wp2
    go_ret
    exact ⟨ret_int HN.out.symm, hb1⟩
  | true =>
    rw [h1] at H1
    cases h2 : plcB p.data.toList with
    | false =>
      have HN := Lib.hid (zoneOf_bad2 (l := l) h2)
      rw [h2] at H2; clear h1 h2
      go_enter Try.func51, Try.ntmps51
      go_wp2_with fail
      refine H1.out.mono ?_; rintro e w1 ⟨rfl, hb1⟩
      go_wp2_with fail
      refine (H2.out _).mono ?_; rintro e w2 ⟨rfl, rfl⟩
      go_wp2
      go_ret
      exact ⟨ret_int HN.out.symm, hb1⟩
    | true =>
      have HN := Lib.hid (zoneOf_ok h1 h2)
      rw [h2] at H2; clear h1 h2
      go_enter Try.func51, Try.ntmps51
      go_wp2_with fail
      refine H1.out.mono ?_; rintro e w1 ⟨rfl, hb1⟩
      go_wp2_with fail
      refine (H2.out _).mono ?_; rintro e w2 ⟨rfl, rfl⟩
      go_wp2
      go_loopw [5] (fun i wr => ∃ k : Nat, k ≤ l.length ∧ i = .int .i64 k ∧ Hid (∀ j, j < k → zIn (zAt l j) p = false) ∧ Below w.heap.size w wr) (fun i _ => l.length - (intOf i).toNat)
      case atStart => exact ⟨0, Nat.zero_le _, rfl, Lib.hid (fun j h => by omega), hb1⟩
      case round =>
        obtain ⟨k, hk, rfl, hd, hb⟩ := hrel
        clear hb1
        by_cases hlt : (k : Int) < (l.length : Int)
        · have hkn : k < l.length := by omega
          have hbz := hb.size
          obtain ⟨g, rfl, hg, c0, c1⟩ := (HA.out.below hb).zone k hkn
          obtain ⟨s, hs⟩ : ∃ s, s = l[k].1 := ⟨_, rfl⟩
          obtain ⟨t, ht⟩ : ∃ t, t = l[k].2 := ⟨_, rfl⟩
          have HZ := Lib.hid (show zIn (zAt l k) p = (!Op.bytesLess p.toList s.toList && !Op.bytesLess t.toList p.toList) by rw [zAt_get hkn, hs, ht]; rfl)
          rw [← hs] at c0; rw [← ht] at c1
          clear hs ht
          have e1 := le_not s.toList p.toList
          have e2 := le_not p.toList t.toList
          cases h1 : Op.bytesLess p.toList s.toList with
          | true =>
            rw [h1] at e1 HZ; clear h1
            have HF := Lib.hid (show zIn (zAt l k) p = false by rw [HZ.out]; rfl)
            go_wp2
            go_roundw
            case rel => exact ⟨k + 1, by omega, by go_num, Lib.hid (fun j hj => by
              by_cases e : j = k
              · subst e; exact HF.out
              · exact hd.out j (by omega)), hb⟩
            case measure => simp [intOf]; omega
          | false =>
            rw [h1] at e1 HZ; clear h1
            cases h2 : Op.bytesLess t.toList p.toList with
            | true =>
              rw [h2] at e2 HZ; clear h2
              have HF := Lib.hid (show zIn (zAt l k) p = false by rw [HZ.out]; rfl)
              go_wp2
              go_roundw
              case rel => exact ⟨k + 1, by omega, by go_num, Lib.hid (fun j hj => by
                by_cases e : j = k
                · subst e; exact HF.out
                · exact hd.out j (by omega)), hb⟩
              case measure => simp [intOf]; omega
            | false =>
              rw [h2] at e2 HZ; clear h2
              have HF := Lib.hid (zIx_hit hkn hd.out (show zIn (zAt l k) p = true by rw [HZ.out]; rfl))
              go_wp2
              go_ret
              exact ⟨ret_int (by rw [HN.out, HF.out]), hb⟩
        · obtain rfl : k = l.length := by omega
          go_wp2
          go_ret
          exact ⟨ret_int (by rw [HN.out, zIx_none hd.out]), hb⟩
end Go.Proofs.Ytakpeakahofjlaa

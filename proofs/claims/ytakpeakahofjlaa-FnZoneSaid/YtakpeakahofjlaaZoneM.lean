/- A place is in one zone at most. -/
import Derived.Test.YtakpeakahofjlaaZoneOf
import Derived.Test.YtakpeakahofjlaaBl
namespace Go.Proofs.Ytakpeakahofjlaa
open Go.RowKit
theorem areZ_at {l : List Zn} (h : areZB l = true) (j : Nat) (hj : j < l.length) : stepB l j = true := by
  simp only [areZB, Bool.and_eq_true, List.all_eq_true] at h
  exact h.2 j (List.mem_range.2 hj)
theorem areZ_zone {l : List Zn} (h : areZB l = true) (j : Nat) (hj : j < l.length) : plcB (zAt l j).1.data.toList = true ∧ plcB (zAt l j).2.data.toList = true ∧ Op.bytesLess (zAt l j).2.toList (zAt l j).1.toList = false := by
  have := areZ_at h j hj
  simp only [stepB, zoneB, lt2, Bool.and_eq_true, Bool.not_eq_true'] at this
  exact ⟨this.1.1, this.1.2.1, this.1.2.2⟩
theorem areZ_next {l : List Zn} (h : areZB l = true) (j : Nat) (hj : j + 1 < l.length) : Op.bytesLess (zAt l j).2.toList (zAt l (j + 1)).1.toList = true := by
  have := areZ_at h (j + 1) hj
  simp only [stepB, lt2, Bool.and_eq_true, Bool.or_eq_true, beq_iff_eq, Nat.add_sub_cancel] at this
  rcases this.2 with h | h
  · omega
  · exact h
theorem lt_le {a b c : List UInt8} (h : Op.bytesLess a b = true) (k : Op.bytesLess c b = false) : Op.bytesLess a c = true := by
  cases e : Op.bytesLess b c with
  | true => exact bl_trans a b c h e
  | false => rw [← bl_total b c e k]; exact h
theorem zone_far {l : List Zn} (h : areZB l = true) (j : Nat) : ∀ d, j + d + 1 < l.length → Op.bytesLess (zAt l j).2.toList (zAt l (j + d + 1)).1.toList = true
  | 0, hl => areZ_next h j hl
  | d + 1, hl => by
    have h1 := zone_far h j d (by omega)
    have h2 := (areZ_zone h (j + d + 1) (by omega)).2.2
    have h3 := areZ_next h (j + d + 1) (by omega)
    exact lt_le (lt_le h1 h2) (bl_asymm _ _ h3)
theorem zone_one {l : List Zn} {p : ByteArray} (h : areZB l = true) (i : Nat) (hi : i < l.length) (hz : zIn (zAt l i) p = true) (j : Nat) (hj : j < i) : zIn (zAt l j) p = false := by
  have h1 := zone_far h j (i - j - 1) (by omega)
  rw [show j + (i - j - 1) + 1 = i by omega] at h1
  simp only [zIn, Bool.and_eq_true, Bool.not_eq_true'] at hz ⊢
  have := lt_le h1 hz.1
  rw [this]
  simp
theorem zoneOf_at {l : List Zn} {p : ByteArray} (h : areZB l = true) (hp : plcB p.data.toList = true) (k : Nat) (hk : k < l.length) (hz : zIn (zAt l k) p = true) : zoneOf l p = k := by
  rw [zoneOf_ok h hp]
  exact zIx_hit hk (fun j hj => zone_one h k hk hz j hj) hz
theorem zone_first {l : List Zn} (h : areZB l = true) (k : Nat) (hk : k < l.length) : zoneOf l (zAt l k).1 = k := by
  obtain ⟨h1, h2, h3⟩ := areZ_zone h k hk
  exact zoneOf_at h h1 k hk (by simp [zIn, bl_irrefl, h3])
theorem zone_last {l : List Zn} (h : areZB l = true) (k : Nat) (hk : k < l.length) : zoneOf l (zAt l k).2 = k := by
  obtain ⟨h1, h2, h3⟩ := areZ_zone h k hk
  exact zoneOf_at h h2 k hk (by simp [zIn, bl_irrefl, h3])
theorem zoneOf_cases (l : List Zn) (p : ByteArray) : zoneOf l p = -1 ∨ ∃ k : Nat, k < l.length ∧ zoneOf l p = k ∧ plcB p.data.toList = true ∧ zIn (zAt l k) p = true := by
  unfold zoneOf
  split
  · next h =>
    simp only [Bool.and_eq_true] at h
    unfold zoneIx
    split
    · next i hi => exact .inr ⟨i, List.mem_range.1 (List.mem_of_find?_eq_some hi), rfl, h.2, by simpa using List.find?_some hi⟩
    · exact .inl rfl
  · exact .inl rfl
theorem zone_hit {l : List Zn} {p : ByteArray} (h : areZB l = true) (k : Nat) (hk : k < l.length) : (plcB p.data.toList && zIn (zAt l k) p) = decide (zoneOf l p = k) := by
  cases hh : (plcB p.data.toList && zIn (zAt l k) p) with
  | true =>
    simp only [Bool.and_eq_true] at hh
    rw [zoneOf_at h hh.1 k hk hh.2]
    simp
  | false =>
    symm
    rw [decide_eq_false_iff_not]
    intro e
    rcases zoneOf_cases l p with h' | ⟨j, _, h1, h2, h3⟩
    · omega
    · have : j = k := by omega
      subst this
      rw [h2, h3] at hh
      simp at hh
end Go.Proofs.Ytakpeakahofjlaa

/- The contracts of the two texts of Digits. -/
import Derived.Test.YtichnpjpldkceaaDoorItoa
import Derived.Maps.AppendAt
namespace Go.Proofs.YtichnpjpldkceaaDoor
open Go.RowKit
def digOf (c : UInt8) : List UInt8 := if digB c then [c] else Lib.decDigits (c.toNat - 55)
def okB (c : UInt8) : Bool := digB c || capB c
def okAll (l : List UInt8) : Bool := l.all okB
def digs (l : List UInt8) : List UInt8 := l.flatMap digOf
def digsS (l : List UInt8) : ByteArray := ⟨(if l.all okB then digs l else []).toArray⟩
theorem digs_snoc (l : List UInt8) (c : UInt8) : digs (l ++ [c]) = digs l ++ digOf c := by simp [digs]
theorem digOf_len (c : UInt8) (h : okB c = true) : (digOf c).length ≤ 2 := by
  unfold digOf
  cases hd : digB c with
  | true => simp
  | false =>
    have hc : capB c = true := by simpa [okB, hd] using h
    have := inB_iff.1 hc
    rw [Lib.decDigits_two (by omega) (by omega)]; simp
theorem digs_len : ∀ (l : List UInt8), l.all okB = true → (digs l).length ≤ 2 * l.length
  | [], _ => by simp [digs]
  | c :: l, h => by
    simp only [List.all_cons, Bool.and_eq_true] at h
    have h1 := digOf_len c h.1
    have h2 := digs_len l h.2
    simp only [digs, List.flatMap_cons, List.length_append, List.length_cons] at h2 ⊢
    omega
theorem all_snoc (s : ByteArray) (k : Nat) (h : k < s.size) (f : UInt8 → Bool) (ha : (s.data.toList.take k).all f = true) (hc : f s[k] = true) : (s.data.toList.take (k + 1)).all f = true := by
  rw [take_snoc s k h, List.all_append, ha]; simpa using hc
theorem extract_one (s : ByteArray) (k : Nat) (h : k < s.size) : s.extract k (k + 1) = ⟨#[s[k]]⟩ := by
  have hs : k < s.data.size := h
  refine ByteArray.ext ?_
  rw [ByteArray.data_extract]
  refine Array.ext (by simp; omega) ?_
  intro i h1 h2
  have : i = 0 := by simp at h2; omega
  subst this
  simp [Array.getElem_extract]; rfl
theorem bytes_app (a b : List UInt8) : (⟨a.toArray⟩ ++ ⟨b.toArray⟩ : ByteArray) = ⟨(a ++ b).toArray⟩ := by
  refine ByteArray.ext ?_
  simp
set_option maxRecDepth 100000 in
set_option maxHeartbeats 400000 in
theorem dig_spec (s : ByteArray) (w : World) (hs : s.size ≤ 1048576) :
    Calls Tryd.prog 75 #[.string s] w fun e w' => e = .returned (.tuple #[.string (digsS s.data.toList), .bool (okAll s.data.toList)]) ∧ Below w.heap.size w w' := by
  go_enter Tryd.func75, Tryd.ntmps75
  go_wp2
  go_loopw [4, 5] (fun o i wr => ∃ k : Nat, k ≤ s.size ∧ i = .int .i64 k ∧ o = .string ⟨(digs (s.data.toList.take k)).toArray⟩ ∧ (s.data.toList.take k).all okB = true ∧ Below w.heap.size w wr) (fun _ i _ => s.size - (intOf i).toNat)
  case atStart => exact ⟨0, Nat.zero_le _, rfl, rfl, rfl, Below.refl _ _⟩
  case round =>
    obtain ⟨k, hk, rfl, rfl, hall, hb⟩ := hrel
    have hl : (digs (s.data.toList.take k)).length ≤ 2097152 := by
      have h1 := digs_len _ hall
      rw [List.length_take] at h1; omega
    have HA := Lib.hid hall; clear hall
    by_cases hks : k < s.size
    · have HS := Lib.hid (digs_snoc (s.data.toList.take k) s[k])
      have HT := Lib.hid (take_snoc s k hks)
      generalize hd : digs (s.data.toList.take k) = d at *
      have HD := Lib.hid hd; clear hd
      go_wp2_with (go_at_call 38; refine (in_any _ _ _ _).mono ?_; rintro e w' ⟨rfl, rfl⟩)
      · have h1 : inB (wrap64 (s[k].toNat : Int)) 48 57 = true := by assumption
        rw [w64b] at h1
        have hdg : digB s[k] = true := h1
        go_roundw
        case rel =>
          refine ⟨k + 1, by omega, by go_num, ?_, all_snoc s k hks _ HA.out (by simp [okB, hdg]), hb⟩
          rw [HT.out, HS.out, extract_one s k hks]
          unfold digOf
          rw [if_pos hdg]
          exact congrArg Value.string (bytes_app _ _)
        case measure => simp [intOf]; omega
      · have h1 : inB (wrap64 (s[k].toNat : Int)) 48 57 = false := by assumption
        have h2 : inB (wrap64 (s[k].toNat : Int)) 65 90 = true := by assumption
        rw [w64b] at h1 h2
        have hdg : ¬ digB s[k] = true := by unfold digB; rw [h1]; decide
        have hcp : capB s[k] = true := h2
        have hb2 := inB_iff.1 h2
        rw [show wrap64 (wrap64 (wrap64 (s[k].toNat : Int) - 65) + 10) = ((s[k].toNat - 55 : Nat) : Int) from by rw [w64b, IntWalk.wrap64_in ((s[k].toNat : Int) - 65) (by omega), IntWalk.wrap64_in _ (by omega)]; omega]
        refine (fmt_spec _ _ (by omega)).mono ?_; rintro e w1 ⟨rfl, hb1⟩
        rw [show itoaS ((s[k].toNat - 55 : Nat) : Int) = ⟨(Lib.decDigits (s[k].toNat - 55)).toArray⟩ from by unfold itoaS; rw [Lib.itoa_nonneg]]
        have h2l : (Lib.decDigits (s[k].toNat - 55)).length ≤ 2 := by rw [Lib.decDigits_two (by omega) (by omega)]; simp
        have hn : ¬ 9223372036854775807 < d.length + (Lib.decDigits (s[k].toNat - 55)).length := by omega
        generalize hq : Lib.decDigits (s[k].toNat - 55) = q at *
        have HQ := Lib.hid hq; clear hq
        clear h1 h2 hb2
        go_wp2
        go_roundw
        case rel =>
          refine ⟨k + 1, by omega, by go_num, ?_, all_snoc s k hks _ HA.out (by simp [okB, hcp]), hb.trans (hb1.mono hb.size)⟩
          rw [HT.out, HS.out]
          unfold digOf
          rw [if_neg hdg, HQ.out]
          exact congrArg Value.string (bytes_app _ _)
        case measure => simp [intOf]; omega
      · have h1 : inB (wrap64 (s[k].toNat : Int)) 48 57 = false := by assumption
        have h2 : inB (wrap64 (s[k].toNat : Int)) 65 90 = false := by assumption
        rw [w64b] at h1 h2
        have hno := all_no s k hks okB (by unfold okB digB capB; rw [h1, h2]; rfl)
        go_ret2
        exact ⟨by unfold digsS okAll; rw [hno]; rfl, hb⟩
    · go_wp2
      go_ret2
      refine ⟨?_, hb⟩
      have h := HA.out
      rw [take_all s k (by omega)] at h ⊢
      unfold digsS okAll
      rw [h]; rfl
end Go.Proofs.YtichnpjpldkceaaDoor

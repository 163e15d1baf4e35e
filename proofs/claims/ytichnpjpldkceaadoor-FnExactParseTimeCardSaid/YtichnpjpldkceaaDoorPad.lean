/- The contracts of the two texts that write a number with leading zeros. -/
import Derived.Test.YtichnpjpldkceaaDoorDig2
import Derived.Laws.OwnMore
namespace Go.Proofs.YtichnpjpldkceaaDoor
open Go.RowKit
def padL (w n : Nat) : List UInt8 := List.replicate (w - (Lib.decDigits n).length) 48 ++ Lib.decDigits n
def padS (w n : Nat) : ByteArray := ⟨(padL w n).toArray⟩
/-- the last k digits -/
def lowD : Nat → Nat → List UInt8
  | 0, _ => []
  | k + 1, n => UInt8.ofNat (48 + n / 10 ^ k % 10) :: lowD k n
theorem lowD_len (k n : Nat) : (lowD k n).length = k := by
  induction k with
  | zero => rfl
  | succ k ih => simp [lowD, ih]
theorem lowD_last (k n : Nat) : lowD (k + 1) n = lowD k (n / 10) ++ [UInt8.ofNat (48 + n % 10)] := by
  induction k with
  | zero => simp [lowD]
  | succ k ih =>
    rw [lowD, ih]
    show _ = UInt8.ofNat (48 + n / 10 / 10 ^ k % 10) :: lowD k (n / 10) ++ _
    rw [Nat.div_div_eq_div_mul, ← Nat.pow_succ']
    rfl
theorem lowD_pad (w : Nat) : ∀ n : Nat, 0 < w → n < 10 ^ w → lowD w n = padL w n := by
  induction w with
  | zero => intro n h; omega
  | succ w ih =>
    intro n _ hn
    rw [lowD_last]
    by_cases h10 : n < 10
    · rw [Nat.div_eq_of_lt h10]
      unfold padL
      rw [dec_last n h10, Nat.mod_eq_of_lt h10]
      have : ∀ k, lowD k 0 = List.replicate k 48 := by
        intro k
        induction k with
        | zero => rfl
        | succ k ih => rw [lowD, ih]; simp [List.replicate_succ]
      rw [this]; simp
    · have hw : 0 < w := by
        rcases Nat.eq_zero_or_pos w with rfl | h
        · simp at hn; omega
        · exact h
      rw [ih (n / 10) hw (by rw [Nat.pow_succ] at hn; omega)]
      unfold padL
      rw [dec_step n (by omega)]
      simp only [List.length_append, List.length_cons, List.length_nil, List.append_assoc]
      congr 2
      omega
def strLen : Value → Nat
  | .string b => b.size
  | _ => 0
set_option maxRecDepth 100000 in
set_option maxHeartbeats 400000 in
theorem pad_spec (n d : Nat) (w : World) (h : n ≤ 9223372036854775807) (hd : d ≤ 64) (hn : (Lib.decDigits n).length ≤ d) :
    Calls Tryd.prog 59 #[.int .i64 n, .int .i64 d] w fun e w' => e = .returned (.string (padS d n)) ∧ Below w.heap.size w w' := by
  go_enter Tryd.func59, Tryd.ntmps59
  go_wp2_with fail
  refine (fmt_spec _ _ (by omega)).mono ?_; rintro e w1 ⟨rfl, hb1⟩
  have e0 : itoaS (n : Int) = ⟨(Lib.decDigits n).toArray⟩ := by unfold itoaS; rw [Lib.itoa_nonneg]
  rw [e0]
  clear e0
  go_wp2
  go_loop [5] (fun s => ∃ j : Nat, j + (Lib.decDigits n).length ≤ d ∧ s = .string ⟨(List.replicate j 48 ++ Lib.decDigits n).toArray⟩) (fun s => d - strLen s)
  case atStart => exact ⟨0, by omega, rfl⟩
  case round =>
    obtain ⟨j, hj, rfl⟩ := hrel
    generalize hq : Lib.decDigits n = q at *
    have HQ := Lib.hid hq; clear hq
    by_cases hlt : (j : Int) + (q.length : Int) < (d : Int)
    · have hll : ¬ 9223372036854775807 < 1 + (j + q.length) := by omega
      go_wp2
      go_round
      case rel => exact ⟨j + 1, by omega, congrArg Value.string (by rw [show (⟨#[48]⟩ : ByteArray) = ⟨[48].toArray⟩ from rfl, bytes_app]; rfl)⟩
      case measure =>
        rw [show (⟨#[48]⟩ : ByteArray) = ⟨[48].toArray⟩ from rfl, bytes_app]
        simp [strLen, ByteArray.size]; omega
    · go_wp2
      go_ret
      refine ⟨ret_str' ?_, hb1⟩
      unfold padS padL
      rw [HQ.out, show d - q.length = j from by omega]
theorem u8s_rep (k : Nat) : List.replicate k (Value.int .u8 0) = u8s (List.replicate k 0) := by simp [u8s]
theorem set_mid (m : Nat) (c : UInt8) (l : List UInt8) : (u8s (List.replicate (m + 1) 0 ++ l)).set m (.int .u8 (c.toNat : Int)) = u8s (List.replicate m 0 ++ c :: l) := by
  rw [u8s_app, List.replicate_succ', u8s_app, List.append_assoc, List.set_append_right _ _ (by simp [u8s_len])]
  rw [u8s_len, List.length_replicate, Nat.sub_self]
  simp [u8s]
set_option maxRecDepth 100000 in
set_option maxHeartbeats 1000000 in
theorem pad_impl (n d : Nat) (w : World) (h : n ≤ 9223372036854775807) (hd0 : 0 < d) (hd : d ≤ 64) (hn : n < 10 ^ d) :
    Calls Tryd.prog 66 #[.int .i64 n, .int .i64 d] w fun e w' => e = .returned (.string (padS d n)) ∧ Below w.heap.size w w' := by
  obtain ⟨i0, hi0, hz0, hz1, hz2⟩ := info_parts u8_info
  have HF := Lib.hid (lowD_pad d n hd0 hn)
  clear hn
  go_enter Tryd.func66, Tryd.ntmps66
  go_wp2_with (at_make; refine wpList_make_full _ rfl _ _ 68 rfl w.heap.size 5 i0 _ 1 Tryd.underlying68 hi0 hz0 hz1 _ _ _ _ d rfl rfl rfl rfl ?c1 ?c2 ?c3 ?_)
  case c1 => rw [hz2]; omega
  case c2 => unfold maxLen; omega
  case c3 => exact Nat.le_refl _
  intro w1 hown1 hg1
  have hb1 : Below w.heap.size w w1 := (Below.refl _ _).grown hg1 (Nat.le_refl _) (by simp)
  rw [toList_madeCells_one, u8s_rep] at hown1
  generalize hgg : w.heap.size = g at *
  have HGG := Lib.hid hgg; clear hgg
  go_wp2
  go_loopw [0, 10] (fun x i wr => ∃ k : Nat, k ≤ d ∧ i = .int .i64 k ∧ x = .int .i64 ((n / 10 ^ k : Nat) : Int) ∧ wr.ownsRow g 5 1 (.slice (some ⟨g, 0, none⟩) d d) d (u8s (List.replicate (d - k) 0 ++ lowD k n)) ∧ Below g w wr) (fun _ i _ => d - (intOf i).toNat)
  case atStart => exact ⟨0, Nat.zero_le _, rfl, by simp, by simpa [lowD] using hown1, hb1⟩
  case round =>
    obtain ⟨k, hk, rfl, rfl, hown, hb⟩ := hrel
    by_cases hks : k < d
    · obtain ⟨m, hm⟩ : ∃ m, m = n / 10 ^ k := ⟨_, rfl⟩
      have hmb : m ≤ 9223372036854775807 := by rw [hm]; exact Nat.le_trans (Nat.div_le_self _ _) h
      rw [← hm]
      have HM := Lib.hid hm; clear hm
      have hj : d - 1 - k < d * 1 := by omega
      have hc : wr.cell? ⟨g, d - 1 - k, none⟩ = some (.int .u8 0) := by
        rw [hown.cellAt _ hj, u8s_app, List.getElem?_append_left (by rw [u8s_len, List.length_replicate]; omega)]
        rw [u8s, List.getElem?_map, List.getElem?_replicate, if_pos (by omega)]; rfl
      have hfz : wr.frozen? ⟨g, d - 1 - k, none⟩ = false := hown.frozenAt _
      have hm0 : (0 : Int) ≤ m := by omega
      have hm1 : (m : Int) ≤ 9223372036854775807 := by omega
      go_wp2
      go_roundw
      case rel =>
        have hx : UInt8.ofNat (48 + m % 10) = UInt8.ofNat (48 + n / 10 ^ k % 10) := by rw [HM.out]
        have hxv : Value.int .u8 (48 + (m : Int) % 10) = Value.int .u8 (((UInt8.ofNat (48 + m % 10)).toNat : Nat) : Int) := by
          rw [UInt8.toNat_ofNat', Nat.mod_eq_of_lt (by omega)]; norm_cast
        refine ⟨k + 1, by omega, by go_num, ?_, ?_, ?_⟩
        · refine congrArg (Value.int .i64) ?_
          rw [HM.out, Nat.pow_succ, ← Nat.div_div_eq_div_mul]; norm_cast
        · have hs := (hown.stored (d - 1 - k) (Value.int .u8 (48 + (m : Int) % 10))).1
          rw [hxv, show d - k = (d - 1 - k) + 1 from by omega, set_mid, hx] at hs
          rw [hxv, hx, show d - (k + 1) = d - 1 - k from by omega]
          exact hs
        · exact hb.setCell (Nat.le_refl _) _
      case measure => simp [intOf]; omega
    · obtain rfl : k = d := by omega
      rw [Nat.sub_self, List.replicate_zero, List.nil_append, HF.out] at hown
      have hl : (padL k n).length = k := by rw [← HF.out, lowD_len]
      have hcv := conv_row wr g (.slice (some ⟨g, 0, none⟩) k k) (padL k n) (by rw [hl]; exact hown)
      clear hown
      go_wp2
      go_ret
      exact ⟨rfl, by rw [HGG.out]; exact hb⟩
end Go.Proofs.YtichnpjpldkceaaDoor

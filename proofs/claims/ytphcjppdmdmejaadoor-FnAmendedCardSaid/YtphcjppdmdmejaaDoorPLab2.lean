/- The contract of spec.ParseLabel. -/
import Derived.Test.YtphcjppdmdmejaaDoorPLab
namespace Go.Proofs.YtphcjppdmdmejaaDoor
open Go.RowKit
/-- what the loop has read: ten times the number before, and a digit's difference -/
def serF (l : List UInt8) : Int := l.foldl (fun (a : Int) (c : UInt8) => 10 * a + (c.toNat : Int) - 48) 0
theorem serF_snoc (l : List UInt8) (c : UInt8) : serF (l ++ [c]) = 10 * serF l + (c.toNat : Int) - 48 := by unfold serF; rw [List.foldl_append]; rfl
theorem serF_bd : ∀ (n : Nat) (l : List UInt8), l.length = n → -(1000 * 10 ^ n - 100 : Int) ≤ serF l ∧ serF l ≤ 1000 * 10 ^ n - 100
  | 0, l, h => by
    obtain rfl := List.eq_nil_of_length_eq_zero h
    simp [serF]
  | n + 1, l, h => by
    rcases List.eq_nil_or_concat l with rfl | ⟨l', c, rfl⟩
    · simp at h
    · rw [List.concat_eq_append] at h ⊢
      have ih := serF_bd n l' (by simpa using h)
      have hc := c.toNat_lt
      rw [serF_snoc, Int.pow_succ]
      omega
theorem serF_dig (l : List UInt8) (h : ∀ c ∈ l, 48 ≤ c.toNat) : serF l = (dVal l : Int) := by
  suffices ∀ (n : Nat) (l : List UInt8), l.length = n → (∀ c ∈ l, 48 ≤ c.toNat) → serF l = (dVal l : Int) from this _ l rfl h
  intro n
  induction n with
  | zero => intro l h _; obtain rfl := List.eq_nil_of_length_eq_zero h; rfl
  | succ n ih =>
    intro l hl hd
    rcases List.eq_nil_or_concat l with rfl | ⟨l', c, rfl⟩
    · simp at hl
    · rw [List.concat_eq_append] at hl hd ⊢
      have hc := hd c (by simp)
      rw [serF_snoc, dVal_snoc, ih l' (by simpa using hl) (fun c hc => hd c (by simp [hc]))]
      omega
set_option maxRecDepth 100000 in
set_option maxHeartbeats 2000000 in
theorem plab_spec (str : ByteArray) (w : World) (hs : str.size ≤ 1048576) :
    Calls Tryd.prog 32 #[.string str] w fun e w' => PLab str e ∧ Below w.heap.size w w' := by
  have hbW := ((Below.refl w.heap.size w).alloc (Nat.le_refl _) (.cells #[.int .i64 0, .int .i64 0, .string ⟨#[]⟩] 26))
  have hz := BoxW.new w 0 0 ⟨#[]⟩
  by_cases h15 : str.size = 15
  · have hlo : 15 ≤ str.size := by omega
    have hhi : str.size ≤ 15 := by omega
    have hb : ((str.size : Int) != 15) = false := by simp; omega
    have h0 : 0 < str.size := by omega
    clear h15
    obtain ⟨c0, c1, c2, f0, f1, f2⟩ := hz.cells
    go_enter Tryd.func32, Tryd.ntmps32
    go_wp2_with fail
    generalize w.alloc (.cells #[.int .i64 0, .int .i64 0, .string ⟨#[]⟩] 26) = W at *
    have hBl := hz.lt
    go_region
    have hx : wrap64 (wrap64 (str[0].toNat : Int) - 48) = (str[0].toNat : Int) - 48 := by
      have := str[0].toNat_lt
      rw [w64b, IntWalk.wrap64_in _ (by omega)]
    rw [hx]
    clear hx
    obtain ⟨x, hxe⟩ : ∃ x, x = (str[0].toNat : Int) - 48 := ⟨_, rfl⟩
    obtain ⟨y, hye⟩ : ∃ y, y = str.extract 10 13 := ⟨_, rfl⟩
    have hy3 : y.size ≤ 1048576 := by rw [hye, ByteArray.size_extract]; omega
    rw [← hxe, ← hye]
    have HX := Lib.hid hxe; have HY := Lib.hid hye; clear hxe hye
    have hk := (BoxW.new W x 0 y).drew'
    have hz2 := (hz.alloc (.cells #[.int .i64 x, .int .i64 0, .string y] 26)).drew'
    have hbw2 := (hbW.alloc (by omega) (.cells #[.int .i64 x, .int .i64 0, .string y] 26)).drew
    clear c0 c1 c2 f0 f1 f2 hbW hz
    generalize hD : W.heap.size = D at *
    have hDn : ¬ w.heap.size = D := by omega
    go_wp2_with fail
    generalize (W.alloc (.cells #[.int .i64 x, .int .i64 0, .string y] 26)).drew = W2 at *
    clear hD
    go_loopw [5] (fun i wr => ∃ k : Nat, 1 ≤ k ∧ k ≤ 10 ∧ i = .int .i64 k ∧ BoxW wr D x (serF ((str.data.toList.drop 1).take (k - 1))) y ∧ BoxW wr w.heap.size 0 0 ⟨#[]⟩ ∧ Below w.heap.size w wr) (fun i _ => 10 - (intOf i).toNat)
    case atStart => exact ⟨1, by omega, by omega, rfl, hk, hz2, hbw2⟩
    case round =>
      obtain ⟨k, hk1, hk10, rfl, hbx, hbz, hb⟩ := hrel
      have hsb := serF_bd _ ((str.data.toList.drop 1).take (k - 1)) rfl
      clear hk hz2 hbw2
      have hq : -1000000000000 ≤ serF ((str.data.toList.drop 1).take (k - 1)) ∧ serF ((str.data.toList.drop 1).take (k - 1)) ≤ 1000000000000 := by
        have h9 : ((str.data.toList.drop 1).take (k - 1)).length ≤ 9 := Nat.le_trans (List.length_take_le _ _) (by omega)
        have hp : (10 : Nat) ^ ((str.data.toList.drop 1).take (k - 1)).length ≤ 10 ^ 9 := Nat.pow_le_pow_right (by omega) h9
        have hp' : (10 : Int) ^ ((str.data.toList.drop 1).take (k - 1)).length ≤ 1000000000 := by
          generalize ((str.data.toList.drop 1).take (k - 1)).length = z at *
          have e : ((10 ^ z : Nat) : Int) = (10 : Int) ^ z := Int.natCast_pow 10 z
          rw [← e]
          have e2 : (10 : Nat) ^ 9 = 1000000000 := by decide
          rw [e2] at hp
          omega
        omega
      clear hsb
      obtain ⟨hq0, hq1⟩ := hq
      obtain ⟨d0, d1, d2, g0, g1, g2⟩ := hbx.cells
      obtain ⟨c0, c1, c2, f0, f1, f2⟩ := hbz.cells
      by_cases hlt : (k : Int) < 10
      · have hks : k < str.size := by omega
        have hn : (str.data.toList.drop 1).take (k + 1 - 1) = (str.data.toList.drop 1).take (k - 1) ++ [str[k]] := by
          have e : k + 1 - 1 = (k - 1) + 1 := by omega
          rw [e, List.take_succ_eq_append_getElem (by rw [List.length_drop, show str.data.toList.length = str.size from Array.length_toList]; omega)]
          congr 2
          rw [List.getElem_drop]
          have : 1 + (k - 1) = k := by omega
          simp only [this]; rfl
        have HN := Lib.hid hn; clear hn
        generalize hqe : serF ((str.data.toList.drop 1).take (k - 1)) = q at *
        have HQ := Lib.hid hqe; clear hqe
        go_wp2_with fail
        go_region
        go_wp2
        go_roundw
        case rel =>
          have hc := str[k].toNat_lt
          have hv : wrap64 (wrap64 (10 * q + wrap64 (str[k].toNat : Int)) - 48) = 10 * q + (str[k].toNat : Int) - 48 := by
            rw [w64b, IntWalk.wrap64_in (10 * q + (str[k].toNat : Int)) (by omega), IntWalk.wrap64_in _ (by omega)]
          rw [hv]
          refine ⟨k + 1, by omega, by omega, by go_num, ?_, ?_, (hb.setCell (p := ⟨D, 1, none⟩) (by show w.heap.size ≤ D; omega) _).drew⟩
          · rw [HN.out, serF_snoc, HQ.out]
            exact heap_set hbx 1 _
          · exact (Below.heap_setCell wr ⟨D, 1, none⟩ _ w.heap.size (by show w.heap.size ≠ D; omega)).trans hbz
        case measure => simp [intOf]; omega
      · obtain rfl : k = 10 := by omega
        generalize hqe : serF ((str.data.toList.drop 1).take (10 - 1)) = q at *
        have HQ := Lib.hid hqe; clear hqe
        have hUn : ∀ a b s, IsLab str a b s → x = a ∧ q = b ∧ y = s := fun a b s hl => by
          obtain ⟨_, _, q1, q2, q3, hb⟩ := isLab_at hl
          rw [ext_list] at q2
          have e := serF_dig (padL 9 b.toNat) (fun c hc => (padL_digs 9 b.toNat c hc).1)
          rw [dVal_pad, ← q2, HQ.out] at e
          exact ⟨by rw [HX.out, q1], by omega, by rw [HY.out, q3]⟩
        have HU := Lib.hid hUn; clear hUn
        go_wp2_with fail
        refine (flab_spec x q y _ hy3).mono ?_; rintro e w3 ⟨rfl, hb3⟩
        have hz3 := BoxW.below hbz hb3
        have hx3 := BoxW.below hbx hb3
        have hbw3 := hb.trans (hb3.mono hb.size)
        clear c0 c1 c2 d0 d1 d2 f0 f1 f2 g0 g1 g2
        obtain ⟨c0, c1, c2, f0, f1, f2⟩ := hz3.cells
        obtain ⟨d0, d1, d2, _, _, _⟩ := hx3.cells
        by_cases hf : (flab x q y).toList = str.toList
        · have hq : ((flab x q y).toList == str.toList) = true := by simpa using hf
          rw [ByteArray.toList_eq, ByteArray.toList_eq] at hf
          have hlab : labB x q y.data.toList = true := by
            cases hl : labB x q y.data.toList with
            | true => rfl
            | false =>
              rw [flab_empty _ _ _ hl] at hf
              have := congrArg List.length hf
              simp at this; omega
          have HL := Lib.hid (show IsLab str x q y from ⟨hlab, hf⟩); clear hlab hf
          go_wp2
          exact bodyPost_ret (v := .tuple #[.agg #[.int .i64 x, .int .i64 q, .string y], .bool true]) (by simp [results, Tryd.results32, go_sem, c0, c1, c2]) rfl
            ⟨.inl ⟨x, q, y, HL.out, rfl⟩, below_set3 hbw3 _ _ _⟩
        · have hq : ((flab x q y).toList == str.toList) = false := by simpa using hf
          have HN : Hid (∀ a b s, ¬ IsLab str a b s) := fun a b s hl => by
            obtain ⟨rfl, rfl, rfl⟩ := HU.out a b s hl
            exact hf (by rw [ByteArray.toList_eq, ByteArray.toList_eq]; exact hl.2)
          clear hf
          go_wp2
          exact bodyPost_ret (v := .tuple #[.agg #[.int .i64 0, .int .i64 0, .string ⟨#[]⟩], .bool false]) (by simp [results, Tryd.results32, go_sem, c0, c1, c2]) rfl
            ⟨.inr ⟨HN.out, rfl⟩, below_set3 hbw3 _ _ _⟩
  · have hb : ((str.size : Int) != 15) = true := by simp; omega
    have HN := Lib.hid h15; clear h15
    obtain ⟨c0, c1, c2, f0, f1, f2⟩ := hz.cells
    go_enter Tryd.func32, Tryd.ntmps32
    go_wp2
    exact bodyPost_ret (v := .tuple #[.agg #[.int .i64 0, .int .i64 0, .string ⟨#[]⟩], .bool false]) (by simp [results, Tryd.results32, go_sem]) rfl
      ⟨.inr ⟨fun a b s h => HN.out (isLab_at h).1, rfl⟩, hbW⟩
end Go.Proofs.YtphcjppdmdmejaaDoor

/- The contracts of the two texts of CheckOf. -/
import Derived.Test.YtichnpjpldkceaaDoorBody3
import Derived.Test.YtichnpjpldkceaaDoorMod
namespace Go.Proofs.YtichnpjpldkceaaDoor
open Go.RowKit
def bodyZ (a b : Int) (s : ByteArray) : ByteArray := bodyS a b s ++ ⟨#[48, 48]⟩
def chkD (a b : Int) (s : ByteArray) : Int := 98 - mod97 (digsS (bodyZ a b s).data.toList).data.toList
def chk (a b : Int) (s : ByteArray) : Int := if labB a b s.data.toList then chkD a b s else -1
theorem mod97_bd (l : List UInt8) : -1 ≤ mod97 l ∧ mod97 l < 97 := by
  have := m97_bd l
  unfold mod97
  split
  · omega
  · split <;> omega
theorem lab_parts {a b : Int} {s : ByteArray} (h : labB a b s.data.toList = true) : (1 ≤ a ∧ a ≤ 3) ∧ (0 ≤ b ∧ b ≤ 999999999) ∧ s.size = 3 := by
  simp only [labB, Bool.and_eq_true, plcB, beq_iff_eq] at h
  exact ⟨inB_iff.1 h.1, inB_iff.1 h.2.1, by simpa using h.2.2.1⟩
theorem body_size (a b : Int) (s : ByteArray) (h : labB a b s.data.toList = true) : (bodyS a b s).size ≤ 40 := by
  obtain ⟨h1, h2, h3⟩ := lab_parts h
  have e1 := itoaS_size a (by omega)
  have e2 := padS_size 9 b.toNat (by omega) (by omega)
  unfold bodyS
  simp only [ByteArray.size_append]
  omega
theorem digsS_size (s : ByteArray) (h : s.size ≤ 100) : (digsS s.data.toList).size ≤ 200 := by
  unfold digsS
  split
  · rename_i hok
    have := digs_len _ hok
    have e : s.data.toList.length = s.size := by simp
    simp only [ByteArray.size, List.size_toArray]
    omega
  · simp [ByteArray.size]
def BoxIs (W : World) (g : Nat) (a b : Int) (s : ByteArray) : Prop := W.cell? ⟨g, 0, none⟩ = some (.int .i64 a) ∧ W.cell? ⟨g, 1, none⟩ = some (.int .i64 b) ∧ W.cell? ⟨g, 2, none⟩ = some (.string s) ∧ g < W.heap.size
theorem BoxIs.below {W W' : World} {g : Nat} {a b : Int} {s : ByteArray} (h : BoxIs W g a b s) (hb : Below W.heap.size W W') : BoxIs W' g a b s := by
  obtain ⟨h0, h1, h2, h3⟩ := h
  refine ⟨?_, ?_, ?_, Nat.lt_of_lt_of_le h3 hb.size⟩
  · rw [(old_cells hb).1 _ _ h3, h0]
  · rw [(old_cells hb).1 _ _ h3, h1]
  · rw [(old_cells hb).1 _ _ h3, h2]
theorem BoxIs.drew {W : World} {g : Nat} {a b : Int} {s : ByteArray} (h : BoxIs W g a b s) : BoxIs W.drew g a b s := h
theorem BoxIs.new (w : World) (a b : Int) (s : ByteArray) (T : TypeId) : BoxIs (w.alloc (.cells #[.int .i64 a, .int .i64 b, .string s] T)) w.heap.size a b s := by
  refine ⟨?_, ?_, ?_, by simp⟩
  all_goals rw [cell_of_row _ _ _ _ _ _ (heap_alloc_new w _)]; rfl
set_option maxRecDepth 100000 in
set_option maxHeartbeats 1000000 in
theorem check_spec (a b : Int) (s : ByteArray) (w : World) (hs : s.size ≤ 1048576) :
    Calls Tryd.prog 60 #[.agg #[.int .i64 a, .int .i64 b, .string s]] w fun e w' => e = .returned (.int .i64 (chk a b s)) ∧ Below w.heap.size w w' := by
  have hs' : s.size ≤ maxLen := by unfold maxLen; omega
  have hbW := ((Below.refl w.heap.size w).alloc (Nat.le_refl _) (.cells #[.int .i64 a, .int .i64 b, .string s] 29))
  have hB := BoxIs.new w a b s 29
  go_enter Tryd.func60, Tryd.ntmps60
  go_wp2_with fail
  generalize w.alloc (.cells #[.int .i64 a, .int .i64 b, .string s] 29) = W at *
  refine (label_spec _ _ _ _ hs').mono ?_; rintro e w1 ⟨rfl, hb1⟩
  have hB1 := hB.below hb1
  obtain ⟨c0, c1, c2, hz⟩ := hB1
  have hzW : w.heap.size < W.heap.size := hB.2.2.2
  clear hB
  cases hl : labB a b s.data.toList with
  | false =>
    have HL := Lib.hid hl; clear hl
    go_wp2
    go_ret
    exact ⟨ret_int (by unfold chk; rw [HL.out]; rfl), hbW.trans (hb1.mono (by omega))⟩
  | true =>
    obtain ⟨h1, h2, h3⟩ := lab_parts hl
    obtain ⟨n, rfl⟩ := Int.eq_ofNat_of_zero_le h2.1
    have hsz := body_size _ _ _ hl
    have HL := Lib.hid hl; clear hl
    go_wp2_with fail
    refine (body_spec a n s _ (by omega) (by omega) (by omega)).mono ?_; rintro e w2 ⟨rfl, hb2⟩
    have HZ := Lib.hid (show bodyZ a n s = bodyS a n s ++ ⟨#[48, 48]⟩ from rfl)
    have hov : ¬ 9223372036854775807 < (bodyS a n s).size + 2 := by omega
    generalize hx : bodyS a n s = x at *
    have HX := Lib.hid hx; clear hx
    go_wp2_with fail
    have hzs : (bodyZ a n s).size ≤ 100 := by rw [HZ.out]; simp only [ByteArray.size_append]; show x.size + 2 ≤ 100; omega
    rw [← HZ.out]
    refine (dig_spec _ _ (by omega)).mono ?_; rintro e w3 ⟨rfl, hb3⟩
    have hds := digsS_size _ hzs
    have HD := Lib.hid (show chkD a n s = 98 - mod97 (digsS (bodyZ a n s).data.toList).data.toList from rfl)
    generalize digsS (bodyZ a n s).data.toList = d at *
    go_wp2_with fail
    refine (mod_spec _ _ (by unfold maxLen; omega)).mono ?_; rintro e w4 ⟨rfl, hb4⟩
    have hmb := mod97_bd d.data.toList
    generalize mod97 d.data.toList = m at *
    obtain ⟨hm0, hm1⟩ := hmb
    subst hb4
    go_wp2
    go_ret
    exact ⟨ret_int (by unfold chk; rw [HL.out, HD.out]; rfl), hbW.trans ((hb1.mono (by omega)).trans ((hb2.mono (by omega)).trans (hb3.mono (by have := hb2.size; omega))))⟩
set_option maxRecDepth 100000 in
set_option maxHeartbeats 1000000 in
theorem check_impl (a b : Int) (s : ByteArray) (w : World) (hs : s.size ≤ 1048576) (hp : PowIs w) :
    Calls Tryd.prog 67 #[.agg #[.int .i64 a, .int .i64 b, .string s]] w fun e w' => e = .returned (.int .i64 (chk a b s)) ∧ Below w.heap.size w w' := by
  have hs' : s.size ≤ maxLen := by unfold maxLen; omega
  have HP := Lib.hid hp; clear hp
  have hbW := ((Below.refl w.heap.size w).alloc (Nat.le_refl _) (.cells #[.int .i64 a, .int .i64 b, .string s] 29))
  have hB := BoxIs.new w a b s 29
  go_enter Tryd.func67, Tryd.ntmps67
  go_wp2_with fail
  generalize w.alloc (.cells #[.int .i64 a, .int .i64 b, .string s] 29) = W at *
  refine (label_impl _ _ _ _ hs').mono ?_; rintro e w1 ⟨rfl, hb1⟩
  have hB1 := hB.below hb1
  obtain ⟨c0, c1, c2, hz⟩ := hB1
  have hzW : w.heap.size < W.heap.size := hB.2.2.2
  clear hB
  cases hl : labB a b s.data.toList with
  | false =>
    have HL := Lib.hid hl; clear hl
    go_wp2
    go_ret
    exact ⟨ret_int (by unfold chk; rw [HL.out]; rfl), hbW.trans (hb1.mono (by omega))⟩
  | true =>
    obtain ⟨h1, h2, h3⟩ := lab_parts hl
    obtain ⟨n, rfl⟩ := Int.eq_ofNat_of_zero_le h2.1
    have hsz := body_size _ _ _ hl
    have HL := Lib.hid hl; clear hl
    go_wp2_with fail
    refine (body_impl a n s _ (by omega) (by omega) (by omega) (HP.out.below (hbW.trans (hb1.mono (by omega))))).mono ?_; rintro e w2 ⟨rfl, hb2⟩
    have HZ := Lib.hid (show bodyZ a n s = bodyS a n s ++ ⟨#[48, 48]⟩ from rfl)
    have hov : ¬ 9223372036854775807 < (bodyS a n s).size + 2 := by omega
    generalize hx : bodyS a n s = x at *
    have HX := Lib.hid hx; clear hx
    go_wp2_with fail
    have hzs : (bodyZ a n s).size ≤ 100 := by rw [HZ.out]; simp only [ByteArray.size_append]; show x.size + 2 ≤ 100; omega
    rw [← HZ.out]
    refine (dig_impl _ _ (by omega)).mono ?_; rintro e w3 ⟨rfl, hb3⟩
    have hds := digsS_size _ hzs
    have HD := Lib.hid (show chkD a n s = 98 - mod97 (digsS (bodyZ a n s).data.toList).data.toList from rfl)
    generalize digsS (bodyZ a n s).data.toList = d at *
    go_wp2_with fail
    refine (mod_impl _ _ (by unfold maxLen; omega)).mono ?_; rintro e w4 ⟨rfl, hb4⟩
    have hmb := mod97_bd d.data.toList
    generalize mod97 d.data.toList = m at *
    obtain ⟨hm0, hm1⟩ := hmb
    subst hb4
    go_wp2
    go_ret
    exact ⟨ret_int (by unfold chk; rw [HL.out, HD.out]; rfl), hbW.trans ((hb1.mono (by omega)).trans ((hb2.mono (by omega)).trans (hb3.mono (by have := hb2.size; omega))))⟩
end Go.Proofs.YtichnpjpldkceaaDoor

/- The contract of impl.ParseLabel. -/
import Derived.Test.YtphcjppdmdmejaaDoorPLMath
import Derived.Test.YtphcjppdmdmejaaDoorFLab2
import Derived.Test.YtphcjppdmdmejaaDoorDrawC
import Derived.RegionTactic
namespace Go.Proofs.YtphcjppdmdmejaaDoor
open Go.RowKit
def IsLab (str : ByteArray) (a b : Int) (s : ByteArray) : Prop := labB a b s.data.toList = true ∧ (flab a b s).data.toList = str.data.toList
def PLab (str : ByteArray) (e : Ending) : Prop :=
  (∃ a b s, IsLab str a b s ∧ e = .returned (.tuple #[.agg #[.int .i64 a, .int .i64 b, .string s], .bool true])) ∨
  ((∀ a b s, ¬ IsLab str a b s) ∧ e = .returned (.tuple #[.agg #[.int .i64 0, .int .i64 0, .string ⟨#[]⟩], .bool false]))
theorem flab_empty (a b : Int) (s : ByteArray) (h : labB a b s.data.toList = false) : flab a b s = ⟨#[]⟩ := by unfold flab; rw [h]; rfl
/-- only the label whose parts stand in the text can be written so -/
theorem isLab_at {str : ByteArray} {a b : Int} {s : ByteArray} (h : IsLab str a b s) :
    str.size = 15 ∧ ∃ h0 : 0 < str.size, a = (str[0].toNat : Int) - 48 ∧ (str.extract 1 10).data.toList = padL 9 b.toNat ∧ str.extract 10 13 = s ∧ (0 ≤ b ∧ b ≤ 999999999) := by
  obtain ⟨h1, h2, h3⟩ := lab_parts h.1
  obtain ⟨p0, p1, p2, p3, _⟩ := flab_at h.1 h.2
  have hs : str.size = 15 := by simpa using p0
  refine ⟨hs, by omega, ?_, by rw [ext_list]; exact p2, ba_ext (by rw [ext_list]; exact p3), h2⟩
  have e : str.data.toList.head? = some (str[0]'(by omega)) := by
    rw [List.head?_eq_getElem?, List.getElem?_eq_getElem (by simpa using (by omega : 0 < str.size))]; rfl
  rw [e] at p1
  have := congrArg UInt8.toNat (Option.some.inj p1)
  rw [UInt8.toNat_ofNat', Nat.mod_eq_of_lt (by omega)] at this
  omega
theorem BoxW.drew' {W : World} {b : Nat} {x y : Int} {s : ByteArray} (h : BoxW W b x y s) : BoxW W.drew b x y s := h
theorem below_set3 {w W : World} (h : Below w.heap.size w W) (v1 v2 v3 : Value) : Below w.heap.size w (((W.setCell ⟨w.heap.size, 0, none⟩ v1).setCell ⟨w.heap.size, 1, none⟩ v2).setCell ⟨w.heap.size, 2, none⟩ v3) :=
  ((h.setCell (p := ⟨w.heap.size, 0, none⟩) (Nat.le_refl _) _).setCell (p := ⟨w.heap.size, 1, none⟩) (Nat.le_refl _) _).setCell (p := ⟨w.heap.size, 2, none⟩) (Nat.le_refl _) _
set_option maxRecDepth 100000 in
set_option maxHeartbeats 2000000 in
theorem plab_impl (str : ByteArray) (w : World) (hs : str.size ≤ 1048576) (hp : PowIs w) (he : ErrIs w "strconv.ErrRange" ∧ ErrIs w "strconv.ErrSyntax") :
    Calls Tryd.prog 17 #[.string str] w fun e w' => PLab str e ∧ Below w.heap.size w w' := by
  have hbW := ((Below.refl w.heap.size w).alloc (Nat.le_refl _) (.cells #[.int .i64 0, .int .i64 0, .string ⟨#[]⟩] 26))
  have HP := Lib.hid (hp.below hbW); clear hp
  have HE := Lib.hid (And.intro (he.1.below hbW) (he.2.below hbW)); clear he
  have hz := BoxW.new w 0 0 ⟨#[]⟩
  by_cases h15 : str.size = 15
  · have hlo : 15 ≤ str.size := by omega
    have hhi : str.size ≤ 15 := by omega
    have hb : ((str.size : Int) != 15) = false := by simp; omega
    clear h15
    have hx1 : (str.extract 1 10).size ≤ 9 := by rw [ByteArray.size_extract]; omega
    have hcs : (∃ v, Lib.atoiAll (str.extract 1 10).data.toList = .ok v) ∨ Lib.atoiAll (str.extract 1 10).data.toList = Lib.atoiAll [] ∨ Lib.atoiAll (str.extract 1 10).data.toList = .range := by
      cases Lib.atoiAll (str.extract 1 10).data.toList
      · exact .inl ⟨_, rfl⟩
      · exact .inr (.inl rfl)
      · exact .inr (.inr rfl)
    rcases hcs with ⟨v, ha⟩ | ha | ha
    · have hvb := Lib.atoiAll_bounds ha
      have HA := Lib.hid ha; clear ha
      go_enter Tryd.func17, Tryd.ntmps17
      go_wp2_with fail
      generalize w.alloc (.cells #[.int .i64 0, .int .i64 0, .string ⟨#[]⟩] 26) = W at *
      refine (Tryd.strconv_Atoi_ok _ (by omega) v HA.out _).mono ?_
      rintro e w1 ⟨rfl, hw⟩
      have hb1 : Below W.heap.size W w1 := by
        rcases hw with rfl | ⟨t, rfl⟩
        · exact Below.refl _ _
        · exact below_bytes _ _ _
      clear hw
      have hz1 := hz.below hb1
      have hBl := hz.lt
      obtain ⟨c0, c1, c2, f0, f1, f2⟩ := hz1.cells
      have h0 : 0 < str.size := by omega
      go_wp2_with fail
      go_region
      have hx : wrap64 (wrap64 (str[0].toNat : Int) - 48) = (str[0].toNat : Int) - 48 := by
        have := str[0].toNat_lt
        rw [w64b, IntWalk.wrap64_in _ (by omega)]
      rw [hx]
      clear hx
      obtain ⟨x, hxe⟩ : ∃ x, x = (str[0].toNat : Int) - 48 := ⟨_, rfl⟩
      obtain ⟨y, hye⟩ : ∃ y, y = str.extract 10 13 := ⟨_, rfl⟩
      have hy3 : y.size ≤ 1048576 := by rw [hye, ByteArray.size_extract]; omega
      rw [← hxe, ← hye]
      have HX := Lib.hid hxe; have HY := Lib.hid hye; clear hxe hye
      have hk := BoxW.new w1 x v y
      have hz2 := hz1.alloc (.cells #[.int .i64 x, .int .i64 v, .string y] 26)
      have hbw2 := ((hbW.trans (hb1.mono (by omega))).alloc (by have := hb1.size; omega) (.cells #[.int .i64 x, .int .i64 v, .string y] 26)).drew
      have hp2 := (HP.out.below hb1).below (((Below.refl w1.heap.size w1).alloc (Nat.le_refl _) (.cells #[.int .i64 x, .int .i64 v, .string y] 26)).drew)
      clear c0 c1 c2 f0 f1 f2
      obtain ⟨p0, p1, p2, _, _, _⟩ := hk.cells
      have hUn : ∀ a b s, IsLab str a b s → x = a ∧ v = b ∧ y = s := fun a b s hl => by
        obtain ⟨_, _, q1, q2, q3, hb⟩ := isLab_at hl
        have := atoi_pad 9 b.toNat (by omega) (by omega) (by omega)
        rw [← q2, HA.out] at this
        injection this with this
        exact ⟨by rw [HX.out, q1], by omega, by rw [HY.out, q3]⟩
      have HU := Lib.hid hUn; clear hUn
      have HP2 := Lib.hid hp2; clear hp2
      have hkl := hk.lt
      generalize hD : w1.heap.size = D at *
      go_wp2_with fail
      refine (flab_impl x v y _ hy3 HP2.out).mono ?_; rintro e w3 ⟨rfl, hb3⟩
      have hk3 := BoxW.below hk.drew' hb3
      have hz3 := BoxW.below hz2.drew' hb3
      have hbw3 := hbw2.trans (hb3.mono (by have := hbw2.size; exact this))
      clear p0 p1 p2
      obtain ⟨p0, p1, p2, _, _, _⟩ := hk3.cells
      obtain ⟨c0, c1, c2, f0, f1, f2⟩ := hz3.cells
      by_cases hf : (flab x v y).toList = str.toList
      · have hq : ((flab x v y).toList == str.toList) = true := by simpa using hf
        rw [ByteArray.toList_eq, ByteArray.toList_eq] at hf
        have hlab : labB x v y.data.toList = true := by
          cases hl : labB x v y.data.toList with
          | true => rfl
          | false =>
            rw [flab_empty _ _ _ hl] at hf
            have := congrArg List.length hf
            simp at this; omega
        have HL := Lib.hid (show IsLab str x v y from ⟨hlab, hf⟩); clear hlab hf
        go_wp2
        exact bodyPost_ret (v := .tuple #[.agg #[.int .i64 x, .int .i64 v, .string y], .bool true]) (by simp [results, Tryd.results17, go_sem, c0, c1, c2]) rfl
          ⟨.inl ⟨x, v, y, HL.out, rfl⟩, below_set3 hbw3 _ _ _⟩
      · have hq : ((flab x v y).toList == str.toList) = false := by simpa using hf
        have HN : Hid (∀ a b s, ¬ IsLab str a b s) := fun a b s hl => by
          obtain ⟨rfl, rfl, rfl⟩ := HU.out a b s hl
          exact hf (by rw [ByteArray.toList_eq, ByteArray.toList_eq]; exact hl.2)
        clear hf
        go_wp2
        exact bodyPost_ret (v := .tuple #[.agg #[.int .i64 0, .int .i64 0, .string ⟨#[]⟩], .bool false]) (by simp [results, Tryd.results17, go_sem, c0, c1, c2]) rfl
          ⟨.inr ⟨HN.out, rfl⟩, below_set3 hbw3 _ _ _⟩
    · have HN : Hid (∀ a b s, ¬ IsLab str a b s) := fun a b s hl => by
        obtain ⟨_, _, _, p2, _, hb⟩ := isLab_at hl
        have := atoi_pad 9 b.toNat (by omega) (by omega) (by omega)
        rw [← p2, ha] at this
        cases this
      obtain ⟨tp, p, hvar⟩ := HE.out.2
      have HV := Lib.hid hvar
      have HA := Lib.hid ha; clear ha hvar
      go_enter Tryd.func17, Tryd.ntmps17
      go_wp2_with fail
      generalize w.alloc (.cells #[.int .i64 0, .int .i64 0, .string ⟨#[]⟩] 26) = W at *
      refine (Tryd.strconv_Atoi_syntax_var _ (by omega) HA.out tp p _ HV.out).mono ?_
      rintro e w1 ⟨N, rfl, _, _, hb1⟩
      have hz1 := hz.below hb1
      have hBl := hz.lt
      obtain ⟨c0, c1, c2, f0, f1, f2⟩ := hz1.cells
      go_wp2
      exact bodyPost_ret (v := .tuple #[.agg #[.int .i64 0, .int .i64 0, .string ⟨#[]⟩], .bool false]) (by simp [results, Tryd.results17, go_sem, c0, c1, c2]) rfl
        ⟨.inr ⟨HN.out, rfl⟩, below_set3 (hbW.trans (hb1.mono (by omega))) _ _ _⟩
    · have HN : Hid (∀ a b s, ¬ IsLab str a b s) := fun a b s hl => by
        obtain ⟨_, _, _, p2, _, hb⟩ := isLab_at hl
        have := atoi_pad 9 b.toNat (by omega) (by omega) (by omega)
        rw [← p2, ha] at this
        cases this
      obtain ⟨tp, p, hvar⟩ := HE.out.1
      have HV := Lib.hid hvar
      have HA := Lib.hid ha; clear ha hvar
      go_enter Tryd.func17, Tryd.ntmps17
      go_wp2_with fail
      generalize w.alloc (.cells #[.int .i64 0, .int .i64 0, .string ⟨#[]⟩] 26) = W at *
      refine (Tryd.strconv_Atoi_range_var _ (by omega) HA.out tp p _ HV.out).mono ?_
      rintro e w1 ⟨N, rfl, _, _, hb1⟩
      have hz1 := hz.below hb1
      have hBl := hz.lt
      obtain ⟨c0, c1, c2, f0, f1, f2⟩ := hz1.cells
      go_wp2
      exact bodyPost_ret (v := .tuple #[.agg #[.int .i64 0, .int .i64 0, .string ⟨#[]⟩], .bool false]) (by simp [results, Tryd.results17, go_sem, c0, c1, c2]) rfl
        ⟨.inr ⟨HN.out, rfl⟩, below_set3 (hbW.trans (hb1.mono (by omega))) _ _ _⟩
  · have hb : ((str.size : Int) != 15) = true := by simp; omega
    have HN := Lib.hid h15; clear h15
    obtain ⟨c0, c1, c2, f0, f1, f2⟩ := hz.cells
    go_enter Tryd.func17, Tryd.ntmps17
    go_wp2
    exact bodyPost_ret (v := .tuple #[.agg #[.int .i64 0, .int .i64 0, .string ⟨#[]⟩], .bool false]) (by simp [results, Tryd.results17, go_sem]) rfl
      ⟨.inr ⟨fun a b s h => HN.out (isLab_at h).1, rfl⟩, hbW⟩
end Go.Proofs.YtphcjppdmdmejaaDoor

/- Contracts of the two texts that read a minute of a day. -/
import Derived.Test.YtichnpjpldkceaaDoorClock
import Derived.Test.YtichnpjpldkceaaDoorPLMath
namespace Go.Proofs.YtichnpjpldkceaaDoor
open Go.RowKit
/-- what clk writes -/
def IsClk (s : ByteArray) (m : Int) : Prop := (0 ≤ m ∧ m ≤ 1439) ∧ (clk m).data.toList = s.data.toList
theorem clk_list (m : Int) : (clk m).data.toList = padL 2 (m / 60).toNat ++ (58 :: padL 2 (m % 60).toNat) := by
  unfold clk
  simp only [ByteArray.data_append, Array.toList_append]
  simp [padS]
theorem isClk_at {s : ByteArray} {m : Int} (h : IsClk s m) :
    s.size = 5 ∧ Lib.atoiAll (s.extract 0 2).data.toList = .ok (m / 60) ∧ Lib.atoiAll (s.extract 3 5).data.toList = .ok (m % 60) := by
  obtain ⟨hb, h⟩ := h
  have e1 := atoi_pad 2 (m / 60).toNat (by omega) (by omega) (by omega)
  have e2 := atoi_pad 2 (m % 60).toNat (by omega) (by omega) (by omega)
  have l1 := padL_len 2 (m / 60).toNat (by omega) (by omega)
  have l2 := padL_len 2 (m % 60).toNat (by omega) (by omega)
  rw [clk_list] at h
  rw [Int.toNat_of_nonneg (by omega)] at e1 e2
  rw [ext_list, ext_list, ← h]
  have hs : s.size = s.data.toList.length := by simp
  rw [hs, ← h]
  generalize padL 2 (m / 60).toNat = p at *
  generalize padL 2 (m % 60).toNat = q at *
  match p, l1, q, l2 with
  | [p0, p1], _, [q0, q1], _ => exact ⟨rfl, e1, e2⟩
theorem atoi_any (s : ByteArray) (hs : s.size ≤ 1048576) (w : World) (he : ErrIs w "strconv.ErrRange" ∧ ErrIs w "strconv.ErrSyntax") :
    Calls Tryd.prog 71 #[.string s] w fun e w' => ((∃ v, Lib.atoiAll s.data.toList = .ok v ∧ e = .returned (.tuple #[.int .i64 v, .nilIface])) ∨ ((∀ v, Lib.atoiAll s.data.toList ≠ .ok v) ∧ ∃ n T p, e = .returned (.tuple #[.int .i64 n, .iface T p]))) ∧ Below w.heap.size w w' := by
  have hcs : (∃ v, Lib.atoiAll s.data.toList = .ok v) ∨ Lib.atoiAll s.data.toList = Lib.atoiAll [] ∨ Lib.atoiAll s.data.toList = .range := by
    cases Lib.atoiAll s.data.toList
    · exact .inl ⟨_, rfl⟩
    · exact .inr (.inl rfl)
    · exact .inr (.inr rfl)
  rcases hcs with ⟨v, ha⟩ | ha | ha
  · refine (Tryd.strconv_Atoi_ok s (by omega) v ha w).mono ?_
    rintro e w1 ⟨rfl, hw⟩
    refine ⟨.inl ⟨v, ha, rfl⟩, ?_⟩
    rcases hw with rfl | ⟨t, rfl⟩
    · exact Below.refl _ _
    · exact below_bytes _ _ _
  · obtain ⟨tp, p, hvar⟩ := he.2
    refine (Tryd.strconv_Atoi_syntax_var s (by omega) ha tp p w hvar).mono ?_
    rintro e w1 ⟨N, rfl, _, _, hb1⟩
    refine ⟨.inr ⟨fun v h => ?_, _, _, _, rfl⟩, hb1⟩
    rw [ha] at h; cases h
  · obtain ⟨tp, p, hvar⟩ := he.1
    refine (Tryd.strconv_Atoi_range_var s (by omega) ha tp p w hvar).mono ?_
    rintro e w1 ⟨N, rfl, _, _, hb1⟩
    refine ⟨.inr ⟨fun v h => ?_, _, _, _, rfl⟩, hb1⟩
    rw [ha] at h; cases h
/-- what the texts that read a minute answer -/
def PClk (s : ByteArray) (e : Ending) : Prop := (∃ m : Int, IsClk s m ∧ e = .returned (.tuple #[.int .i64 m, .bool true])) ∨ ((∀ m, ¬ IsClk s m) ∧ e = .returned (.tuple #[.int .i64 0, .bool false]))
set_option maxRecDepth 100000 in
set_option maxHeartbeats 2000000 in
theorem pclk_impl (s : ByteArray) (w : World) (he : ErrIs w "strconv.ErrRange" ∧ ErrIs w "strconv.ErrSyntax") :
    Calls Tryd.prog 46 #[.string s] w fun e w' => PClk s e ∧ Below w.heap.size w w' := by
  by_cases h5 : s.size = 5
  · have hq : ((s.size : Int) != 5) = false := by simp; omega
    have hlo : 5 ≤ s.size := by omega
    have hhi : s.size ≤ 5 := by omega
    have HE := Lib.hid he; clear he
    have hx1 : (s.extract 0 2).size ≤ 1048576 := by rw [ByteArray.size_extract]; omega
    have hx2 : (s.extract 3 s.size).size ≤ 1048576 := by rw [ByteArray.size_extract]; omega
    have HA := Lib.hid (fun W h => atoi_any (s.extract 0 2) hx1 W h)
    have HB := Lib.hid (fun W h => atoi_any (s.extract 3 s.size) hx2 W h)
    clear hx1 hx2
    have HU := Lib.hid (fun m (h : IsClk s m) => isClk_at h)
    have H5 := Lib.hid h5; clear h5
    go_enter Tryd.func46, Tryd.ntmps46
    go_wp2_with fail
    refine (HA.out _ HE.out).mono ?_; rintro e w1 ⟨h1, hb1⟩
    rcases h1 with ⟨v, hv, rfl⟩ | ⟨hn, n1, T1, p1, rfl⟩
    · have HV := Lib.hid hv; clear hv
      go_wp2_with fail
      refine (HB.out _ ⟨HE.out.1.below hb1, HE.out.2.below hb1⟩).mono ?_; rintro e w2 ⟨h2, hb2⟩
      rcases h2 with ⟨u, hu, rfl⟩ | ⟨hn, n2, T2, p2, rfl⟩
      · have HW := Lib.hid hu; clear hu
        have HUN : Hid (∀ m, IsClk s m → v = m / 60 ∧ u = m % 60) := fun m h => by
          obtain ⟨_, e1, e2⟩ := HU.out m h
          rw [HV.out] at e1
          have e3 := HW.out
          rw [H5.out, e2] at e3
          injection e1 with e1
          injection e3 with e3
          exact ⟨e1, e3.symm⟩
        obtain ⟨x, hx⟩ : ∃ x, wrap64 (wrap64 (v * 60) + u) = x := ⟨_, rfl⟩
        have HX : Hid (∀ m, IsClk s m → x = m) := fun m h => by
          obtain ⟨rfl, rfl⟩ := HUN.out m h
          have := h.1
          rw [← hx, IntWalk.wrap64_in (m / 60 * 60) (by omega), IntWalk.wrap64_in _ (by omega)]; omega
        have hb3 := hb1.trans (hb2.mono hb1.size)
        by_cases h0 : x < 0
        · go_wp2
          go_ret2
          refine ⟨.inr ⟨fun m h => ?_, rfl⟩, hb3⟩
          have := HX.out m h
          have := h.1
          omega
        · by_cases h1 : 1440 ≤ x
          · go_wp2
            go_ret2
            refine ⟨.inr ⟨fun m h => ?_, rfl⟩, hb3⟩
            have := HX.out m h
            have := h.1
            omega
          · have h0' : 0 ≤ x := by omega
            go_wp2_with fail
            refine (clock_impl x (by omega) _).mono ?_; rintro e w3 ⟨rfl, hb4⟩
            have hb5 := hb3.trans (hb4.mono hb3.size)
            by_cases he : (clk x).toList = s.toList
            · have hne : ((clk x).toList == s.toList) = true := by simpa using he
              rw [ByteArray.toList_eq, ByteArray.toList_eq] at he
              have HE2 := Lib.hid he; clear he
              go_wp2
              go_ret2
              exact ⟨.inl ⟨x, ⟨by omega, HE2.out⟩, rfl⟩, hb5⟩
            · have hne : ((clk x).toList == s.toList) = false := by simpa using he
              rw [ByteArray.toList_eq, ByteArray.toList_eq] at he
              have HE2 := Lib.hid he; clear he
              go_wp2
              go_ret2
              refine ⟨.inr ⟨fun m h => ?_, rfl⟩, hb5⟩
              have e := HX.out m h
              subst e
              exact HE2.out h.2
      · have HN := Lib.hid hn; clear hn
        go_wp2
        go_ret2
        refine ⟨.inr ⟨fun m h => ?_, rfl⟩, hb1.trans (hb2.mono hb1.size)⟩
        obtain ⟨_, _, e2⟩ := HU.out m h
        exact HN.out _ (by rw [H5.out]; exact e2)
    · have HN := Lib.hid hn; clear hn
      go_wp2_with fail
      refine (HB.out _ ⟨HE.out.1.below hb1, HE.out.2.below hb1⟩).mono ?_; rintro e w2 ⟨h2, hb2⟩
      have hno : ∀ m, ¬ IsClk s m := fun m h => HN.out _ (HU.out m h).2.1
      have HNO := Lib.hid hno; clear hno
      rcases h2 with ⟨u, hu, rfl⟩ | ⟨hn, n2, T2, p2, rfl⟩
      · clear hu
        go_wp2
        go_ret2
        exact ⟨.inr ⟨HNO.out, rfl⟩, hb1.trans (hb2.mono hb1.size)⟩
      · clear hn
        go_wp2
        go_ret2
        exact ⟨.inr ⟨HNO.out, rfl⟩, hb1.trans (hb2.mono hb1.size)⟩
  · have hq : ((s.size : Int) != 5) = true := by simp; omega
    have HN := Lib.hid h5; clear h5
    go_enter Tryd.func46, Tryd.ntmps46
    go_wp2
    go_ret2
    exact ⟨.inr ⟨fun m h => HN.out (isClk_at h).1, rfl⟩, Below.refl _ _⟩
end Go.Proofs.YtichnpjpldkceaaDoor

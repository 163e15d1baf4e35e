/- The contracts of the two texts of ParseTime. -/
import Derived.Test.YtichnpjpldkceaaDoorCutM
import Derived.Laws.OwnMore
namespace Go.Proofs.YtichnpjpldkceaaDoor
open Go.RowKit
/-- the library's variable that strings.Cut reads holds some number -/
def MaxIs (W : World) : Prop := ∃ m, W.cell? ⟨0, 0, none⟩ = some (.int .i64 m)
theorem max_is {W : World} (h : W.ShapedOpen Tryd.prog) : MaxIs W := Tryd.laysM145.s1_3 W h
theorem MaxIs.below {W W' : World} (h : MaxIs W) (hb : Below W.heap.size W W') : MaxIs W' := by
  obtain ⟨m, h⟩ := h
  refine ⟨m, ?_⟩
  have hg : 0 < W.heap.size := by
    by_cases hc : 0 < W.heap.size
    · exact hc
    · unfold World.cell? at h
      rw [Array.getElem?_eq_none (by omega)] at h
      cases h
  unfold World.cell? at h ⊢
  rw [hb.block 0 hg]
  exact h
theorem cut1_len (c : UInt8) : ∀ l, (cut1 c l).1.length ≤ l.length ∧ (cut1 c l).2.1.length ≤ l.length
  | [] => by simp [cut1]
  | b :: r => by
    have ih := cut1_len c r
    unfold cut1
    split
    · simp
    · simp only [List.length_cons]; omega
theorem cut_call (s : ByteArray) (c : UInt8) (w : World) (hs : s.size ≤ 1048576) (hm : MaxIs w) :
    Calls Tryd.prog 44 #[.string s, .string ⟨#[c]⟩] w fun e w' => (∃ a b f, e = .returned (.tuple #[.string a, .string b, .bool f]) ∧ a.data.toList = (cut1 c s.data.toList).1 ∧ b.data.toList = (cut1 c s.data.toList).2.1 ∧ a.size ≤ 1048576 ∧ b.size ≤ 1048576) ∧ Below w.heap.size w w' := by
  obtain ⟨m, hm⟩ := hm
  refine (Tryd.strings_Cut s ⟨#[c]⟩ m w (by omega) hm).mono ?_
  rintro e w' ⟨rfl, n, rfl⟩
  have e1 : Lib.cut s.data.toList (⟨#[c]⟩ : ByteArray).data.toList = cut1 c s.data.toList := cut_one c _
  rw [e1]
  have hl := cut1_len c s.data.toList
  have hz : s.data.toList.length = s.size := by simp
  refine ⟨⟨_, _, _, rfl, rfl, rfl, ?_, ?_⟩, ⟨rfl, rfl, rfl, Nat.le_refl _, fun _ _ => rfl⟩⟩
  · show Array.size _ ≤ _
    rw [List.size_toArray]; omega
  · show Array.size _ ≤ _
    rw [List.size_toArray]; omega
/-- a text whose two parts are these -/
def Two (s a b : ByteArray) : Prop :=
  (∀ (n : Nat) m, IsNum a.data.toList n → IsClk b m → (n : Int) * 1440 + m ≤ 100000 → IsT s.data.toList (n * 1440 + m)) ∧
  ∀ t, IsT s.data.toList t → ∃ (n : Nat) (m : Int), IsNum a.data.toList n ∧ IsClk b m ∧ (n : Int) * 1440 + m = t
theorem two_of {s a b : ByteArray} (h : ∀ m, IsClk b m → s.data.toList = a.data.toList ++ 32 :: b.data.toList)
    (h2 : ∀ t, IsT s.data.toList t → a.data.toList = Lib.decDigits (t / 1440).toNat ∧ b.data.toList = (clk (t % 1440)).data.toList) : Two s a b := by
  refine ⟨fun n m hn hm hl => ?_, fun t ht => ?_⟩
  · rw [h m hm]; exact isT_of hn hm rfl hl
  · obtain ⟨e1, e2⟩ := h2 t ht
    have hb := ht.1
    refine ⟨(t / 1440).toNat, t % 1440, ?_, ⟨by omega, e2.symm⟩, by omega⟩
    rw [e1]; exact (isT_parts ht).2.2
theorem two_split {s a b : ByteArray} (h : lists [a, b] = splitL 32 s.data.toList) : Two s a b := by
  refine two_of (fun m _ => ?_) (fun t ht => ?_)
  · rw [← split_join 32 s.data.toList, ← h]; rfl
  · have h1 := (isT_parts ht).1
    rw [← h] at h1
    injection h1 with h2 h3
    injection h3 with h3 _
    exact ⟨h2, h3⟩
theorem two_cut {s a b : ByteArray} (ha : a.data.toList = (cut1 32 s.data.toList).1) (hb : b.data.toList = (cut1 32 s.data.toList).2.1) : Two s a b := by
  refine two_of (fun m hm => ?_) (fun t ht => ?_)
  · rw [ha, hb]
    refine cut1_join 32 _ fun e => ?_
    rw [← hb] at e
    have h1 := (isClk_at hm).1
    have h2 : b.data.toList.length = b.size := by simp
    rw [e] at h2
    simp at h2; omega
  · have h1 := (isT_parts ht).2.1
    rw [ha, hb, h1]
    exact ⟨rfl, rfl⟩
theorem Two.not_num {s a b : ByteArray} (h : Two s a b) (hn : ∀ n, ¬ IsNum a.data.toList n) : ∀ t, ¬ IsT s.data.toList t := fun t ht => by
  obtain ⟨n, _, h1, _⟩ := h.2 t ht
  exact hn n h1
theorem Two.not_clk {s a b : ByteArray} (h : Two s a b) (hn : ∀ m, ¬ IsClk b m) : ∀ t, ¬ IsT s.data.toList t := fun t ht => by
  obtain ⟨_, m, _, h1, _⟩ := h.2 t ht
  exact hn m h1
theorem Two.only {s a b : ByteArray} (h : Two s a b) {n : Nat} {m : Int} (hn : IsNum a.data.toList n) (hm : IsClk b m) : ∀ t, IsT s.data.toList t → t = n * 1440 + m := fun t ht => by
  obtain ⟨n', m', h1, h2, h3⟩ := h.2 t ht
  have e1 : n' = n := dec_inj (h1.2.trans hn.2.symm)
  obtain ⟨_, a1, b1⟩ := isClk_at hm
  obtain ⟨_, a2, b2⟩ := isClk_at h2
  rw [a1] at a2
  rw [b1] at b2
  injection a2 with a2
  injection b2 with b2
  have := hm.1
  have := h2.1
  subst e1
  omega
theorem Two.far {s a b : ByteArray} (h : Two s a b) {n : Nat} {m : Int} (hn : IsNum a.data.toList n) (hm : IsClk b m) (hf : 100000 < (n : Int) * 1440 + m) : ∀ t, ¬ IsT s.data.toList t := fun t ht => by
  have := h.only hn hm t ht
  have := ht.1
  omega
theorem own_two {w w' : World} {base g cap : Nat} {a b : ByteArray} (h : OwnStr w base (.slice (some ⟨g, 0, none⟩) 2 cap) [a, b]) (hb : Below w.heap.size w w') :
    w'.cell? ⟨g, 0, none⟩ = some (.string a) ∧ w'.cell? ⟨g, 1, none⟩ = some (.string b) := by
  have h' := own_below h hb
  unfold OwnStr at h'
  have h0 := World.ownsRow.cellAt (w := w') (base := base) (e := 9) (size := 1) h' 0 (by simp)
  have h1 := World.ownsRow.cellAt (w := w') (base := base) (e := 9) (size := 1) h' 1 (by simp)
  exact ⟨h0, h1⟩
set_option maxRecDepth 100000 in
set_option maxHeartbeats 2000000 in
theorem ptime_spec (s : ByteArray) (w : World) (hs : s.size ≤ 1048576) :
    Calls Tryd.prog 15 #[.string s] w fun e w' => PTime s e ∧ Below w.heap.size w w' := by
  have HS := Lib.hid (split_spec s 32 w hs)
  go_enter Tryd.func15, Tryd.ntmps15
  go_wp2_with fail
  refine (HS.out).mono ?_; rintro e w1 ⟨⟨v, l, rfl, hown, hl, hx⟩, hb1⟩
  clear HS
  have hpos : 0 < l.length := by
    have h1 := congrArg List.length hl
    have h2 := spl_ne 32 s.data.toList []
    have h3 : 0 < (splitL 32 s.data.toList).length := by
      unfold splitL
      exact List.length_pos_iff.2 h2
    unfold lists at h1
    rw [List.length_map] at h1
    omega
  obtain ⟨g, cap, rfl, _, hgl⟩ := World.ownsRow.form hown hpos
  by_cases h2 : l.length = 2
  · obtain ⟨a, b, rfl⟩ : ∃ a b, l = [a, b] := by
      match l, h2 with
      | [a, b], _ => exact ⟨a, b, rfl⟩
    have HT := Lib.hid (two_split hl); clear hl h2 hpos
    have hax := hx a (by simp)
    have hq : (((2 : Nat) : Int) != 2) = false := rfl
    clear hx
    obtain ⟨c0, c1⟩ := own_two hown (Below.refl _ _)
    have HO := Lib.hid hown; clear hown
    go_wp2_with fail
    refine (pint_spec a _ hax).mono ?_; rintro e w2 ⟨h1, hb2⟩
    clear c0 c1
    obtain ⟨c0, c1⟩ := own_two HO.out hb2
    have hb3 := hb1.trans (hb2.mono hb1.size)
    have hgl2 : g < w2.heap.size := Nat.lt_of_lt_of_le hgl hb2.size
    clear hgl
    rcases h1 with ⟨n, hn, rfl⟩ | ⟨hn, rfl⟩
    · have hnb := hn.1
      have HN := Lib.hid hn; clear hn
      go_wp2_with fail
      refine (minu_spec b _).mono ?_; rintro e w3 ⟨h1, hb4⟩
      have hb5 := hb3.trans (hb4.mono hb3.size)
      rcases h1 with ⟨m, hm, rfl⟩ | ⟨hm, rfl⟩
      · obtain ⟨hm0, hm1⟩ := hm.1
        have HM := Lib.hid hm; clear hm
        by_cases hd : 100000 < (n : Int)
        · go_wp2
          go_ret2
          exact ⟨.inr ⟨HT.out.far HN.out HM.out (by omega), rfl⟩, hb5⟩
        · by_cases hf : 100000 < (n : Int) * 1440 + m
          · go_wp2
            go_ret2
            exact ⟨.inr ⟨HT.out.far HN.out HM.out hf, rfl⟩, hb5⟩
          · go_wp2
            go_ret2
            exact ⟨.inl ⟨_, HT.out.1 n m HN.out HM.out (by omega), rfl⟩, hb5⟩
      · have HM := Lib.hid hm; clear hm
        go_wp2
        go_ret2
        exact ⟨.inr ⟨HT.out.not_clk HM.out, rfl⟩, hb5⟩
    · have HN := Lib.hid hn; clear hn
      go_wp2_with fail
      refine (minu_spec b _).mono ?_; rintro e w3 ⟨h1, hb4⟩
      have hb5 := hb3.trans (hb4.mono hb3.size)
      rcases h1 with ⟨m, hm, rfl⟩ | ⟨hm, rfl⟩
      · clear hm
        go_wp2
        go_ret2
        exact ⟨.inr ⟨HT.out.not_num HN.out, rfl⟩, hb5⟩
      · clear hm
        go_wp2
        go_ret2
        exact ⟨.inr ⟨HT.out.not_num HN.out, rfl⟩, hb5⟩
  · have hq : ((l.length : Int) != 2) = true := by simp; omega
    have HN : Hid (∀ t, ¬ IsT s.data.toList t) := fun t ht => by
      have h1 := (isT_parts ht).1
      rw [← hl] at h1
      have h3 := congrArg List.length h1
      unfold lists at h3
      rw [List.length_map] at h3
      exact h2 h3
    clear hl hx h2
    go_wp2
    go_ret2
    exact ⟨.inr ⟨HN.out, rfl⟩, hb1⟩
set_option maxRecDepth 100000 in
set_option maxHeartbeats 2000000 in
theorem ptime_impl (s : ByteArray) (w : World) (hs : s.size ≤ 1048576) (hp : PowIs w) (he : ErrIs w "strconv.ErrRange" ∧ ErrIs w "strconv.ErrSyntax") (hm : MaxIs w) :
    Calls Tryd.prog 16 #[.string s] w fun e w' => PTime s e ∧ Below w.heap.size w w' := by
  have HS := Lib.hid (cut_call s 32 w hs hm); clear hm
  have HP := Lib.hid hp; clear hp
  have HE := Lib.hid he; clear he
  go_enter Tryd.func16, Tryd.ntmps16
  go_wp2_with fail
  refine (HS.out).mono ?_; rintro e w1 ⟨⟨a, b, f, rfl, ha, hb, hax, hbx⟩, hb1⟩
  clear HS
  have HT := Lib.hid (two_cut ha hb); clear ha hb
  go_wp2_with fail
  refine (pint_impl a _ hax (HP.out.below hb1) ⟨HE.out.1.below hb1, HE.out.2.below hb1⟩).mono ?_; rintro e w2 ⟨h1, hb2⟩
  have hb3 := hb1.trans (hb2.mono hb1.size)
  rcases h1 with ⟨n, hn, rfl⟩ | ⟨hn, rfl⟩
  · have hnb := hn.1
    have HN := Lib.hid hn; clear hn
    go_wp2_with fail
    refine (pclk_impl b _ ⟨HE.out.1.below hb3, HE.out.2.below hb3⟩).mono ?_; rintro e w3 ⟨h1, hb4⟩
    have hb5 := hb3.trans (hb4.mono hb3.size)
    rcases h1 with ⟨m, hm, rfl⟩ | ⟨hm, rfl⟩
    · obtain ⟨hm0, hm1⟩ := hm.1
      have HM := Lib.hid hm; clear hm
      by_cases hf : 100000 < (n : Int) * 1440 + m
      · go_wp2
        go_ret2
        exact ⟨.inr ⟨HT.out.far HN.out HM.out hf, rfl⟩, hb5⟩
      · go_wp2
        go_ret2
        exact ⟨.inl ⟨_, HT.out.1 n m HN.out HM.out (by omega), rfl⟩, hb5⟩
    · have HM := Lib.hid hm; clear hm
      go_wp2
      go_ret2
      exact ⟨.inr ⟨HT.out.not_clk HM.out, rfl⟩, hb5⟩
  · have HN := Lib.hid hn; clear hn
    go_wp2_with fail
    refine (pclk_impl b _ ⟨HE.out.1.below hb3, HE.out.2.below hb3⟩).mono ?_; rintro e w3 ⟨h1, hb4⟩
    have hb5 := hb3.trans (hb4.mono hb3.size)
    rcases h1 with ⟨m, hm, rfl⟩ | ⟨hm, rfl⟩
    · have := hm.1
      clear hm
      go_wp2
      go_ret2
      exact ⟨.inr ⟨HT.out.not_num HN.out, rfl⟩, hb5⟩
    · clear hm
      go_wp2
      go_ret2
      exact ⟨.inr ⟨HT.out.not_num HN.out, rfl⟩, hb5⟩
end Go.Proofs.YtichnpjpldkceaaDoor

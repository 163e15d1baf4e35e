/- The check number notices one wrong and two exchanged characters. No program. -/
import Derived.Test.YtphcjppdmdmejaaDoorPLab
namespace Go.Proofs.YtphcjppdmdmejaaDoor
open Go.RowKit
def fold97 (r : Int) (l : List UInt8) : Int := l.foldl (fun r c => (10 * r + ((c.toNat : Int) - 48)) % 97) r
theorem m97_app (x y : List UInt8) : m97 (x ++ y) = fold97 (m97 x) y := by unfold m97 fold97; rw [List.foldl_append]
theorem fold97_app (r : Int) (x y : List UInt8) : fold97 r (x ++ y) = fold97 (fold97 r x) y := by unfold fold97; rw [List.foldl_append]
theorem fold97_bd (r : Int) (h : 0 ≤ r ∧ r < 97) : ∀ l, 0 ≤ fold97 r l ∧ fold97 r l < 97
  | [] => h
  | c :: l => fold97_bd ((10 * r + ((c.toNat : Int) - 48)) % 97) (by omega) l
theorem fold97_inj : ∀ (l : List UInt8) (r r' : Int), 0 ≤ r → r < 97 → 0 ≤ r' → r' < 97 → fold97 r l = fold97 r' l → r = r'
  | [], _, _, _, _, _, _, h => h
  | c :: l, r, r', h0, h1, h2, h3, h => by
    have := fold97_inj l ((10 * r + ((c.toNat : Int) - 48)) % 97) ((10 * r' + ((c.toNat : Int) - 48)) % 97) (by omega) (by omega) (by omega) (by omega) h
    omega
theorem digs_app (x y : List UInt8) : digs (x ++ y) = digs x ++ digs y := by simp [digs]
theorem digs_one (c : UInt8) : digs [c] = digOf c := by simp [digs]
theorem dig_fold (m : Int) (c : UInt8) (h : digB c = true) : fold97 m (digOf c) = (10 * m + ((c.toNat : Int) - 48)) % 97 := by
  unfold digOf; rw [if_pos h]; rfl
theorem cap_fold (m : Int) (c : UInt8) (h : capB c = true) : fold97 m (digOf c) = (100 * m + ((c.toNat : Int) - 55)) % 97 := by
  have hc := inB_iff.1 h
  have hd : ¬ digB c = true := fun k => by have := inB_iff.1 k; omega
  unfold digOf
  rw [if_neg hd, Lib.decDigits_two (by omega) (by omega)]
  show (10 * ((10 * m + (((UInt8.ofNat (48 + (c.toNat - 55) / 10)).toNat : Int) - 48)) % 97) + (((UInt8.ofNat (48 + (c.toNat - 55) % 10)).toNat : Int) - 48)) % 97 = _
  rw [UInt8.toNat_ofNat', UInt8.toNat_ofNat', Nat.mod_eq_of_lt (by omega), Nat.mod_eq_of_lt (by omega)]
  omega
theorem u8_eq {c d : UInt8} (h : (c.toNat : Int) = d.toNat) : c = d := UInt8.toNat_inj.1 (by omega)
/-- one character changed within its class -/
theorem one_slip (x y : List UInt8) (c d : UInt8) (hc : (digB c = true ∧ digB d = true) ∨ (capB c = true ∧ capB d = true)) (h : m97 (digs (x ++ c :: y)) = m97 (digs (x ++ d :: y))) : c = d := by
  have e : ∀ z : UInt8, m97 (digs (x ++ z :: y)) = fold97 (fold97 (m97 (digs x)) (digOf z)) (digs y) := fun z => by
    rw [show x ++ z :: y = x ++ ([z] ++ y) from rfl, digs_app, digs_app, digs_one, m97_app, fold97_app]
  rw [e, e] at h
  have hb := m97_bd (digs x)
  have b1 := fold97_bd _ hb (digOf c)
  have b2 := fold97_bd _ hb (digOf d)
  have h2 := fold97_inj _ _ _ b1.1 b1.2 b2.1 b2.2 h
  rcases hc with ⟨h3, h4⟩ | ⟨h3, h4⟩
  · rw [dig_fold _ _ h3, dig_fold _ _ h4] at h2
    have k3 := inB_iff.1 h3; have k4 := inB_iff.1 h4
    exact u8_eq (by omega)
  · rw [cap_fold _ _ h3, cap_fold _ _ h4] at h2
    have k3 := inB_iff.1 h3; have k4 := inB_iff.1 h4
    exact u8_eq (by omega)
/-- two neighbours of one class exchanged -/
theorem swap_slip (x y : List UInt8) (c d : UInt8) (hc : (digB c = true ∧ digB d = true) ∨ (capB c = true ∧ capB d = true)) (h : m97 (digs (x ++ c :: d :: y)) = m97 (digs (x ++ d :: c :: y))) : c = d := by
  have e : ∀ z u : UInt8, m97 (digs (x ++ z :: u :: y)) = fold97 (fold97 (fold97 (m97 (digs x)) (digOf z)) (digOf u)) (digs y) := fun z u => by
    rw [show x ++ z :: u :: y = x ++ ([z] ++ ([u] ++ y)) from rfl, digs_app, digs_app, digs_app, digs_one, digs_one, m97_app, fold97_app, fold97_app]
  rw [e, e] at h
  have hb := m97_bd (digs x)
  have b1 := fold97_bd _ (fold97_bd _ hb (digOf c)) (digOf d)
  have b2 := fold97_bd _ (fold97_bd _ hb (digOf d)) (digOf c)
  have h2 := fold97_inj _ _ _ b1.1 b1.2 b2.1 b2.2 h
  rcases hc with ⟨h3, h4⟩ | ⟨h3, h4⟩
  · rw [dig_fold _ _ h3, dig_fold _ _ h4, dig_fold _ _ h3, dig_fold _ _ h4] at h2
    have k3 := inB_iff.1 h3; have k4 := inB_iff.1 h4
    exact u8_eq (by omega)
  · rw [cap_fold _ _ h3, cap_fold _ _ h4, cap_fold _ _ h3, cap_fold _ _ h4] at h2
    have k3 := inB_iff.1 h3; have k4 := inB_iff.1 h4
    exact u8_eq (by omega)
theorem digs_of_digits : ∀ l : List UInt8, l.all digB = true → digs l = l
  | [], _ => rfl
  | c :: l, h => by
    simp only [List.all_cons, Bool.and_eq_true] at h
    show digOf c ++ digs l = c :: l
    rw [digs_of_digits l h.2]; unfold digOf; rw [if_pos h.1]; rfl
theorem pad_all (w n : Nat) : (padL w n).all digB = true := by
  rw [List.all_eq_true]
  intro c hc
  have := padL_digs w n c hc
  exact inB_iff.2 (by omega)
theorem digOf_all (c : UInt8) (h : okB c = true) : (digOf c).all digB = true := by
  unfold digOf
  split
  · rename_i hd; simp [hd]
  · exact dec_all _
theorem digs_all : ∀ l : List UInt8, l.all okB = true → (digs l).all digB = true
  | [], _ => rfl
  | c :: l, h => by
    simp only [List.all_cons, Bool.and_eq_true] at h
    show (digOf c ++ digs l).all digB = true
    rw [List.all_append, digOf_all c h.1, digs_all l h.2]; rfl
/-- a written label's number leaves 1 -/
theorem lab_one {str : ByteArray} {a b : Int} {s : ByteArray} (h : IsLab str a b s) : m97 (digs str.data.toList) = 1 := by
  obtain ⟨hl, he⟩ := h
  obtain ⟨h1, h2, h3⟩ := lab_parts hl
  have hc := chk_bd a b s hl
  have hcl : s.data.toList.all capB = true := by
    simp only [labB, Bool.and_eq_true, plcB] at hl; exact hl.2.2.2
  obtain ⟨k, hk⟩ : ∃ k : Nat, chk a b s = (k : Int) := ⟨(chk a b s).toNat, by omega⟩
  have hchk : chk a b s = 98 - mod97 (digsS (bodyZ a b s).data.toList).data.toList := by unfold chk chkD; rw [if_pos hl]
  rw [← he]
  have e1 : (flab a b s).data.toList = (bodyS a b s).data.toList ++ padL 2 k := by
    unfold flab flabD; rw [if_pos hl, hk]; simp [padS]
  rw [e1, digs_app, digs_of_digits _ (pad_all 2 k), m97_app]
  have e2 : (bodyZ a b s).data.toList = (bodyS a b s).data.toList ++ [48, 48] := by unfold bodyZ; simp
  have hbody : (bodyS a b s).data.toList.all okB = true := by
    have hlist : (bodyS a b s).data.toList = UInt8.ofNat (48 + a.toNat) :: (padL 9 b.toNat ++ s.data.toList) := by
      unfold bodyS
      simp only [ByteArray.data_append, Array.toList_append, one_dig a h1]
      simp [padS]
    rw [hlist]
    simp only [List.all_cons, List.all_append, Bool.and_eq_true]
    refine ⟨?_, ?_, ?_⟩
    · have : digB (UInt8.ofNat (48 + a.toNat)) = true := inB_iff.2 (by rw [UInt8.toNat_ofNat', Nat.mod_eq_of_lt (by omega)]; omega)
      unfold okB; rw [this]; rfl
    · have := pad_all 9 b.toNat
      rw [List.all_eq_true] at this ⊢
      intro c hc; simp [okB, this c hc]
    · rw [List.all_eq_true] at hcl ⊢
      intro c hc; simp [okB, hcl c hc]
  have hall : (bodyZ a b s).data.toList.all okB = true := by
    rw [e2, List.all_append, hbody]; decide
  have e3 : (digsS (bodyZ a b s).data.toList).data.toList = digs (bodyS a b s).data.toList ++ [48, 48] := by
    unfold digsS; rw [if_pos hall, e2, digs_app]; rfl
  have hdig : (digs (bodyS a b s).data.toList ++ [48, 48]).all digB = true := by
    rw [List.all_append, digs_all _ hbody]; decide
  rw [e3, mod97_yes _ (by simp) hdig, m97_app] at hchk
  generalize m97 (digs (bodyS a b s).data.toList) = M at *
  have e4 : fold97 M [48, 48] = (10 * ((10 * M + (48 - 48)) % 97) + (48 - 48)) % 97 := by
    simp only [fold97, List.foldl_cons, List.foldl_nil]
    rw [show ((48 : UInt8).toNat : Int) = 48 from rfl]
  have e5 : fold97 M (padL 2 k) = (100 * M + k) % 97 := by
    rw [← lowD_pad 2 k (by omega) (by omega)]
    simp only [lowD, fold97, List.foldl_cons, List.foldl_nil]
    have e6 : k / 10 ^ 1 % 10 = k / 10 := by omega
    have e7 : k / 10 ^ 0 % 10 = k % 10 := by rw [Nat.pow_zero, Nat.div_one]
    rw [e6, e7, UInt8.toNat_ofNat', UInt8.toNat_ofNat', Nat.mod_eq_of_lt (show 48 + k / 10 < 2 ^ 8 by omega), Nat.mod_eq_of_lt (show 48 + k % 10 < 2 ^ 8 by omega)]
    omega
  rw [e4] at hchk
  rw [e5]
  omega
/-- which of its places are letters -/
theorem lab_class {str : ByteArray} {a b : Int} {s : ByteArray} (h : IsLab str a b s) (i : Nat) (hi : i < str.data.toList.length) :
    (10 ≤ i ∧ i < 13 ∧ capB str.data.toList[i] = true) ∨ (¬ (10 ≤ i ∧ i < 13) ∧ digB str.data.toList[i] = true) := by
  obtain ⟨hl, he⟩ := h
  obtain ⟨h1, _, _⟩ := lab_parts hl
  obtain ⟨p0, p1, p2, p3, p4⟩ := flab_at hl he
  have hcl : s.data.toList.all capB = true := by
    simp only [labB, Bool.and_eq_true, plcB] at hl; exact hl.2.2.2
  generalize str.data.toList = l at *
  have hcs : i = 0 ∨ (1 ≤ i ∧ i < 10) ∨ (10 ≤ i ∧ i < 13) ∨ 13 ≤ i := by omega
  rcases hcs with rfl | hi2 | hi2 | hi2
  · refine .inr ⟨by omega, ?_⟩
    have e : l.head? = some l[0] := by rw [List.head?_eq_getElem?, List.getElem?_eq_getElem hi]
    rw [e] at p1
    rw [Option.some.inj p1]
    exact inB_iff.2 (by rw [UInt8.toNat_ofNat', Nat.mod_eq_of_lt (by omega)]; omega)
  · refine .inr ⟨by omega, ?_⟩
    have hm : l[i] ∈ (l.drop 1).take 9 := by
      have hlt : i - 1 < ((l.drop 1).take 9).length := by simp; omega
      have e : ((l.drop 1).take 9)[i - 1] = l[i] := by
        rw [List.getElem_take, List.getElem_drop]; congr 1; omega
      rw [← e]; exact List.getElem_mem hlt
    rw [p2] at hm
    have := List.all_eq_true.1 (pad_all 9 b.toNat) _ hm
    exact this
  · refine .inl ⟨by omega, by omega, ?_⟩
    have hm : l[i] ∈ (l.drop 10).take 3 := by
      have hlt : i - 10 < ((l.drop 10).take 3).length := by simp; omega
      have e : ((l.drop 10).take 3)[i - 10] = l[i] := by
        rw [List.getElem_take, List.getElem_drop]; congr 1; omega
      rw [← e]; exact List.getElem_mem hlt
    rw [p3] at hm
    exact List.all_eq_true.1 hcl _ hm
  · refine .inr ⟨by omega, ?_⟩
    have hm : l[i] ∈ l.drop 13 := by
      have hlt : i - 13 < (l.drop 13).length := by simp; omega
      have e : (l.drop 13)[i - 13] = l[i] := by
        rw [List.getElem_drop]; congr 1; omega
      rw [← e]; exact List.getElem_mem hlt
    rw [p4] at hm
    exact List.all_eq_true.1 (pad_all 2 _) _ hm
theorem lab_one_slip {str t : ByteArray} {a b a' b' : Int} {s s' : ByteArray} (h : IsLab str a b s) (h' : IsLab t a' b' s') (x y : List UInt8) (c d : UInt8) (e : str.data.toList = x ++ c :: y) (e' : t.data.toList = x ++ d :: y) : c = d := by
  have k1 := lab_one h; have k2 := lab_one h'
  have hi : x.length < str.data.toList.length := by rw [e]; simp
  have hi' : x.length < t.data.toList.length := by rw [e']; simp
  have c1 := lab_class h x.length hi
  have c2 := lab_class h' x.length hi'
  have g1 : str.data.toList[x.length] = c := by simp [e]
  have g2 : t.data.toList[x.length] = d := by simp [e']
  rw [g1] at c1; rw [g2] at c2
  rw [e] at k1; rw [e'] at k2
  refine one_slip x y c d ?_ (k1.trans k2.symm)
  rcases c1 with ⟨_, _, c1⟩ | ⟨n1, c1⟩ <;> rcases c2 with ⟨_, _, c2⟩ | ⟨n2, c2⟩
  · exact .inr ⟨c1, c2⟩
  · omega
  · omega
  · exact .inl ⟨c1, c2⟩
theorem lab_swap_slip {str t : ByteArray} {a b a' b' : Int} {s s' : ByteArray} (h : IsLab str a b s) (h' : IsLab t a' b' s') (x y : List UInt8) (c d : UInt8) (e : str.data.toList = x ++ c :: d :: y) (e' : t.data.toList = x ++ d :: c :: y) : c = d := by
  have k1 := lab_one h; have k2 := lab_one h'
  have hi : x.length < str.data.toList.length := by rw [e]; simp
  have hi' : x.length < t.data.toList.length := by rw [e']; simp
  have hj : x.length + 1 < str.data.toList.length := by rw [e]; simp
  have c1 := lab_class h x.length hi
  have c2 := lab_class h' x.length hi'
  have c3 := lab_class h (x.length + 1) hj
  have g1 : str.data.toList[x.length] = c := by simp [e]
  have g2 : t.data.toList[x.length] = d := by simp [e']
  have g3 : str.data.toList[x.length + 1] = d := by simp [e]
  rw [g1] at c1; rw [g2] at c2; rw [g3] at c3
  rw [e] at k1; rw [e'] at k2
  refine swap_slip x y c d ?_ (k1.trans k2.symm)
  rcases c1 with ⟨_, _, c1⟩ | ⟨n1, c1⟩ <;> rcases c2 with ⟨_, _, c2⟩ | ⟨n2, c2⟩
  · exact .inr ⟨c1, c2⟩
  · omega
  · omega
  · exact .inl ⟨c1, c2⟩
end Go.Proofs.YtphcjppdmdmejaaDoor

/- What a written label consists of; only one label is written so. No program. -/
import Derived.Test.YtichnpjpldkceaaDoorFLab
import Derived.Test.YtichnpjpldkceaaDoorPInt
namespace Go.Proofs.YtichnpjpldkceaaDoor
open Go.RowKit
theorem ba_ext {a b : ByteArray} (h : a.data.toList = b.data.toList) : a = b := by
  cases a with | mk a => cases b with | mk b => cases a; cases b; simp at h; rw [h]
theorem ext_list (s : ByteArray) (i j : Nat) : (s.extract i j).data.toList = (s.data.toList.drop i).take (j - i) := by
  rw [ByteArray.data_extract]; simp [List.extract_eq_take_drop]
theorem padL_len (w n : Nat) (h0 : 0 < w) (h : n < 10 ^ w) : (padL w n).length = w := by rw [← lowD_pad w n h0 h, lowD_len]
theorem one_dig (a : Int) (h : 1 ≤ a ∧ a ≤ 3) : (itoaS a).data.toList = [UInt8.ofNat (48 + a.toNat)] := by
  obtain ⟨m, rfl⟩ := Int.eq_ofNat_of_zero_le (show 0 ≤ a by omega)
  unfold itoaS
  rw [Lib.itoa_nonneg, dec_last m (by omega)]; rfl
theorem flab_list (a b : Int) (s : ByteArray) (h : labB a b s.data.toList = true) :
    (flab a b s).data.toList = UInt8.ofNat (48 + a.toNat) :: (padL 9 b.toNat ++ (s.data.toList ++ padL 2 (chk a b s).toNat)) := by
  obtain ⟨h1, h2, h3⟩ := lab_parts h
  unfold flab flabD bodyS
  rw [if_pos h]
  simp only [ByteArray.data_append, Array.toList_append, one_dig a h1]
  simp [padS]
/-- the parts of a written label -/
theorem flab_at {a b : Int} {s str : ByteArray} (h : labB a b s.data.toList = true) (he : (flab a b s).data.toList = str.data.toList) :
    str.data.toList.length = 15 ∧ str.data.toList.head? = some (UInt8.ofNat (48 + a.toNat)) ∧ (str.data.toList.drop 1).take 9 = padL 9 b.toNat ∧ (str.data.toList.drop 10).take 3 = s.data.toList ∧ str.data.toList.drop 13 = padL 2 (chk a b s).toNat := by
  obtain ⟨h1, h2, h3⟩ := lab_parts h
  have hc := chk_bd a b s h
  have l1 := padL_len 9 b.toNat (by omega) (by omega)
  have l2 := padL_len 2 (chk a b s).toNat (by omega) (by omega)
  have l3 : s.data.toList.length = 3 := by simpa using h3
  rw [← he, flab_list a b s h]
  generalize padL 9 b.toNat = p at *
  generalize padL 2 (chk a b s).toNat = q at *
  generalize s.data.toList = t at *
  refine ⟨by simp [l1, l2, l3], rfl, ?_, ?_, ?_⟩
  · simp [← l1]
  · have : (10 : Nat) = p.length + 1 := by omega
    rw [this, List.drop_succ_cons, List.drop_append_of_le_length (by omega)]
    simp [← l3]
  · have : (13 : Nat) = (p.length + t.length) + 1 := by omega
    rw [this, List.drop_succ_cons, ← List.append_assoc, ← List.length_append, List.drop_left]
theorem dVal_rep (k : Nat) (l : List UInt8) : dVal (List.replicate k 48 ++ l) = dVal l := by
  induction k with
  | zero => rfl
  | succ k ih =>
    rw [List.replicate_succ, List.cons_append]
    show (List.replicate k 48 ++ l).foldl (fun (a : Nat) (c : UInt8) => a * 10 + (c.toNat - 48)) 0 = _
    exact ih
theorem dVal_pad (w n : Nat) : dVal (padL w n) = n := by unfold padL; rw [dVal_rep, dVal_dec]
theorem padL_digs (w n : Nat) : ∀ c ∈ padL w n, 48 ≤ c.toNat ∧ c.toNat ≤ 57 := by
  intro c hc
  unfold padL at hc
  rw [List.mem_append] at hc
  rcases hc with hc | hc
  · rw [List.eq_of_mem_replicate hc]; decide
  · exact dec_digit n c hc
theorem parse_rep (k : Nat) (l : List UInt8) : Lib.parseUint10 0 (List.replicate k 48 ++ l) = Lib.parseUint10 0 l := by
  induction k with
  | zero => rfl
  | succ k ih =>
    rw [List.replicate_succ, List.cons_append, Lib.parseUint10]
    rw [if_pos (by decide), if_neg (by decide), if_neg (by decide)]
    exact ih
theorem atoi_pad (w n : Nat) (hw : 0 < w) (h10 : n < 10 ^ w) (hn : n ≤ 1000000000) : Lib.atoiAll (padL w n) = .ok n := by
  have hd := padL_digs w n
  have hp : Lib.parseUint10 0 (padL w n) = .ok n := by unfold padL; rw [parse_rep, parse_dec n hn]
  have hl := padL_len w n hw h10
  generalize padL w n = l at *
  match l, hl with
  | [], hl => simp at hl; omega
  | c :: r, _ =>
    have hc := hd c (by simp)
    simp only [Lib.atoiAll]
    rw [if_neg (by omega)]
    unfold Lib.parseMag
    rw [if_neg (by simp), hp]
    simp only
    rw [if_neg (by omega), if_neg (by omega), if_neg (by omega)]
theorem flab_inj {a b a' b' : Int} {s s' : ByteArray} (h : labB a b s.data.toList = true) (h' : labB a' b' s'.data.toList = true) (he : (flab a b s).data.toList = (flab a' b' s').data.toList) :
    a = a' ∧ b = b' ∧ s = s' := by
  obtain ⟨h1, h2, h3⟩ := lab_parts h
  obtain ⟨h1', h2', h3'⟩ := lab_parts h'
  obtain ⟨_, p1, p2, p3, _⟩ := flab_at h he
  obtain ⟨_, q1, q2, q3, _⟩ := flab_at h' rfl
  rw [q1] at p1; rw [q2] at p2; rw [q3] at p3
  refine ⟨?_, ?_, ba_ext p3.symm⟩
  · have := congrArg UInt8.toNat (Option.some.inj p1)
    rw [UInt8.toNat_ofNat', UInt8.toNat_ofNat', Nat.mod_eq_of_lt (by omega), Nat.mod_eq_of_lt (by omega)] at this
    omega
  · have hv := congrArg dVal p2
    rw [dVal_pad, dVal_pad] at hv
    omega
end Go.Proofs.YtichnpjpldkceaaDoor

/- Cutting and splitting a text at one character. -/
import Derived.Test.YtichnpjpldkceaaDoorSplit
import Derived.Test.YtichnpjpldkceaaDoorMinu
import Derived.Lib.IndexMore
namespace Go.Proofs.YtichnpjpldkceaaDoor
open Go.RowKit
def cut1 (c : UInt8) : List UInt8 → List UInt8 × List UInt8 × Bool
  | [] => ([], [], false)
  | b :: r => if b = c then ([], r, true) else (b :: (cut1 c r).1, (cut1 c r).2.1, (cut1 c r).2.2)
theorem cut_one (c : UInt8) : ∀ l, Lib.cut l [c] = cut1 c l
  | [] => rfl
  | b :: r => by
    have ih := cut_one c r
    have hge := Lib.index_ge r [c]
    by_cases h : b = c
    · subst h
      have e : Lib.index (b :: r) [b] = 0 := by unfold Lib.index; simp [List.isPrefixOf]
      unfold Lib.cut cut1
      rw [e, if_pos (by omega), if_pos rfl]; rfl
    · have hp : [c].isPrefixOf (b :: r) = false := by simp [List.isPrefixOf, Ne.symm h]
      unfold Lib.cut at ih ⊢
      unfold cut1
      rw [if_neg h, ← ih]
      by_cases hn : 0 ≤ Lib.index r [c]
      · have e : Lib.index (b :: r) [c] = Lib.index r [c] + 1 := by
          conv => lhs; unfold Lib.index
          rw [hp]
          have : (Lib.index r [c] == -1) = false := by simp; omega
          simp [this]
        rw [e, if_pos (by omega), if_pos hn]
        obtain ⟨i, hi⟩ := Int.eq_ofNat_of_zero_le hn
        rw [hi]
        have : ((i : Int) + 1).toNat = i + 1 := by omega
        rw [this, Int.toNat_natCast, List.take_succ_cons, show i + 1 + [c].length = (i + [c].length) + 1 by omega, List.drop_succ_cons]
      · have e : Lib.index (b :: r) [c] = -1 := by
          conv => lhs; unfold Lib.index
          rw [hp]
          have : (Lib.index r [c] == -1) = true := by simp; omega
          simp [this]
        rw [e, if_neg (by omega), if_neg hn]
theorem cut1_at (c : UInt8) (r : List UInt8) : ∀ a : List UInt8, (∀ x ∈ a, x ≠ c) → cut1 c (a ++ c :: r) = (a, r, true)
  | [], _ => by simp [cut1]
  | b :: a, h => by
    have ih := cut1_at c r a (fun x hx => h x (List.mem_cons_of_mem _ hx))
    rw [List.cons_append, cut1, if_neg (h b List.mem_cons_self), ih]
theorem cut1_join (c : UInt8) : ∀ l, (cut1 c l).2.1 ≠ [] → l = (cut1 c l).1 ++ c :: (cut1 c l).2.1
  | [], h => absurd rfl h
  | b :: r, h => by
    unfold cut1 at h ⊢
    by_cases hb : b = c
    · rw [if_pos hb]; simp [hb]
    · rw [if_neg hb] at h ⊢
      have ih := cut1_join c r h
      simp only [List.cons_append]
      congr 1
theorem spl_last (c : UInt8) : ∀ (a cur : List UInt8), (∀ x ∈ a, x ≠ c) → spl c cur a = [cur ++ a]
  | [], cur, _ => by simp [spl]
  | b :: a, cur, h => by
    rw [spl, if_neg (h b List.mem_cons_self), spl_last c a _ (fun x hx => h x (List.mem_cons_of_mem _ hx))]; simp
theorem spl_at (c : UInt8) (r : List UInt8) : ∀ (a cur : List UInt8), (∀ x ∈ a, x ≠ c) → spl c cur (a ++ c :: r) = (cur ++ a) :: splitL c r
  | [], cur, _ => by simp [spl, splitL]
  | b :: a, cur, h => by
    rw [List.cons_append, spl, if_neg (h b List.mem_cons_self), spl_at c r a _ (fun x hx => h x (List.mem_cons_of_mem _ hx))]; simp
def joinL (c : UInt8) : List (List UInt8) → List UInt8
  | [] => []
  | [x] => x
  | x :: y :: r => x ++ c :: joinL c (y :: r)
theorem spl_ne (c : UInt8) : ∀ (l cur : List UInt8), spl c cur l ≠ []
  | [], _ => by simp [spl]
  | b :: l, cur => by
    rw [spl]
    split
    · simp
    · exact spl_ne c l _
theorem spl_join (c : UInt8) : ∀ (l cur : List UInt8), joinL c (spl c cur l) = cur ++ l
  | [], cur => by simp [spl, joinL]
  | b :: l, cur => by
    rw [spl]
    split
    · rename_i h
      have ih := spl_join c l []
      cases hs : spl c [] l with
      | nil => exact absurd hs (spl_ne c l [])
      | cons y r =>
        rw [hs] at ih
        rw [joinL, ih, h]; rfl
    · rw [spl_join c l]; simp
theorem split_join (c : UInt8) (l : List UInt8) : joinL c (splitL c l) = l := spl_join c l []
theorem dec_no (n : Nat) (c : UInt8) (h : c.toNat < 48) : ∀ x ∈ Lib.decDigits n, x ≠ c := fun x hx e => by
  subst e
  have := dec_digit n x hx
  omega
theorem clk_no (m : Int) (h : 0 ≤ m ∧ m ≤ 1439) : ∀ x ∈ (clk m).data.toList, x ≠ 32 := by
  rw [clk_list]
  have e : ∀ n, n < 100 → ∀ x ∈ padL 2 n, x ≠ 32 := fun n hn x hx e => by
    subst e
    unfold padL at hx
    rcases List.mem_append.1 hx with h | h
    · have := (List.mem_replicate.1 h).2
      exact absurd this (by decide)
    · exact dec_no n 32 (by decide) _ h rfl
  intro x hx
  rcases List.mem_append.1 hx with h1 | h1
  · exact e _ (by omega) x h1
  · rcases List.mem_cons.1 h1 with rfl | h1
    · decide
    · exact e _ (by omega) x h1
/-- the text of this time -/
def IsT (s : List UInt8) (t : Int) : Prop := (0 ≤ t ∧ t ≤ 100000) ∧ (timeS t).data.toList = s
theorem time_list (t : Int) (h : 0 ≤ t) : (timeS t).data.toList = Lib.decDigits (t / 1440).toNat ++ 32 :: (clk (t % 1440)).data.toList := by
  unfold timeS
  simp only [ByteArray.data_append, Array.toList_append]
  obtain ⟨n, hn⟩ := Int.eq_ofNat_of_zero_le (show 0 ≤ t / 1440 by omega)
  unfold itoaS
  rw [hn, Lib.itoa_nonneg]
  simp
/-- a day and a minute that are written so -/
theorem isT_of {a b : List UInt8} {n : Nat} {m : Int} {s : ByteArray} (ha : IsNum a n) (hb : IsClk s m) (hs : s.data.toList = b) (hm : (n : Int) * 1440 + m ≤ 100000) : IsT (a ++ 32 :: b) (n * 1440 + m) := by
  obtain ⟨h0, h1⟩ := hb
  refine ⟨by omega, ?_⟩
  rw [time_list _ (by omega), show ((n : Int) * 1440 + m) / 1440 = n by omega, show ((n : Int) * 1440 + m) % 1440 = m by omega, Int.toNat_natCast, ha.2, h1, hs]
theorem isT_parts {s : List UInt8} {t : Int} (h : IsT s t) :
    splitL 32 s = [Lib.decDigits (t / 1440).toNat, (clk (t % 1440)).data.toList] ∧ cut1 32 s = (Lib.decDigits (t / 1440).toNat, (clk (t % 1440)).data.toList, true) ∧
    IsNum (Lib.decDigits (t / 1440).toNat) (t / 1440).toNat := by
  obtain ⟨h0, h1⟩ := h
  rw [time_list _ h0.1] at h1
  rw [← h1]
  have hd := dec_no (t / 1440).toNat 32 (by decide)
  refine ⟨?_, cut1_at _ _ _ hd, by omega, rfl⟩
  unfold splitL
  rw [spl_at _ _ _ _ hd]
  unfold splitL
  rw [spl_last _ _ _ (clk_no _ (by omega))]; rfl
theorem isT_inj {s : List UInt8} {t u : Int} (h : IsT s t) (h' : IsT s u) : t = u := by
  obtain ⟨e1, _, _⟩ := isT_parts h
  obtain ⟨e2, _, _⟩ := isT_parts h'
  rw [e1] at e2
  injection e2 with e3 e4
  injection e4 with e4 _
  have d := dec_inj e3
  have c1 : IsClk (clk (u % 1440)) (t % 1440) := ⟨by have := h.1; omega, e4⟩
  have c2 : IsClk (clk (u % 1440)) (u % 1440) := ⟨by have := h'.1; omega, rfl⟩
  obtain ⟨_, a1, b1⟩ := isClk_at c1
  obtain ⟨_, a2, b2⟩ := isClk_at c2
  rw [a1] at a2
  rw [b1] at b2
  injection a2 with a2
  injection b2 with b2
  have := h.1
  have := h'.1
  omega
def PTime (s : ByteArray) (e : Ending) : Prop := (∃ t : Int, IsT s.data.toList t ∧ e = .returned (.tuple #[.int .i64 t, .bool true])) ∨ ((∀ t, ¬ IsT s.data.toList t) ∧ e = .returned (.tuple #[.int .i64 0, .bool false]))
theorem pTime_eq {s : ByteArray} {e e' : Ending} (h : PTime s e) (h' : PTime s e') : e = e' := by
  rcases h with ⟨t, h, rfl⟩ | ⟨h, rfl⟩
  · rcases h' with ⟨u, h', rfl⟩ | ⟨h', rfl⟩
    · rw [isT_inj h h']
    · exact absurd h (h' t)
  · rcases h' with ⟨u, h', rfl⟩ | ⟨h', rfl⟩
    · exact absurd h' (h u)
    · rfl
end Go.Proofs.YtichnpjpldkceaaDoor

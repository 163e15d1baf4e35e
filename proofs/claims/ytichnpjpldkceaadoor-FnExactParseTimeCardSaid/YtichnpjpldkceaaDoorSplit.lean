/- The contract of spec.l2Split: the parts of a text between the places of one character. -/
import Derived.Test.YtichnpjpldkceaaDoorStrs
import Derived.Test.YtichnpjpldkceaaDoorPLMath
import Derived.Deep.AppendLies
namespace Go.Proofs.YtichnpjpldkceaaDoor
open Go.RowKit
/-- the parts of a list, the first of which has begun -/
def spl (c : UInt8) : List UInt8 → List UInt8 → List (List UInt8)
  | cur, [] => [cur]
  | cur, b :: r => if b = c then cur :: spl c [] r else spl c (cur ++ [b]) r
def splitL (c : UInt8) (l : List UInt8) : List (List UInt8) := spl c [] l
def lists (l : List ByteArray) : List (List UInt8) := l.map fun x => x.data.toList
theorem lists_app (a b : List ByteArray) : lists (a ++ b) = lists a ++ lists b := by simp [lists]
theorem ext_snoc (s : ByteArray) (f k : Nat) (hf : f ≤ k) (hk : k < s.size) : (s.extract f (k + 1)).data.toList = (s.extract f k).data.toList ++ [s[k]] := by
  rw [ext_list, ext_list, show k + 1 - f = (k - f) + 1 by omega, List.take_add_one, List.getElem?_drop, show f + (k - f) = k by omega, List.getElem?_eq_getElem (by simpa using hk)]
  rfl
theorem ext_none (s : ByteArray) (f : Nat) : (s.extract f f).data.toList = [] := by rw [ext_list]; simp
theorem drop_at (s : ByteArray) (k : Nat) (hk : k < s.size) : s.data.toList.drop k = s[k] :: s.data.toList.drop (k + 1) := by
  rw [List.drop_eq_getElem_cons (by simpa using hk)]; rfl
set_option maxRecDepth 100000 in
set_option maxHeartbeats 2000000 in
theorem split_spec (s : ByteArray) (c : UInt8) (w : World) (hs : s.size ≤ 1048576) :
    Calls Tryd.prog 41 #[.string s, .int .u8 c.toNat] w fun e w' => (∃ v l, e = .returned v ∧ OwnStr w' w.heap.size v l ∧ lists l = splitL c s.data.toList ∧ ∀ x ∈ l, x.size ≤ 1048576) ∧ Below w.heap.size w w' := by
  obtain ⟨i0, hi0, hz0, hz1, hz2⟩ := info_parts str_info
  go_enter Tryd.func41, Tryd.ntmps41
  go_wp2
  go_loopw [5, 6, 7] (fun v f i wr => ∃ k g : Nat, ∃ l : List ByteArray, k ≤ s.size ∧ g ≤ k ∧ i = .int .i64 k ∧ f = .int .i64 g ∧ OwnStr wr w.heap.size v l ∧ l.length ≤ k ∧ (∀ x ∈ l, x.size ≤ 1048576) ∧ lists l ++ spl c (s.extract g k).data.toList (s.data.toList.drop k) = splitL c s.data.toList ∧ Below w.heap.size w wr) (fun _ _ i _ => s.size - (intOf i).toNat)
  case atStart => exact ⟨0, 0, [], by omega, by omega, rfl, rfl, own_new w, by simp, by simp, by rw [ext_none]; rfl, (Below.refl _ _).alloc (Nat.le_refl _) _⟩
  case round =>
    obtain ⟨k, g, l, hk, hg, rfl, rfl, hown, hll, hlx, hsp, hb1⟩ := hrel
    have HO := Lib.hid hown
    have HX := Lib.hid hlx; clear hlx
    have hx1 : (s.extract g k).size ≤ 1048576 := by rw [ByteArray.size_extract]; omega
    by_cases hks : k < s.size
    · rw [drop_at s k hks, spl] at hsp
      by_cases hc : s[k] = c
      · rw [if_pos hc] at hsp
        have hq : ((s[k].toNat : Int) == (c.toNat : Int)) = true := by rw [hc]; simp
        have HS := Lib.hid hsp; clear hsp hc
        have hc3 : l.length + 1 ≤ maxLen := by unfold maxLen; omega
        have hc4 : (l.length + 1) * 16 ≤ 140737488355328 := by omega
        have hsz := hb1.size
        have hc5 : w.heap.size ≤ (wr.alloc (.cells #[.string (s.extract g k)] 9)).heap.size := by simp; omega
        have HT := Lib.hid (show (s.extract g k).data.toList = (s.extract g k).data.toList from rfl)
        generalize hte : s.extract g k = t at *
        unfold OwnStr at hown
        go_wp2_with (at_builtin; refine wpList_append_own _ rfl (.tmp 20) (.tmp 25) 57 rfl w.heap.size 9 i0 _ 1 16 Tryd.underlying57 hi0 hz0 hz1 hz2 rfl (by omega) _ _ _ rfl (hown.alloc _) ⟨wr.heap.size, 0, none⟩ 1 1 (strV [t]) rfl rfl (str_news wr t) (one_str t) hc3 hc4 hc5 ?_; intro v' w4 hown' hg' _)
        go_roundw
        case rel =>
          refine ⟨k + 1, k + 1, l ++ [t], by omega, by omega, by go_num, by go_num, ?_, by simp; omega, ?_, ?_, (hb1.alloc hsz _).grown hg' hc5 (fun g h => (hown.lt g h).1)⟩
          · unfold OwnStr
            rw [strV_app, List.length_append]
            exact hown'
          · intro x hx
            rcases List.mem_append.1 hx with h | h
            · exact HX.out x h
            · obtain rfl := List.mem_singleton.1 h; exact hx1
          · rw [lists_app, List.append_assoc, ext_none]
            exact HS.out
        case measure => simp [intOf]; omega
      · rw [if_neg hc, ← ext_snoc s g k hg hks] at hsp
        have hq : ((s[k].toNat : Int) == (c.toNat : Int)) = false := by
          simp only [beq_eq_false_iff_ne, ne_eq]
          exact fun h => hc (UInt8.toNat_inj.1 (by omega))
        have HS := Lib.hid hsp; clear hsp hc hown
        go_wp2
        go_roundw
        case rel => exact ⟨k + 1, g, l, by omega, by omega, by go_num, rfl, HO.out, by omega, HX.out, HS.out, hb1⟩
        case measure => simp [intOf]; omega
    · obtain rfl : k = s.size := by omega
      have HS := Lib.hid (show lists l ++ [(s.extract g s.size).data.toList] = splitL c s.data.toList by rw [← hsp, show s.data.toList.drop s.size = [] by simp]; rfl)
      clear hsp
      have hc3 : l.length + 1 ≤ maxLen := by unfold maxLen; omega
      have hc4 : (l.length + 1) * 16 ≤ 140737488355328 := by omega
      have hsz := hb1.size
      have hc5 : w.heap.size ≤ (wr.alloc (.cells #[.string (s.extract g s.size)] 9)).heap.size := by simp; omega
      generalize hte : s.extract g s.size = t at *
      unfold OwnStr at hown
      go_wp2_with (at_builtin; refine wpList_append_own _ rfl (.tmp 29) (.tmp 33) 57 rfl w.heap.size 9 i0 _ 1 16 Tryd.underlying57 hi0 hz0 hz1 hz2 rfl (by omega) _ _ _ rfl (hown.alloc _) ⟨wr.heap.size, 0, none⟩ 1 1 (strV [t]) rfl rfl (str_news wr t) (one_str t) hc3 hc4 hc5 ?_; intro v' w4 hown' hg' _)
      go_ret
      refine ⟨⟨_, l ++ [t], rfl, ?_, by rw [lists_app]; exact HS.out, ?_⟩, (hb1.alloc hsz _).grown hg' hc5 (fun g h => (hown.lt g h).1)⟩
      · unfold OwnStr
        rw [strV_app, List.length_append]
        exact hown'
      · intro x hx
        rcases List.mem_append.1 hx with h | h
        · exact HX.out x h
        · obtain rfl := List.mem_singleton.1 h; exact hx1
end Go.Proofs.YtichnpjpldkceaaDoor

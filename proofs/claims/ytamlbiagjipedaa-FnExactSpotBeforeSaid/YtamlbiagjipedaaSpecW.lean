/- Contracts of spec.l4Index, l4Ready, l4First. -/
import Derived.Test.YtamlbiagjipedaaCopyI
import Derived.Test.YtamlbiagjipedaaArrR
import Derived.Test.YtamlbiagjipedaaMax
namespace Go.Proofs.Ytamlbiagjipedaa
open Go.RowKit
/-- texts that can be read, from the head of a block on -/
def StrsIn (w : World) (A : Option Addr) (l : List ByteArray) : Prop := ∀ j (hj : j < l.length), ∃ g, A = some ⟨g, 0, none⟩ ∧ g < w.heap.size ∧ w.cell? ⟨g, j, none⟩ = some (.string l[j])
theorem StrsIn.below {w w' : World} {A : Option Addr} {l : List ByteArray} (h : StrsIn w A l) (hb : Below w.heap.size w w') : StrsIn w' A l := by
  intro j hj
  obtain ⟨g, h1, h2, h3⟩ := h j hj
  exact ⟨g, h1, Nat.lt_of_lt_of_le h2 hb.size, by rw [← h3]; exact hb.cell h2⟩
theorem own_strs {w : World} {b : Nat} {v : Value} {l : List ByteArray} (h : OwnStr w b v l) : ∃ (A : Option Addr) (cap : Nat), v = .slice A l.length cap ∧ StrsIn w A l := by
  by_cases h0 : l = []
  · subst h0
    obtain ⟨A, cap, rfl⟩ := own_empty h
    exact ⟨A, cap, rfl, fun j hj => by simp at hj⟩
  · obtain ⟨g, cap, rfl, h1, h2⟩ := own_slice h h0
    refine ⟨_, cap, rfl, fun j hj => ⟨g, rfl, h2, ?_⟩⟩
    have := own_getD h j hj
    rw [Nat.zero_add] at this
    rw [this]; simp [List.getD, hj]
set_option maxRecDepth 100000 in
set_option maxHeartbeats 1000000 in
theorem index_spec (A : Option Addr) (ca : Nat) (l : List ByteArray) (p : ByteArray) (w : World) (hA : StrsIn w A l) (hl : l.length ≤ 4000000) :
    Calls Try.prog 35 #[.slice A l.length ca, .string p] w fun e w' => e = .returned (.int .i64 (idxI l p)) ∧ w' = w := by
  have HA := Lib.hid hA; clear hA
  generalize hR : idxI l p = R
  have HR := Lib.hid hR; clear hR
  go_enter Try.func35, Try.ntmps35
  go_wp2
  go_loop [5] (fun i => ∃ k : Nat, k ≤ l.length ∧ i = .int .i64 k ∧ Hid (∀ j (_ : j < l.length), j < k → l[j] ≠ p)) (fun i => l.length - (intOf i).toNat)
  case atStart => exact ⟨0, Nat.zero_le _, rfl, Lib.hid (fun j _ h => by omega)⟩
  case round =>
    obtain ⟨k, hk, rfl, hd⟩ := hrel
    by_cases hlt : (k : Int) < (l.length : Int)
    · have hkn : k < l.length := by omega
      obtain ⟨g, rfl, hg, c0⟩ := HA.out k hkn
      by_cases h1 : l[k] = p
      · have HN := Lib.hid (idx_hit hkn (fun j hj => hd.out j (by omega) hj) h1)
        have hq := str_eq h1
        clear h1
        generalize l[k] = y at *
        go_wp2
        go_ret
        exact ⟨ret_int (HN.out.symm.trans HR.out), rfl⟩
      · have hq := str_ne h1
        have HN := Lib.hid h1
        clear h1
        obtain ⟨y, hy⟩ : ∃ y, y = l[k] := ⟨_, rfl⟩
        rw [← hy] at c0 hq
        clear hy
        go_wp2
        go_round
        case rel => exact ⟨k + 1, by omega, by go_num, Lib.hid (fun j hj hjk => by
          by_cases e : j = k
          · subst e; exact HN.out
          · exact hd.out j hj (by omega))⟩
        case measure => simp [intOf]; omega
    · go_wp2
      go_ret
      exact ⟨ret_int ((idx_none (fun hm => by
        obtain ⟨j, hj, e⟩ := List.getElem_of_mem hm
        exact hd.out j hj (by omega) e)).symm.trans HR.out), rfl⟩
set_option maxRecDepth 100000 in
set_option maxHeartbeats 1000000 in
theorem ready_spec (v0 v1 : Value) (x a : Int) (first : Bool) (w : World) (hx : 0 ≤ x ∧ x ≤ 240) (ha : -1 ≤ a ∧ a ≤ 100000) :
    Calls Try.prog 67 #[.agg #[v0, v1, .int .i64 x], .int .i64 a, .bool first] w fun e w' => e = .returned (.int .i64 (if first then a else a + x)) ∧ Below w.heap.size w w' := by
  have hB := Box3.new (T := 32) (v0 := v0) (v1 := v1) (v2 := .int .i64 x) w
  have hb0 := (Below.refl w.heap.size w).alloc (Nat.le_refl _) (.cells #[v0, v1, .int .i64 x] 32)
  obtain ⟨b0, b1, b2⟩ := hB.cells
  clear hB
  cases first with
  | true =>
    go_enter Try.func67, Try.ntmps67
    go_wp2
    go_ret
    exact ⟨rfl, hb0⟩
  | false =>
    go_enter Try.func67, Try.ntmps67
    go_wp2
    go_ret
    exact ⟨rfl, hb0⟩
theorem initT_map (pl : List ByteArray) (hn : pl.Nodup) (k : Nat) (hk : k < pl.length) (a : Int) (j : Nat) (hj : j < pl.length) : ((initT pl[k] a) pl[j]).getD (-1) = if j = k then a else -1 := by
  unfold initT
  by_cases e : j = k
  · subst e; rw [if_pos rfl, if_pos rfl]; rfl
  · rw [if_neg e, if_neg (fun h => e ((List.getElem_inj hn).1 h))]; rfl
/-- the first k times of a list in which one place has a time -/
def firstL (f : Nat) (a : Int) (k : Nat) : List Int := (List.range k).map fun j => if j = f then a else -1
theorem firstL_succ (f : Nat) (a : Int) (k : Nat) : firstL f a (k + 1) = firstL f a k ++ [if k = f then a else -1] := by simp [firstL, List.range_succ]
theorem firstL_len (f : Nat) (a : Int) (k : Nat) : (firstL f a k).length = k := by simp [firstL]
theorem firstL_all {pl : List ByteArray} (hn : pl.Nodup) {k : Nat} (hk : k < pl.length) (a : Int) : firstL k a pl.length = listT pl (initT pl[k] a) := by
  refine List.ext_getElem (by simp [firstL, listT_len]) fun j h1 h2 => ?_
  rw [listT_get, initT_map pl hn k hk a j (by simpa [firstL] using h1)]
  simp [firstL]
set_option maxRecDepth 100000 in
set_option maxHeartbeats 2000000 in
theorem first_spec (A : Option Addr) (ca n : Nat) (f : Nat) (at_ : Int) (w : World) (hn : n ≤ 4000000) :
    Calls Try.prog 64 #[.slice A n ca, .int .i64 (f : Int), .int .i64 at_] w fun e w' => ∃ v, e = .returned v ∧ OwnI w' w.heap.size v (firstL f (max at_ 0) n) ∧ Below w.heap.size w w' := by
  obtain ⟨i0, hi0, hz0, hz1, hz2⟩ := info_parts int_info
  have HMX := Lib.hid (fun W => max_spec at_ 0 W)
  generalize max at_ 0 = a at *
  have hb0 := (Below.refl w.heap.size w).alloc (Nat.le_refl _) (.cells #[] 3)
  have ho0 := ownI_new w
  go_enter Try.func64, Try.ntmps64
  go_wp2
  have hB : w.heap.size < (w.alloc (.cells #[] 3)).heap.size := by simp
  obtain ⟨V0, hV0⟩ : ∃ V0 : Value, V0 = .slice (some ⟨w.heap.size, 0, none⟩) 0 0 := ⟨_, rfl⟩
  rw [← hV0] at ho0 ⊢
  clear hV0
  generalize w.alloc (.cells #[] 3) = W at *
  go_loopw [7, 8] (fun v i wr => ∃ k : Nat, k ≤ n ∧ i = .int .i64 k ∧ OwnI wr w.heap.size v (firstL f a k) ∧ Below w.heap.size w wr) (fun _ i _ => n - (intOf i).toNat)
  case atStart => exact ⟨0, Nat.zero_le _, rfl, ho0, hb0⟩
  case round =>
    clear ho0 hb0 hB
    obtain ⟨k, hk, rfl, ho, hb⟩ := hrel
    have hbz := hb.size
    have hfl := firstL_len f a k
    have HO := Lib.hid ho
    unfold OwnI at ho
    rw [hfl] at ho
    have hlt' := fun g h => (HO.out.lt g h).1
    by_cases hlt : (k : Int) < (n : Int)
    · by_cases hkf : k = f
      · have HF := Lib.hid (show firstL f a (k + 1) = firstL f a k ++ [a] by rw [firstL_succ, if_pos hkf])
        have hkf' : (k : Int) = (f : Int) := by omega
        clear hkf
        go_wp2_with fail
        refine (HMX.out _).mono ?_; rintro e w1 ⟨rfl, rfl⟩
        go_wp2_with (at_builtin; refine wpList_append_own _ rfl _ _ 23 rfl w.heap.size 3 i0 _ 1 8 Try.underlying23 hi0 hz0 hz1 hz2 rfl (by decide) _ k (intV (firstL f a k)) rfl (ho.alloc _) ⟨w1.heap.size, 0, none⟩ 1 1 (intV [a]) rfl rfl (int_news _ _) (one_int _) (by unfold maxLen; omega) (by omega) (by simp; omega) ?_; intro v' w2 hown' hgr hnil)
        go_roundw
        case rel => exact ⟨k + 1, by omega, by go_num, by rw [HF.out]; exact ownI_push hown' hfl, (hb.alloc hbz _).grown hgr (by simp; omega) hlt'⟩
        case measure => simp [intOf]; omega
      · have HF := Lib.hid (show firstL f a (k + 1) = firstL f a k ++ [-1] by rw [firstL_succ, if_neg hkf])
        have hkf' : ¬ (k : Int) = (f : Int) := by omega
        clear hkf
        go_wp2_with (at_builtin; refine wpList_append_own _ rfl _ _ 23 rfl w.heap.size 3 i0 _ 1 8 Try.underlying23 hi0 hz0 hz1 hz2 rfl (by decide) _ k (intV (firstL f a k)) rfl (ho.alloc _) ⟨wr.heap.size, 0, none⟩ 1 1 (intV [-1]) rfl rfl (int_news _ _) (one_int _) (by unfold maxLen; omega) (by omega) (by simp; omega) ?_; intro v' w2 hown' hgr hnil)
        go_roundw
        case rel => exact ⟨k + 1, by omega, by go_num, by rw [HF.out]; exact ownI_push hown' hfl, (hb.alloc hbz _).grown hgr (by simp; omega) hlt'⟩
        case measure => simp [intOf]; omega
    · obtain rfl : k = n := by omega
      go_wp2
      go_ret
      exact ⟨_, rfl, HO.out, hb⟩
end Go.Proofs.Ytamlbiagjipedaa

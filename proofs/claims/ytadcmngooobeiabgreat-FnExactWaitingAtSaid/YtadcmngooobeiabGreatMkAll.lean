/- Several texts in one: DecM Conv1 Mark MarkN ScanMkW MkOr SzS MkWor. -/
import Derived.Test.YtadcmngooobeiabGreatBa
import Derived.Lib.ItoaLen
import Derived.Deep.RegionWith
import Derived.Deep.RegionHeld3
import Derived.Laws.OwnMore
import Derived.WalkKit
import Derived.Test.YtadcmngooobeiabGreatBb
import Derived.Test.YtadcmngooobeiabGreatBc
import Derived.Test.YtadcmngooobeiabGreatBg
import Derived.Test.YtadcmngooobeiabGreatMkB
import Derived.BigQuiet
import Derived.Test.YtadcmngooobeiabGreatWor
import Derived.Test.YtadcmngooobeiabGreatTripMk
import Derived.Deep.Cut
import Derived.Test.YtadcmngooobeiabGreatBookingMk
/- Decimal numerals, digit by digit. No program. -/
namespace Go.Proofs.YtadcmngooobeiabGreat
open Go.RowKit
theorem ret_str' {a b : ByteArray} (h : a = b) : Ending.returned (.string a) = .returned (.string b) := by rw [h]
theorem dec_step (m : Nat) (h : 10 ≤ m) : Lib.decDigits m = Lib.decDigits (m / 10) ++ [UInt8.ofNat (48 + m % 10)] := by
  rw [Lib.decDigits, dif_neg (by omega)]
theorem dec_last (m : Nat) (h : m < 10) : Lib.decDigits m = [UInt8.ofNat (48 + m)] := by rw [Lib.decDigits, dif_pos h]
theorem byte_sum (k : Nat) : UInt8.ofNat (48 + k) = 48 + UInt8.ofNat k := by simp [UInt8.ofNat_add]
/-- what is still to be written ahead of S -/
def decTail (m : Nat) : List UInt8 := if m = 0 then [] else Lib.decDigits m
theorem tail_step (m : Nat) (h : m ≠ 0) : decTail m = decTail (m / 10) ++ [UInt8.ofNat (48 + m % 10)] := by
  unfold decTail
  rw [if_neg h]
  by_cases h10 : m < 10
  · rw [if_pos (by omega), dec_last m h10, Nat.mod_eq_of_lt h10]; rfl
  · rw [if_neg (by omega), dec_step m (by omega)]
end Go.Proofs.YtadcmngooobeiabGreat

/- string([]byte{x}). -/
namespace Go.Proofs.YtadcmngooobeiabGreat
open Go.RowKit
/-- string([]byte{x}), the literal's row just laid -/
theorem conv_one (W : World) (x : Int) (h0 : 0 ≤ x) (h1 : x ≤ 255) :
    (convert 139 9 (.slice (some ⟨W.heap.size, 0, none⟩) 1 1)).run Tryz.prog (W.alloc (.cells #[.int .u8 x] 5)) = .ok (.string ⟨#[UInt8.ofNat x.toNat]⟩) (W.alloc (.cells #[.int .u8 x] 5)) := by
  have h := run_convert_bytes_back (P := Tryz.prog) (W.alloc (.cells #[.int .u8 x] 5)) 139 9 5 ⟨W.heap.size, 0, none⟩ 1 [UInt8.ofNat x.toNat] Tryz.underlying139 Tryz.underlying5 Tryz.underlying9 (by
    intro j hj
    obtain rfl : j = 0 := by simpa using hj
    have e : ((UInt8.ofNat x.toNat).toNat : Int) = x := by
      rw [UInt8.toNat_ofNat', Nat.mod_eq_of_lt (by simp; omega)]; omega
    have := cell_of_row (W.alloc (.cells #[.int .u8 x] 5)) W.heap.size 0 _ _ (0, 0) (heap_alloc_new W _)
    simp only [Addr.add, if_true]
    rw [this]
    simp only [List.getElem_cons_zero, e]; rfl)
  exact h
end Go.Proofs.YtadcmngooobeiabGreat

/- The laws' marks on a slice of texts, and the test that two slices of texts are alike. -/
namespace Go.Proofs.YtadcmngooobeiabGreat
open Go.RowKit
def mtxt (k : Nat) : ByteArray := ⟨#[109]⟩ ++ ⟨(Lib.itoa k).toArray⟩
def mks (k n : Nat) : List ByteArray := (List.range n).map fun i => mtxt (k + i)
theorem mks_len (k0 j : Nat) (l : List ByteArray) (hj : j ≤ l.length) : (mks k0 j ++ l.drop j).length = l.length := by simp [mks]; omega
theorem mks_set (k0 j : Nat) (l : List ByteArray) (hj : j < l.length) : strV (mks k0 (j + 1) ++ l.drop (j + 1)) = (strV (mks k0 j ++ l.drop j)).set j (.string (mtxt (k0 + j))) := by
  have e : l.drop j = l[j] :: l.drop (j + 1) := List.drop_eq_getElem_cons hj
  have hl : (mks k0 j).length = j := by simp [mks]
  rw [e]
  simp only [strV, List.map_append, List.map_cons]
  rw [List.set_append_right _ _ (by simp [hl])]
  simp [mks, List.range_succ]
set_option maxRecDepth 100000 in
set_option maxHeartbeats 400000 in
theorem mark_text (n : Nat) (w : World) (h0 : 0 < n) (h1 : n ≤ 9223372036854775807) :
    Calls Tryz.prog 74 #[.int .i64 n] w fun e w' => e = .returned (.string (mtxt n)) ∧ Below w.heap.size w w' := by
  have hneg : ¬ ((n : Int) ≤ 0) := by omega
  go_enter Tryz.func74, Tryz.ntmps74
  go_wp2
  go_loopw [3, 0] (fun s x wr => ∃ (m : Nat) (l : List UInt8), m ≤ n ∧ x = .int .i64 m ∧ s = .string ⟨l.toArray⟩ ∧ decTail m ++ l = Lib.decDigits n ∧ Below w.heap.size w wr) (fun _ x _ => (intOf x).toNat)
  case atStart => exact ⟨n, [], Nat.le_refl _, rfl, rfl, by unfold decTail; rw [if_neg (by omega), List.append_nil], Below.refl _ _⟩
  case round =>
    obtain ⟨m, l, hm, rfl, rfl, hl, hb⟩ := hrel
    have HL := Lib.hid hl; clear hl
    have hll : ¬ 9223372036854775807 < 1 + l.length := by
      have h2 := congrArg List.length HL.out
      have h3 := Lib.itoa_length_le n (by omega) (by omega)
      rw [Lib.itoa_nonneg] at h3
      simp only [List.length_append] at h2
      omega
    by_cases hm0 : m = 0
    · subst hm0
      have hmb : ¬ ((0 : Int) < ((0 : Nat) : Int)) := by omega
      go_wp2
      go_ret
      exact ⟨ret_str' (by have := HL.out; simp only [decTail, if_true, List.nil_append] at this; rw [this]; unfold mtxt; rw [Lib.itoa_nonneg]), hb⟩
    · have hmb : (0 : Int) < m := by omega
      have hm1 : (0 : Int) ≤ m := by omega
      have hm2 : (m : Int) ≤ 9223372036854775807 := by omega
      have kc := conv_one wr (48 + (m : Int) % 10) (by omega) (by omega)
      go_wp2
      go_roundw
      case rel =>
        refine ⟨m / 10, UInt8.ofNat (48 + m % 10) :: l, by omega, by go_num, ?_, ?_, hb.alloc hb.size _⟩
        · refine congrArg Value.string ?_
          rw [byte_sum]; rfl
        · have := HL.out
          rw [tail_step m hm0] at this
          simpa using this
      case measure => simp [intOf]; omega
end Go.Proofs.YtadcmngooobeiabGreat

/- The laws' marks on a network. -/
namespace Go.Proofs.YtadcmngooobeiabGreat
open Go.RowKit
/-- a block of at least so many cells -/
def BlkN (W : World) (T : TypeId) (g N : Nat) : Prop := ∃ cur, W.heap[g]? = some (.cells cur T (0, 0)) ∧ N ≤ cur.size
theorem BlkN.lt {W : World} {T : TypeId} {g N : Nat} (h : BlkN W T g N) : g < W.heap.size := by
  obtain ⟨cur, h, _⟩ := h
  exact (Array.getElem?_eq_some_iff.1 h).1
theorem BlkN.below {W W' : World} {T : TypeId} {g N : Nat} (h : BlkN W T g N) (hb : Below W.heap.size W W') : BlkN W' T g N := by
  have hl := h.lt
  obtain ⟨cur, h, hs⟩ := h
  exact ⟨cur, (hb.block g hl).trans h, hs⟩
theorem BlkN.set {W : World} {T : TypeId} {g N : Nat} (h : BlkN W T g N) (k : Nat) (x : Value) : BlkN (W.setCell ⟨g, k, none⟩ x) T g N := by
  obtain ⟨cur, h, hs⟩ := h
  exact ⟨_, heap_set h k x, by simpa using hs⟩
theorem BlkN.cell {W : World} {T : TypeId} {g N : Nat} (h : BlkN W T g N) (k : Nat) (hk : k < N) : (∃ v, W.cell? ⟨g, k, none⟩ = some v) ∧ W.frozen? ⟨g, k, none⟩ = false := by
  obtain ⟨cur, h, hs⟩ := h
  refine ⟨⟨cur[k]'(by omega), ?_⟩, frozen_of_row W g k _ _ h⟩
  rw [cell_of_row W g k _ _ _ h]
  exact Array.getElem?_eq_getElem (by omega)
theorem blk_of {α : Type} {enc : α → List Value} {n : Nat} {T : TypeId} {w : World} {base g m cap : Nat} {l : List α} (h : OwnK T n enc w base (.slice (some ⟨g, 0, none⟩) m cap) l) : BlkN w T g (m * n) ∧ base ≤ g := by
  rcases h.2 with ⟨e, _⟩ | ⟨g', c, cur, e, hb, hblk, h1, h2, h3, h4⟩
  · cases e
  · cases e
    exact ⟨⟨cur, hblk, by rw [h3]; exact Nat.mul_le_mul_right n h1⟩, hb⟩
set_option maxRecDepth 100000 in
set_option maxHeartbeats 4000000 in
theorem mark_legs (g cap n k0 : Nat) (w : World) (hv : BlkN w 121 g (n * 6)) (hn : n ≤ 1048576) (hk0 : 0 < k0) (hk : k0 ≤ 1000000) :
    Calls Tryz.prog 73 #[.slice (some ⟨g, 0, none⟩) n cap, .int .i64 k0] w fun e w' => e = .returned (.int .i64 ((k0 + 6 * n : Nat) : Int)) ∧ w.grownBy w' (some g) := by
  go_enter Tryz.func73, Tryz.ntmps73
  go_wp2
  go_loopw [1, 5] (fun k i wr => ∃ j : Nat, j ≤ n ∧ i = .int .i64 j ∧ k = .int .i64 ((k0 + 6 * j : Nat) : Int) ∧ BlkN wr 121 g (n * 6) ∧ w.grownBy wr (some g)) (fun _ i _ => n - (intOf i).toNat)
  case atStart => exact ⟨0, Nat.zero_le _, rfl, rfl, hv, ⟨rfl, rfl, rfl, Nat.le_refl _, fun _ _ _ => rfl⟩⟩
  case round =>
    obtain ⟨j, hj, rfl, rfl, hb, hgr⟩ := hrel
    by_cases hlt : (j : Int) < (n : Int)
    · have hjn : j < n := by omega
      obtain ⟨K, hK⟩ : ∃ K, K = k0 + 6 * j := ⟨_, rfl⟩
      rw [← hK]
      have HK := Lib.hid hK
      have hKp : 0 < K := by omega
      have hKb : K ≤ 9223372036854775000 := by omega
      have hj6 : j * 6 + 5 < n * 6 := by omega
      clear hK
      have HB := Lib.hid hb; clear hb
      go_wp2_with fail
      refine (mark_text K wr hKp (by omega)).mono ?_; rintro e w2 ⟨rfl, hbt⟩
      have hB2 := HB.out.below hbt
      obtain ⟨⟨v0, c0⟩, f0⟩ := hB2.cell (j * 6) (by omega)
      have hB2' := hB2.set (j * 6) (.string (mtxt K))
      have hg2 := only_trans (only_of_below hbt g) (only_set w2 g (j * 6) (.string (mtxt K)))
      have HB2 := Lib.hid hB2'; clear hB2 hB2'
      go_wp2_with fail
      have HM := Lib.hid (show ∀ W : World, Calls Tryz.prog 74 #[.int .i64 ((K : Int) + 1)] W fun e w' => e = .returned (.string (mtxt (K + 1))) ∧ Below W.heap.size W w' from fun W => by
        have h := mark_text (K + 1) W (by omega) (by omega)
        rw [show (((K + 1 : Nat) : Int)) = (K : Int) + 1 by omega] at h
        exact h)
      refine (HM.out _).mono ?_; rintro e w3 ⟨rfl, hbt3⟩
      have hB3 := HB2.out.below hbt3
      obtain ⟨⟨v1, c1⟩, f1⟩ := hB3.cell (j * 6 + 1) (by omega)
      obtain ⟨⟨v2, c2⟩, f2⟩ := hB3.cell (j * 6 + 2) (by omega)
      obtain ⟨⟨v3, c3⟩, f3⟩ := hB3.cell (j * 6 + 3) (by omega)
      obtain ⟨⟨v4, c4⟩, f4⟩ := hB3.cell (j * 6 + 4) (by omega)
      obtain ⟨⟨v5, c5⟩, f5⟩ := hB3.cell (j * 6 + 5) (by omega)
      have hg3 := only_trans hgr (only_trans hg2 (only_of_below hbt3 g))
      have HG := Lib.hid (show ∀ x1 x2 x3 x4 x5 : Value, BlkN (((((w3.setCell ⟨g, j * 6 + 1, none⟩ x1).setCell ⟨g, j * 6 + 2, none⟩ x2).setCell ⟨g, j * 6 + 3, none⟩ x3).setCell ⟨g, j * 6 + 4, none⟩ x4).setCell ⟨g, j * 6 + 5, none⟩ x5) 121 g (n * 6) ∧ w.grownBy (((((w3.setCell ⟨g, j * 6 + 1, none⟩ x1).setCell ⟨g, j * 6 + 2, none⟩ x2).setCell ⟨g, j * 6 + 3, none⟩ x3).setCell ⟨g, j * 6 + 4, none⟩ x4).setCell ⟨g, j * 6 + 5, none⟩ x5) (some g) from fun x1 x2 x3 x4 x5 =>
        ⟨((((hB3.set _ x1).set _ x2).set _ x3).set _ x4).set _ x5, only_trans (only_trans (only_trans (only_trans (only_trans hg3 (only_set _ _ _ x1)) (only_set _ _ _ x2)) (only_set _ _ _ x3)) (only_set _ _ _ x4)) (only_set _ _ _ x5)⟩)
      clear hB3 hg3 hg2 c0 f0 hbt hbt3 HB2 HB hgr
      go_wp2
      go_roundw
      case rel =>
        obtain ⟨q1, q2⟩ := HG.out (.string (mtxt (K + 1))) (.int .i64 ((K : Int) + 1 + 1)) (.int .i64 ((K : Int) + 1 + 1 + 1)) (.int .i64 ((K : Int) + 1 + 1 + 1 + 1)) (.int .i64 ((K : Int) + 1 + 1 + 1 + 1 + 1))
        exact ⟨j + 1, by omega, by go_num, by rw [HK.out]; go_num, q1, q2⟩
      case measure => simp [intOf]; omega
    · obtain rfl : j = n := by omega
      go_wp2
      go_ret
      exact ⟨rfl, hgr⟩
set_option maxRecDepth 100000 in
set_option maxHeartbeats 2000000 in
theorem mark_net (g ca n h cd k0 b : Nat) (zs : List Int) (x : Int) (w : World) (hv : BlkN w 121 g (n * 6)) (hd : OwnI w b (.slice (some ⟨h, 0, none⟩) zs.length cd) zs) (hgh : g ≠ h) (hn : n ≤ 1048576) (hm : zs.length ≤ 1048576) (hk0 : 0 < k0) (hk : k0 ≤ 1000000) :
    Calls Tryz.prog 43 #[.agg #[.slice (some ⟨g, 0, none⟩) n ca, .slice (some ⟨h, 0, none⟩) zs.length cd, .int .i64 x], .int .i64 k0] w fun e w' => e = .returned (.int .i64 ((k0 + 6 * n + zs.length : Nat) : Int)) ∧ ∃ u, w.grownBy u (some g) ∧ u.grownBy w' (some h) := by
  have hB := Box3.new (T := 36) (v0 := .slice (some ⟨g, 0, none⟩) n ca) (v1 := .slice (some ⟨h, 0, none⟩) zs.length cd) (v2 := .int .i64 x) w
  have hb0 := (Below.refl w.heap.size w).alloc (Nat.le_refl _) (.cells #[.slice (some ⟨g, 0, none⟩) n ca, .slice (some ⟨h, 0, none⟩) zs.length cd, .int .i64 x] 36)
  have hv' := hv.below hb0
  have hd' := hd.below hb0
  have hgl := hv.lt
  have hne : ∀ k, (Value.slice (some ⟨h, 0, none⟩) zs.length cd).ownBlock = some k → k ≠ g := fun k e hk => by
    cases e; exact hgh hk.symm
  have HNE := Lib.hid hne
  have HP := Lib.hid (only_of_below hb0 g)
  clear hv hd hb0 hne hgh
  go_enter Tryz.func43, Tryz.ntmps43
  obtain ⟨c0, c1, c2⟩ := hB.cells
  go_wp2_with fail
  clear c0 c1 c2
  have hBl := hB.lt
  generalize hX : w.heap.size = X at *
  generalize w.alloc (.cells #[.slice (some ⟨g, 0, none⟩) n ca, .slice (some ⟨h, 0, none⟩) zs.length cd, .int .i64 x] 36) = W at *
  refine (mark_legs g ca n k0 W hv' hn hk0 hk).mono ?_; rintro e w1 ⟨rfl, hg1⟩
  have hB1 : Box3 36 w1 X (.slice (some ⟨g, 0, none⟩) n ca) (.slice (some ⟨h, 0, none⟩) zs.length cd) (.int .i64 x) := (hg1.block X hBl (fun e => by have := Option.some.inj e; omega)).trans hB
  have hd1 : OwnI w1 b (.slice (some ⟨h, 0, none⟩) zs.length cd) zs := World.ownsRow.kept hd' hg1 (.inr (fun e => HNE.out _ e rfl))
  have hgw := only_trans HP.out hg1
  obtain ⟨c0, c1, c2⟩ := hB1.cells
  have hBl1 := hB1.lt
  obtain ⟨K, hK⟩ : ∃ K : Nat, K = k0 + 6 * n := ⟨_, rfl⟩
  rw [← hK]
  have HK := Lib.hid hK
  have hKb : K ≤ 1000000000 := by omega
  clear hK hB hB1 hv' hd' hg1
  go_wp2_with fail
  refine (mark_ints (.slice (some ⟨h, 0, none⟩) zs.length cd) K b zs w1 hd1 hm hKb).mono ?_; rintro e w2 ⟨rfl, _, hg2⟩
  have HG := Lib.hid (And.intro hgw hg2); clear hgw hg2
  clear c0 c1 c2
  go_wp2
  go_ret
  exact ⟨ret_int (by rw [← HK.out]; omega), w1, HG.out.1, HG.out.2⟩
end Go.Proofs.YtadcmngooobeiabGreat

/- Comparing, marking and holding a slice of Scan of the call's own. Written by mk/scanmk.py. -/
namespace Go.Proofs.YtadcmngooobeiabGreat
open Go.RowKit
abbrev OwnKsc (w : World) (b : Nat) (v : Value) (l : List Sc) : Prop := OwnK 102 6 scC w b v l
theorem below_sc {w w' : World} {b : Nat} {v : Value} {l : List Sc} (h : OwnKsc w b v l) (hb : Below w.heap.size w w') : OwnKsc w' b v l := OwnK.below h hb
def mk_sc (k n : Nat) : List Sc := (List.range n).map fun i => ⟨((k + 6 * i + 0 : Nat) : Int), ((k + 6 * i + 1 : Nat) : Int), ((k + 6 * i + 2 : Nat) : Int), mtxt (k + 6 * i + 3), ((k + 6 * i + 4 : Nat) : Int), ((k + 6 * i + 5 : Nat) : Int)⟩
theorem mk_sc_len (k n : Nat) : (mk_sc k n).length = n := by simp [mk_sc]
theorem mk_sc_succ (k n : Nat) : (mk_sc k (n + 1)).flatMap scC = (mk_sc k n).flatMap scC ++ [.int .i64 (((k + 6 * n + 0 : Nat) : Int)), .int .i64 (((k + 6 * n + 1 : Nat) : Int)), .int .i64 (((k + 6 * n + 2 : Nat) : Int)), .string (mtxt (k + 6 * n + 3)), .int .i64 (((k + 6 * n + 4 : Nat) : Int)), .int .i64 (((k + 6 * n + 5 : Nat) : Int))] := by
  simp [mk_sc, List.range_succ, scC]
theorem mk_sc_flen (k n : Nat) : ((mk_sc k n).flatMap scC).length = n * 6 := by rw [flat_len scC_len, mk_sc_len]
theorem eqo_sc (u v : Value) (l : List Sc) (b c : Nat) (w : World) (hu : OwnKsc w b u l) (hv : OwnKsc w c v l) (hn : l.length ≤ 1048576) :
    Calls Tryz.prog 42 #[u, v] w fun e w' => e = .returned (.bool true) ∧ Below w.heap.size w w' := by
  obtain ⟨A, ca, rfl⟩ := hu.opens
  obtain ⟨B, cb, rfl⟩ := hv.opens
  exact eq_scs A B ca cb l w (hu.ins scC_len).2 (hv.ins scC_len).2 (by omega)
set_option maxRecDepth 100000 in
set_option maxHeartbeats 2000000 in
theorem mark_sc (v : Value) (k0 b : Nat) (l : List Sc) (w : World) (hv : OwnKsc w b v l) (hn : l.length ≤ 1048576) (_h0 : 0 < k0) (hk : k0 ≤ 1000000000) :
    Calls Tryz.prog 47 #[v, .int .i64 k0] w fun e w' => e = .returned (.int .i64 ((k0 + 6 * l.length : Nat) : Int)) ∧ OwnKsc w' b v (mk_sc k0 l.length) ∧ w.grownBy w' v.ownBlock := by
  by_cases h0 : l = []
  · subst h0
    obtain ⟨A, cap, rfl⟩ := hv.opens
    have HV := Lib.hid hv; clear hv
    rw [show ([] : List Sc).length = 0 from rfl] at *
    go_enter Tryz.func47, Tryz.ntmps47
    go_wp2
    go_loopw [1, 5] (fun k' i wr => i = .int .i64 0 ∧ k' = .int .i64 k0 ∧ wr = w) (fun _ _ _ => 0)
    case atStart => exact ⟨rfl, rfl, rfl⟩
    case round =>
      obtain ⟨rfl, rfl, rfl⟩ := hrel
      go_wp2
      go_ret
      exact ⟨rfl, HV.out, ⟨rfl, rfl, rfl, Nat.le_refl _, fun _ _ _ => rfl⟩⟩
  · obtain ⟨g, cap, rfl, _, _⟩ := hv.row h0
    clear h0
    have hcl : (l.flatMap scC).length = l.length * 6 := flat_len scC_len l
    have hv' : w.ownsRow b 102 6 (.slice (some ⟨g, 0, none⟩) l.length cap) l.length ((mk_sc k0 0).flatMap scC ++ (l.flatMap scC).drop 0) := by
      have h : w.ownsRow b 102 6 (.slice (some ⟨g, 0, none⟩) l.length cap) l.length (l.flatMap scC) := hv
      simpa [mk_sc] using h
    have HV := Lib.hid hv'; clear hv hv'
    generalize l.flatMap scC = cs at *
    rw [show (Value.slice (some ⟨g, 0, none⟩) l.length cap).ownBlock = some g from rfl]
    go_enter Tryz.func47, Tryz.ntmps47
    go_wp2
    go_loopw [1, 5] (fun k i wr => ∃ j : Nat, j ≤ l.length ∧ i = .int .i64 j ∧ k = .int .i64 ((k0 + 6 * j : Nat) : Int) ∧ wr.ownsRow b 102 6 (.slice (some ⟨g, 0, none⟩) l.length cap) l.length ((mk_sc k0 j).flatMap scC ++ cs.drop (j * 6)) ∧ w.grownBy wr (some g)) (fun _ i _ => l.length - (intOf i).toNat)
    case atStart => exact ⟨0, Nat.zero_le _, rfl, rfl, by simpa using HV.out, ⟨rfl, rfl, rfl, Nat.le_refl _, fun _ _ _ => rfl⟩⟩
    case round =>
      obtain ⟨j, hj, rfl, rfl, hown, hgr⟩ := hrel
      clear HV
      by_cases hlt : (j : Int) < (l.length : Int)
      · have hjn : j < l.length := by omega
        have HSU := Lib.hid (mk_sc_succ k0 j)
        have hpl := mk_sc_flen k0 j
        obtain ⟨K, hK⟩ : ∃ K, K = k0 + 6 * j := ⟨_, rfl⟩
        rw [← hK] at HSU ⊢
        have HK := Lib.hid hK
        have hKb : K ≤ 9223372036854775000 := by omega
        have hKp : 0 < K := by omega
        clear hK
        have hjj : (j + 1) * 6 ≤ l.length * 6 := Nat.mul_le_mul_right 6 hjn
        have hj1 : (j + 1) * 6 = j * 6 + 6 := by omega
        generalize (mk_sc k0 j).flatMap scC = P at *
        have HM := Lib.hid (show ∀ W : World, Calls Tryz.prog 74 #[.int .i64 ((K : Int) + 1 + 1 + 1)] W fun e w' => e = .returned (.string (mtxt (K + 3))) ∧ Below W.heap.size W w' from fun W => by
          have h := mark_text (K + 3) W (by omega) (by omega)
          rw [show (((K + 3 : Nat) : Int)) = (K : Int) + 1 + 1 + 1 by omega] at h
          exact h)
        have R0 := hown
        have f0 : wr.frozen? ⟨g, j * 6, none⟩ = false := R0.frozenAt (j * 6)
        obtain ⟨v0, e0⟩ : ∃ v, wr.cell? ⟨g, j * 6, none⟩ = some v := by
          rw [R0.cellAt (j * 6) (by first | omega | (simp; omega))]
          exact ⟨_, List.getElem?_eq_getElem (by simp; omega)⟩
        have f1 : wr.frozen? ⟨g, j * 6 + 1, none⟩ = false := R0.frozenAt (j * 6 + 1)
        obtain ⟨v1, e1⟩ : ∃ v, wr.cell? ⟨g, j * 6 + 1, none⟩ = some v := by
          rw [R0.cellAt (j * 6 + 1) (by first | omega | (simp; omega))]
          exact ⟨_, List.getElem?_eq_getElem (by simp; omega)⟩
        have f2 : wr.frozen? ⟨g, j * 6 + 2, none⟩ = false := R0.frozenAt (j * 6 + 2)
        obtain ⟨v2, e2⟩ : ∃ v, wr.cell? ⟨g, j * 6 + 2, none⟩ = some v := by
          rw [R0.cellAt (j * 6 + 2) (by first | omega | (simp; omega))]
          exact ⟨_, List.getElem?_eq_getElem (by simp; omega)⟩
        have S0 := R0.stored (j * 6) (.int .i64 ((K : Int)))
        have R1 := S0.1
        have S1 := R1.stored (j * 6 + 1) (.int .i64 ((K : Int) + 1))
        have R2 := S1.1
        have S2 := R2.stored (j * 6 + 2) (.int .i64 ((K : Int) + 1 + 1))
        have R3 := S2.1
        have HR3 := Lib.hid R3
        have HG3 := Lib.hid (only_trans (only_trans (only_trans hgr S0.2) S1.2) S2.2)
        clear R0 S0 R1 S1 R2 S2 R3 hown hgr
        go_wp2_with fail
        refine (HM.out _).mono ?_; rintro e w4 ⟨rfl, hb4⟩
        have R4 := World.ownsRow.kept HR3.out (row := none) ⟨hb4.os, hb4.tape, hb4.output, hb4.size, fun i hi _ => hb4.block i hi⟩ (.inr (fun e => by cases e))
        have HG4 := Lib.hid (only_trans HG3.out (only_of_below hb4 g))
        clear hb4 HG3 HR3 e0 e1 e2 f0 f1 f2
        have f3 : w4.frozen? ⟨g, j * 6 + 3, none⟩ = false := R4.frozenAt (j * 6 + 3)
        obtain ⟨v3, e3⟩ : ∃ v, w4.cell? ⟨g, j * 6 + 3, none⟩ = some v := by
          rw [R4.cellAt (j * 6 + 3) (by first | omega | (simp; omega))]
          exact ⟨_, List.getElem?_eq_getElem (by simp; omega)⟩
        have f4 : w4.frozen? ⟨g, j * 6 + 4, none⟩ = false := R4.frozenAt (j * 6 + 4)
        obtain ⟨v4, e4⟩ : ∃ v, w4.cell? ⟨g, j * 6 + 4, none⟩ = some v := by
          rw [R4.cellAt (j * 6 + 4) (by first | omega | (simp; omega))]
          exact ⟨_, List.getElem?_eq_getElem (by simp; omega)⟩
        have f5 : w4.frozen? ⟨g, j * 6 + 5, none⟩ = false := R4.frozenAt (j * 6 + 5)
        obtain ⟨v5, e5⟩ : ∃ v, w4.cell? ⟨g, j * 6 + 5, none⟩ = some v := by
          rw [R4.cellAt (j * 6 + 5) (by first | omega | (simp; omega))]
          exact ⟨_, List.getElem?_eq_getElem (by simp; omega)⟩
        have S3 := R4.stored (j * 6 + 3) (.string (mtxt (K + 3)))
        have R5 := S3.1
        have S4 := R5.stored (j * 6 + 4) (.int .i64 ((K : Int) + 1 + 1 + 1 + 1))
        have R6 := S4.1
        have S5 := R6.stored (j * 6 + 5) (.int .i64 ((K : Int) + 1 + 1 + 1 + 1 + 1))
        have R7 := S5.1
        have EQ := Lib.hid (show (((((((P ++ cs.drop (j * 6)).set (j * 6) (.int .i64 ((K : Int)))).set (j * 6 + 1) (.int .i64 ((K : Int) + 1))).set (j * 6 + 2) (.int .i64 ((K : Int) + 1 + 1))).set (j * 6 + 3) (.string (mtxt (K + 3)))).set (j * 6 + 4) (.int .i64 ((K : Int) + 1 + 1 + 1 + 1))).set (j * 6 + 5) (.int .i64 ((K : Int) + 1 + 1 + 1 + 1 + 1))) = (mk_sc k0 (j + 1)).flatMap scC ++ cs.drop ((j + 1) * 6) from by
          rw [HSU.out]
          rw [set_app (p := j * 6) _ (by first | exact hpl | (simp only [List.length_append, List.length_cons, List.length_nil]; omega)) (by omega)]
          rw [set_app (p := j * 6 + 1) _ (by first | exact hpl | (simp only [List.length_append, List.length_cons, List.length_nil]; omega)) (by omega)]
          rw [set_app (p := j * 6 + 2) _ (by first | exact hpl | (simp only [List.length_append, List.length_cons, List.length_nil]; omega)) (by omega)]
          rw [set_app (p := j * 6 + 3) _ (by first | exact hpl | (simp only [List.length_append, List.length_cons, List.length_nil]; omega)) (by omega)]
          rw [set_app (p := j * 6 + 4) _ (by first | exact hpl | (simp only [List.length_append, List.length_cons, List.length_nil]; omega)) (by omega)]
          rw [set_app (p := j * 6 + 5) _ (by first | exact hpl | (simp only [List.length_append, List.length_cons, List.length_nil]; omega)) (by omega)]
          rw [show (j + 1) * 6 = j * 6 + 6 by omega]
          rw [show ((K + 0 : Nat) : Int) = (K : Int) by omega, show ((K + 1 : Nat) : Int) = (K : Int) + 1 by omega, show ((K + 2 : Nat) : Int) = (K : Int) + 1 + 1 by omega, show ((K + 4 : Nat) : Int) = (K : Int) + 1 + 1 + 1 + 1 by omega, show ((K + 5 : Nat) : Int) = (K : Int) + 1 + 1 + 1 + 1 + 1 by omega]
          simp only [List.append_assoc, List.cons_append, List.nil_append])
        have HG := Lib.hid (only_trans (only_trans (only_trans HG4.out S3.2) S4.2) S5.2)
        have HST := Lib.hid R7
        clear hpl S3 S4 S5 R4 R5 R6 R7 HG4
        go_wp2
        go_roundw
        case rel =>
          refine ⟨j + 1, by omega, by go_num, by rw [HK.out]; go_num, ?_, HG.out⟩
          rw [← EQ.out]
          exact HST.out
        case measure => simp [intOf]; omega
      · obtain rfl : j = l.length := by omega
        have HO := Lib.hid hown; clear hown
        go_wp2
        go_ret
        refine ⟨rfl, ?_, hgr⟩
        have h := HO.out
        rw [List.drop_of_length_le (by omega), List.append_nil] at h
        unfold OwnKsc OwnK
        rw [mk_sc_len]
        exact h
end Go.Proofs.YtadcmngooobeiabGreat

/- Marks of orders: what is written lies between two blocks. Written by mk/mkor.py. -/
namespace Go.Proofs.YtadcmngooobeiabGreat
open Go.RowKit
/-- what may have changed: the blocks of S, and what is new -/
structure Chg (w w' : World) (S : Nat → Prop) : Prop where
  os : w'.os = w.os
  tape : w'.tape = w.tape
  output : w'.output = w.output
  size : w.heap.size ≤ w'.heap.size
  block : ∀ i, i < w.heap.size → ¬ S i → w'.heap[i]? = w.heap[i]?
theorem Chg.refl (w : World) (S : Nat → Prop) : Chg w w S := ⟨rfl, rfl, rfl, Nat.le_refl _, fun _ _ _ => rfl⟩
theorem Chg.trans {w w' w'' : World} {S : Nat → Prop} (h : Chg w w' S) (h' : Chg w' w'' S) : Chg w w'' S :=
  ⟨h'.os.trans h.os, h'.tape.trans h.tape, h'.output.trans h.output, Nat.le_trans h.size h'.size, fun i hi hs => (h'.block i (Nat.lt_of_lt_of_le hi h.size) hs).trans (h.block i hi hs)⟩
theorem Chg.of_grown {w w' : World} {r : Option Nat} {S : Nat → Prop} (h : w.grownBy w' r) (hs : ∀ i, r = some i → S i) : Chg w w' S := ⟨h.os, h.tape, h.output, h.size, fun i hi hn => h.block i hi (fun e => hn (hs i e.symm))⟩
theorem Chg.of_below {w w' : World} {S : Nat → Prop} (h : Below w.heap.size w w') : Chg w w' S := ⟨h.os, h.tape, h.output, h.size, fun i hi _ => h.block i hi⟩
theorem Chg.of_set (w : World) (g o : Nat) (v : Value) {S : Nat → Prop} (hs : S g) : Chg w (w.setCell ⟨g, o, none⟩ v) S := Chg.of_grown (only_set w g o v) (fun i e => by cases e; exact hs)
theorem flatU {α : Type} {enc : α → List Value} {m : Nat} (hk : ∀ a, (enc a).length = m) : ∀ (l : List α) (k : Nat) (h : k < l.length) (i : Nat) (_ : i < m) (v : Value) (y : α), enc y = (enc l[k]).set i v → (l.flatMap enc).set (k * m + i) v = (l.set k y).flatMap enc
  | [], k, h, _, _, _, _, _ => by simp at h
  | a :: l, 0, _, i, hi, v, y, he => by
    rw [List.set_cons_zero, List.flatMap_cons, List.flatMap_cons, Nat.zero_mul, Nat.zero_add, List.set_append_left _ _ (by rw [hk]; exact hi), he]
    rfl
  | a :: l, k + 1, h, i, hi, v, y, he => by
    rw [List.set_cons_succ, List.flatMap_cons, List.flatMap_cons, List.set_append_right _ _ (by rw [hk, Nat.succ_mul]; omega), hk, show (k + 1) * m + i - m = k * m + i by rw [Nat.succ_mul]; omega, flatU hk l k (by simpa using h) i hi v y he]
abbrev RowO (w : World) (b G c n : Nat) (l : List OrR) : Prop := w.ownsRow b 65 11 (.slice (some ⟨G, 0, none⟩) n c) n (l.flatMap orC)
theorem rowO_put {w : World} {b G c n k i : Nat} {l : List OrR} (h : RowO w b G c n l) (hk : k < l.length) (hi : i < 11) (v : Value) (y : OrR) (he : orC y = (orC l[k]).set i v) : RowO (w.setCell ⟨G, k * 11 + i, none⟩ v) b G c n (l.set k y) := by
  unfold RowO
  rw [← flatU orC_len l k hk i hi v y he]
  exact (World.ownsRow.stored h (k * 11 + i) v).1
theorem rowO_own {w : World} {b G c n : Nat} {l : List OrR} (h : RowO w b G c n l) (hn : l.length = n) : OwnK 65 11 orC w b (.slice (some ⟨G, 0, none⟩) n c) l := by subst hn; exact h
/-- an order's own trips, where only its row was written -/
theorem tp_set {w : World} {b G o : Nat} {A : Option Addr} {n c : Nat} {v : Value} {l : List Tp} (h : OwnKtp w b (.slice A n c) l) (hn : (Value.slice A n c).ownBlock ≠ some G) : OwnKtp (w.setCell ⟨G, o, none⟩ v) b (.slice A n c) l :=
  World.ownsRow.kept h (row := some G) (only_set w G o v) (.inr hn)
theorem own_ne {W : World} {b : Nat} {A : Option Addr} {n c : Nat} {l : List Tp} (h : OwnKtp W b (.slice A n c) l) : (Value.slice A n c).ownBlock ≠ some W.heap.size := by
  rcases h.2 with ⟨e, _⟩ | ⟨g', c', cur, e, _, hblk, _⟩
  · rw [e]; exact fun x => by cases x
  · rw [e]
    exact fun x => Nat.ne_of_lt (Array.getElem?_eq_some_iff.1 hblk).1 (Option.some.inj x)
/-- a block of orders that is written, and what is still unwritten of it: its orders' ways from j on -/
def OIn (W : World) (b G : Nat) (l : List OrR) (j : Nat) : Prop :=
  (∃ cur, W.heap[G]? = some (.cells cur 65 (0, 0)) ∧ l.length * 11 ≤ cur.size) ∧ (∀ q (h : q < l.length), j ≤ q → W.cell? ⟨G, q * 11 + 6, none⟩ = some (.slice l[q].A l[q].h.length l[q].k)) ∧ (∀ q (h : q < l.length), j ≤ q → OwnKtp W b (.slice l[q].A l[q].h.length l[q].k) l[q].h)
theorem OIn.lt {W : World} {b G : Nat} {l : List OrR} {j : Nat} (h : OIn W b G l j) : G < W.heap.size := by
  obtain ⟨⟨cur, h, _⟩, _⟩ := h
  exact (Array.getElem?_eq_some_iff.1 h).1
theorem OIn.below {W W' : World} {b G : Nat} {l : List OrR} {j : Nat} (h : OIn W b G l j) (hb : Below W.heap.size W W') : OIn W' b G l j := by
  have hl := h.lt
  obtain ⟨⟨cur, h1, h2⟩, h3, h4⟩ := h
  exact ⟨⟨cur, (hb.block G hl).trans h1, h2⟩, fun q hq hj => (hb.cell (p := ⟨G, q * 11 + 6, none⟩) hl).trans (h3 q hq hj), fun q hq hj => World.ownsRow.kept (h4 q hq hj) (row := some W.heap.size) ⟨hb.os, hb.tape, hb.output, hb.size, fun i hi _ => hb.block i hi⟩ (.inr (own_ne (h4 q hq hj)))⟩
theorem OIn.set {W : World} {b G : Nat} {l : List OrR} {j : Nat} (h : OIn W b G l j) (hA : ∀ q (h : q < l.length), l[q].A = some ⟨l[q].b, 0, none⟩ ∧ l[q].b ≠ G) (o : Nat) (v : Value) (ho : ∀ q, j ≤ q → o ≠ q * 11 + 6) : OIn (W.setCell ⟨G, o, none⟩ v) b G l j := by
  obtain ⟨⟨cur, h1, h2⟩, h3, h4⟩ := h
  refine ⟨⟨_, heap_set h1 o v, by simpa using h2⟩, fun q hq hj => ?_, fun q hq hj => ?_⟩
  · have e := h3 q hq hj
    rw [cell_of_row W G _ _ _ _ h1] at e
    rw [cell_of_row _ G _ _ _ _ (heap_set h1 o v)]
    exact (by first | exact (Array.getElem?_setIfInBounds_ne (ho q hj)).trans e | simpa [ho q hj] using e)
  · refine tp_set (h4 q hq hj) ?_
    rw [(hA q hq).1]
    exact fun e => (hA q hq).2 (Option.some.inj e)
theorem OIn.cell {W : World} {b G : Nat} {l : List OrR} {j : Nat} (h : OIn W b G l j) (k : Nat) (hk : k < l.length * 11) : (∃ v, W.cell? ⟨G, k, none⟩ = some v) ∧ W.frozen? ⟨G, k, none⟩ = false := by
  obtain ⟨⟨cur, h, hs⟩, _⟩ := h
  refine ⟨⟨cur[k]'(by omega), ?_⟩, frozen_of_row W G k _ _ h⟩
  rw [cell_of_row W G k _ _ _ h]
  exact Array.getElem?_eq_getElem (by omega)
theorem OIn.way {W W' : World} {b G : Nat} {l : List OrR} {j z : Nat} (h : OIn W b G l j) (hA : ∀ q (h : q < l.length), l[q].A = some ⟨l[q].b, 0, none⟩ ∧ l[q].b ≠ G) (hz : ∀ q (h : q < l.length), j + 1 ≤ q → z < l[q].b) (hg : W.grownBy W' (some z)) (hzG : z ≠ G) : OIn W' b G l (j + 1) := by
  have hl := h.lt
  obtain ⟨⟨cur, h1, h2⟩, h3, h4⟩ := h
  have hb : W'.heap[G]? = W.heap[G]? := hg.block G hl (fun e => hzG (by cases e; rfl))
  refine ⟨⟨cur, hb.trans h1, h2⟩, fun q hq hj => ?_, fun q hq hj => ?_⟩
  · have e := h3 q hq (by omega)
    rw [cell_of_row W G _ _ _ _ h1] at e
    rw [cell_of_row W' G _ _ _ _ (hb.trans h1)]
    exact e
  · refine World.ownsRow.kept (h4 q hq (by omega)) (row := some z) hg (.inr ?_)
    rw [(hA q hq).1]
    exact fun e => Nat.ne_of_gt (hz q hq hj) (Option.some.inj e)
theorem OIn.of {w : World} {b G c n : Nat} {l : List OrR} (h : RowO w b G c n l) (hn : l.length = n) (hH : ∀ q (h : q < l.length), OwnKtp w b (.slice l[q].A l[q].h.length l[q].k) l[q].h) : OIn w b G l 0 := by
  refine ⟨?_, fun q hq _ => ?_, fun q hq _ => hH q hq⟩
  · rcases h.2 with ⟨e, _⟩ | ⟨g', c', cur, e, hb, hblk, h1, h2, h3, h4⟩
    · cases e
    · cases e
      exact ⟨cur, hblk, by rw [h3, hn]; exact Nat.mul_le_mul_right 11 h1⟩
  · obtain ⟨g9, e9, hG9, c0, c1, c2, c3, c4, c5, c6, c7, c8, c9, c10⟩ := ((rowO_own h hn).ins orC_len).2.or q hq
    cases e9
    exact c6
def szOr (l : List OrR) (k : Nat) : Nat := ((l.take k).map fun z => 10 + 2 * z.h.length).sum
theorem szOr_succ {l : List OrR} {k : Nat} (h : k < l.length) : szOr l (k + 1) = szOr l k + (10 + 2 * l[k].h.length) := by
  unfold szOr; rw [List.take_succ_eq_append_getElem h, List.map_append, List.sum_append]; simp
theorem szOr_le (l : List OrR) (k : Nat) : szOr l k ≤ szOr l l.length := by
  unfold szOr
  rw [List.take_length]
  conv => rhs; rw [← List.take_append_drop k l, List.map_append, List.sum_append]
  omega
set_option maxRecDepth 100000 in
set_option maxHeartbeats 3000000 in
theorem mark_ors (G c : Nat) (l : List OrR) (k0 b lo hi : Nat) (w : World) (hrow : RowO w b G c l.length l) (hG : lo ≤ G ∧ G < hi) (hH : ∀ z ∈ l, OwnKtp w b (.slice z.A z.h.length z.k) z.h ∧ z.A = some ⟨z.b, 0, none⟩ ∧ lo ≤ z.b ∧ z.b < hi ∧ z.b ≠ G ∧ z.h.length ≤ 1048576) (hP : l.Pairwise fun x y => x.b < y.b) (hsz : szOr l l.length ≤ 400000000) (h0 : 0 < k0) (hk : k0 ≤ 200000000) (hn : l.length ≤ 1048576) :
    Calls Tryz.prog 44 #[.slice (some ⟨G, 0, none⟩) l.length c, .int .i64 (k0 : Int)] w fun e w' => e = .returned (.int .i64 ((k0 + szOr l l.length : Nat) : Int)) ∧ Chg w w' (fun i => lo ≤ i ∧ i < hi) := by
  have HROW := Lib.hid hrow; have HHH := Lib.hid hH; have HPW := Lib.hid hP
  have HSS := Lib.hid (fun j (h : j < l.length) => szOr_succ h); have HSL := Lib.hid (fun j => Nat.le_trans (szOr_le l j) hsz)
  have HS0 := Lib.hid (show szOr l 0 = 0 from rfl)
  clear hrow hH hP hsz
  generalize hT : szOr l = T at *
  clear hT
  have hs0 := HS0.out
  go_enter Tryz.func44, Tryz.ntmps44
  go_wp2
  have HI0 := Lib.hid (OIn.of HROW.out rfl (fun q h => (HHH.out _ (List.getElem_mem h)).1))
  have HQA := Lib.hid (fun q (h : q < l.length) => show l[q].A = some ⟨l[q].b, 0, none⟩ ∧ l[q].b ≠ G from ⟨(HHH.out _ (List.getElem_mem h)).2.1, (HHH.out _ (List.getElem_mem h)).2.2.2.2.1⟩)
  clear HROW
  go_loopw [1, 5] (fun kk i wr => ∃ j : Nat, j ≤ l.length ∧ i = .int .i64 j ∧ kk = .int .i64 ((k0 + T j : Nat) : Int) ∧ Hid (OIn wr b G l j) ∧ Hid (Chg w wr (fun i => lo ≤ i ∧ i < hi))) (fun _ i _ => l.length - (intOf i).toNat)
  case atStart => exact ⟨0, Nat.zero_le _, rfl, by rw [hs0]; rfl, HI0, Lib.hid (Chg.refl _ _)⟩
  case round =>
    clear hs0
    obtain ⟨k, hkl, rfl, rfl, HI, hch⟩ := hrel
    by_cases hlt : (k : Int) < (l.length : Int)
    · have hkn : k < l.length := by omega
      obtain ⟨_, hzA, hzl, hzh, hzG, hzm⟩ := HHH.out _ (List.getElem_mem hkn)
      have HTT := HSS.out k hkn
      have hTl := HSL.out (k + 1)
      have HNB := fun q (h : q < l.length) (hq : k + 1 ≤ q) => show l[k].b < l[q].b from List.pairwise_iff_getElem.1 HPW.out k q hkn h (by omega)
      have HSG : (fun i => lo ≤ i ∧ i < hi) G := hG
      have HSZ : (fun i => lo ≤ i ∧ i < hi) l[k].b := ⟨hzl, hzh⟩
      obtain ⟨S, hS⟩ : ∃ S : Nat → Prop, S = fun i => lo ≤ i ∧ i < hi := ⟨_, rfl⟩
      rw [← hS] at hch HSG HSZ ⊢
      clear hS
      obtain ⟨K, hK⟩ : ∃ K, K = k0 + T k := ⟨_, rfl⟩
      rw [← hK]
      obtain ⟨L, hL⟩ : ∃ L, L = K + 6 + 2 * l[k].h.length := ⟨_, rfl⟩
      have HK := Lib.hid (show k0 + T (k + 1) = L + 4 by omega)
      have hKp : 0 < K := by omega
      have hKb : K ≤ 700000000 := by omega
      have hLp : 0 < L := by omega
      have hLb : L ≤ 800000000 := by omega
      have hk11 : k * 11 + 10 < l.length * 11 := by omega
      have HWT := Lib.hid (fun (W W0 : World) (hO : OIn W b G l k) (hC : Chg W0 W S) => show Calls Tryz.prog 46 #[.slice l[k].A l[k].h.length l[k].k, .int .i64 ((K + 6 : Nat) : Int)] W (fun e w' => e = .returned (.int .i64 (L : Int)) ∧ OIn w' b G l (k + 1) ∧ Chg W0 w' S) from by
        refine (mark_tp (.slice l[k].A l[k].h.length l[k].k) (K + 6) b l[k].h W (hO.2.2 k hkn (Nat.le_refl k)) hzm (by omega) (by omega)).mono ?_
        rintro e w' ⟨rfl, _, hgr⟩
        rw [hzA] at hgr
        exact ⟨by rw [← hL], hO.way HQA.out HNB hgr hzG, hC.trans (Chg.of_grown hgr (fun i e => by cases e; exact HSZ))⟩)
      have e6 : ((K + 6 : Nat) : Int) = (K : Int) + 1 + 1 + 1 + 1 + 1 + 1 := by omega
      rw [e6] at HWT
      obtain ⟨WV, hWV⟩ : ∃ v : Value, v = .slice l[k].A l[k].h.length l[k].k := ⟨_, rfl⟩
      have HD6 := Lib.hid (fun (W : World) (hO : OIn W b G l k) => show W.cell? ⟨G, k * 11 + 6, none⟩ = some (.slice l[k].A l[k].h.length l[k].k) from hO.2.1 k hkn (Nat.le_refl k))
      clear hK hL HNB HTT hTl e6 hzl hzh hzG hzm hzA HSZ WV hWV
      generalize l[k].A = VA at *
      generalize l[k].h.length = Vn at *
      generalize l[k].k = Vc at *
      go_wp2_with fail
      refine (mark_text K wr hKp (by omega)).mono ?_; rintro e w1 ⟨rfl, hb1⟩
      have I1 := HI.out.below hb1
      have C1 := hch.out.trans (Chg.of_below hb1)
      obtain ⟨⟨v0, c0⟩, f0⟩ := I1.cell (k * 11) (by omega)
      have J1 := Lib.hid (I1.set HQA.out (k * 11) (.string (mtxt K)) (by omega))
      have D1 := Lib.hid (C1.trans (Chg.of_set w1 G (k * 11) (.string (mtxt K)) HSG))
      clear I1 C1 hb1
      go_wp2_with fail
      have HM := Lib.hid (show ∀ W : World, Calls Tryz.prog 74 #[.int .i64 ((K : Int) + 1)] W fun e w' => e = .returned (.string (mtxt (K + 1))) ∧ Below W.heap.size W w' from fun W => by
        have h := mark_text (K + 1) W (by omega) (by omega)
        rw [show (((K + 1 : Nat) : Int)) = (K : Int) + 1 by omega] at h
        exact h)
      refine (HM.out _).mono ?_; rintro e w2 ⟨rfl, hb2⟩
      have I2 := J1.out.below hb2
      have C2 := D1.out.trans (Chg.of_below hb2)
      clear c0 f0 hb2 J1 D1 HM
      obtain ⟨⟨v1, c1⟩, f1⟩ := I2.cell (k * 11 + 1) (by omega)
      obtain ⟨⟨v2, c2⟩, f2⟩ := I2.cell (k * 11 + 2) (by omega)
      obtain ⟨⟨v3, c3⟩, f3⟩ := I2.cell (k * 11 + 3) (by omega)
      obtain ⟨⟨v4, c4⟩, f4⟩ := I2.cell (k * 11 + 4) (by omega)
      obtain ⟨⟨v5, c5⟩, f5⟩ := I2.cell (k * 11 + 5) (by omega)
      have c6 := HD6.out w2 I2
      have HG := Lib.hid (show ∀ x1 x2 x3 x4 x5 : Value, OIn (((((w2.setCell ⟨G, k * 11 + 1, none⟩ x1).setCell ⟨G, k * 11 + 2, none⟩ x2).setCell ⟨G, k * 11 + 3, none⟩ x3).setCell ⟨G, k * 11 + 4, none⟩ x4).setCell ⟨G, k * 11 + 5, none⟩ x5) b G l k ∧ Chg w (((((w2.setCell ⟨G, k * 11 + 1, none⟩ x1).setCell ⟨G, k * 11 + 2, none⟩ x2).setCell ⟨G, k * 11 + 3, none⟩ x3).setCell ⟨G, k * 11 + 4, none⟩ x4).setCell ⟨G, k * 11 + 5, none⟩ x5) S from fun x1 x2 x3 x4 x5 =>
        ⟨(((((I2.set HQA.out (k * 11 + 1) x1 (by omega)).set HQA.out (k * 11 + 2) x2 (by omega)).set HQA.out (k * 11 + 3) x3 (by omega)).set HQA.out (k * 11 + 4) x4 (by omega)).set HQA.out (k * 11 + 5) x5 (by omega)), ((((C2.trans (Chg.of_set _ G _ x1 HSG)).trans (Chg.of_set _ G _ x2 HSG)).trans (Chg.of_set _ G _ x3 HSG)).trans (Chg.of_set _ G _ x4 HSG)).trans (Chg.of_set _ G _ x5 HSG)⟩)
      have HWG := Lib.hid (fun x1 x2 x3 x4 x5 => HWT.out _ _ (HG.out x1 x2 x3 x4 x5).1 (HG.out x1 x2 x3 x4 x5).2)
      clear I2 C2 HG HWT HD6 HI hch
      go_wp2_with fail
      refine (HWG.out _ _ _ _ _).mono ?_; rintro e w3 ⟨rfl, I3, C3⟩
      clear c1 c2 c3 c4 c5 c6 f1 f2 f3 f4 f5 HWG
      obtain ⟨⟨v7, c7⟩, f7⟩ := I3.cell (k * 11 + 7) (by omega)
      obtain ⟨⟨v8, c8⟩, f8⟩ := I3.cell (k * 11 + 8) (by omega)
      have HG2 := Lib.hid (show ∀ x1 x2 : Value, OIn ((w3.setCell ⟨G, k * 11 + 7, none⟩ x1).setCell ⟨G, k * 11 + 8, none⟩ x2) b G l (k + 1) ∧ Chg w ((w3.setCell ⟨G, k * 11 + 7, none⟩ x1).setCell ⟨G, k * 11 + 8, none⟩ x2) S from fun x1 x2 =>
        ⟨(I3.set HQA.out (k * 11 + 7) x1 (by omega)).set HQA.out (k * 11 + 8) x2 (by omega), (C3.trans (Chg.of_set _ G _ x1 HSG)).trans (Chg.of_set _ G _ x2 HSG)⟩)
      have HM := Lib.hid (fun x1 x2 => show Calls Tryz.prog 74 #[.int .i64 ((L : Int) + 1 + 1)] ((w3.setCell ⟨G, k * 11 + 7, none⟩ x1).setCell ⟨G, k * 11 + 8, none⟩ x2) fun e w' => e = .returned (.string (mtxt (L + 2))) ∧ OIn w' b G l (k + 1) ∧ Chg w w' S from by
        have h := mark_text (L + 2) ((w3.setCell ⟨G, k * 11 + 7, none⟩ x1).setCell ⟨G, k * 11 + 8, none⟩ x2) (by omega) (by omega)
        rw [show (((L + 2 : Nat) : Int)) = (L : Int) + 1 + 1 by omega] at h
        refine h.mono ?_
        rintro e w' ⟨rfl, hb⟩
        exact ⟨rfl, (HG2.out x1 x2).1.below hb, (HG2.out x1 x2).2.trans (Chg.of_below hb)⟩)
      clear I3 C3 HG2
      go_wp2_with fail
      refine (HM.out _ _).mono ?_; rintro e w4 ⟨rfl, I4, C4⟩
      clear c7 f7 c8 f8 HM
      obtain ⟨⟨v9, c9⟩, f9⟩ := I4.cell (k * 11 + 9) (by omega)
      obtain ⟨⟨va, ca⟩, fa⟩ := I4.cell (k * 11 + 10) (by omega)
      have HG3 := Lib.hid (fun x1 x2 => And.intro ((I4.set HQA.out (k * 11 + 9) x1 (by omega)).set HQA.out (k * 11 + 10) x2 (by omega)) ((C4.trans (Chg.of_set _ G (k * 11 + 9) x1 HSG)).trans (Chg.of_set _ G (k * 11 + 10) x2 HSG)))
      clear I4 C4
      go_wp2
      go_roundw
      case rel =>
        obtain ⟨q1, q2⟩ := HG3.out (.string (mtxt (L + 2))) (.int .i64 ((L : Int) + 1 + 1 + 1))
        exact ⟨k + 1, by omega, by go_num, by rw [HK.out]; go_num, Lib.hid q1, Lib.hid q2⟩
      case measure => simp [intOf]; omega
    · obtain rfl : k = l.length := by omega
      go_wp2
      go_ret
      exact ⟨rfl, hch.out⟩
end Go.Proofs.YtadcmngooobeiabGreat

/- The size of a World, with the sum of its orders' ways. Written by mk/szs.py. -/
namespace Go.Proofs.YtadcmngooobeiabGreat
open Go.RowKit
theorem sz_tps2 (A : Option Addr) (cap n : Nat) (left : Int) (w : World) (hn : n ≤ maxLen) (hl : 0 ≤ left ∧ left ≤ 1048576) :
    Calls Tryz.prog 26 #[.slice A n cap, .int .i64 left] w fun e w' => SzQ (left - (n : Int)) (n ≤ 1048576) e ∧ Below w.heap.size w w' := by
  unfold maxLen at hn
  obtain ⟨hl0, hl1⟩ := hl
  by_cases h1 : left - (n : Int) < 0
  · go_enter Tryz.func26, Tryz.ntmps26
    go_wp2
    go_ret
    exact ⟨⟨-1, rfl, .inl rfl⟩, Below.refl _ _⟩
  · go_enter Tryz.func26, Tryz.ntmps26
    go_wp2
    go_ret
    exact ⟨⟨_, rfl, .inr ⟨by omega, by omega, by omega⟩⟩, Below.refl _ _⟩
set_option maxHeartbeats 1000000 in
theorem sz_or2 (f t : ByteArray) (s m a u g z : Int) (p : ByteArray) (e : Int) (A : Option Addr) (k n : Nat) (left : Int) (w : World) (hf : f.size ≤ maxLen) (ht : t.size ≤ maxLen) (hn : n ≤ maxLen) (hp : p.size ≤ maxLen) (hl : 0 ≤ left ∧ left ≤ 1048576) :
    Calls Tryz.prog 57 #[.agg #[.string f, .string t, .int .i64 s, .int .i64 m, .int .i64 a, .int .i64 u, .slice A n k, .int .i64 g, .int .i64 z, .string p, .int .i64 e], .int .i64 left] w fun e w' => SzQ (left - (n : Int)) (n ≤ 1048576) e ∧ Below w.heap.size w w' := by
  have hB := Bx.new (T := 93) w [.string f, .string t, .int .i64 s, .int .i64 m, .int .i64 a, .int .i64 u, .slice A n k, .int .i64 g, .int .i64 z, .string p, .int .i64 e]
  have hb0 := (Below.refl w.heap.size w).alloc (Nat.le_refl _) (.cells ⟨[.string f, .string t, .int .i64 s, .int .i64 m, .int .i64 a, .int .i64 u, .slice A n k, .int .i64 g, .int .i64 z, .string p, .int .i64 e]⟩ 93)
  unfold maxLen at hf ht hp
  obtain ⟨hl0, hl1⟩ := hl
  have c0 := hB.cell 0 _ rfl
  have c1 := hB.cell 1 _ rfl
  have c6 := hB.cell 6 _ rfl
  have HB := Lib.hid hB; clear hB
  go_enter Tryz.func57, Tryz.ntmps57
  by_cases h1 : left - (f.size : Int) < 0
  · go_wp2
    go_ret
    exact ⟨⟨-1, rfl, .inl rfl⟩, hb0⟩
  by_cases h2 : left - (f.size : Int) - (t.size : Int) < 0
  · go_wp2
    go_ret
    exact ⟨⟨-1, rfl, .inl rfl⟩, hb0⟩
  go_wp2_with fail
  refine (sz_tps2 A k n (left - (f.size : Int) - (t.size : Int)) _ hn (by omega)).mono ?_; rintro e w1 ⟨⟨r, rfl, hr⟩, hb1⟩
  have c9 := (HB.out.below hb1).cell 9 _ rfl
  have hb2 := hb0.trans (hb1.mono hb0.size)
  clear hb1 hb0 c0 c1 c6 HB
  rcases hr with rfl | ⟨hr0, hr1, hr2⟩
  · go_wp2
    go_ret
    exact ⟨⟨-1, rfl, .inl rfl⟩, hb2⟩
  · have hrn : ¬ r < 0 := by omega
    by_cases h3 : r - (p.size : Int) < 0
    · go_wp2
      go_ret
      exact ⟨⟨-1, rfl, .inl rfl⟩, hb2⟩
    · go_wp2
      go_ret
      exact ⟨⟨_, rfl, .inr ⟨by omega, by omega, by omega⟩⟩, hb2⟩
set_option maxRecDepth 100000 in
set_option maxHeartbeats 2000000 in
theorem sz_ors2 (A : Option Addr) (cap : Nat) (l : List OrR) (left : Int) (w : World) (hA : RawK 11 orC w A l) (hs : OrMax l) (hn : l.length ≤ maxLen) (hl : 0 ≤ left ∧ left ≤ 1048576) :
    Calls Tryz.prog 24 #[.slice A l.length cap, .int .i64 left] w fun e w' => SzQ left (l.length ≤ 1048576 ∧ (∀ z ∈ l, z.h.length ≤ 1048576) ∧ szOr l l.length ≤ 12000000) e ∧ Below w.heap.size w w' := by
  have HA := Lib.hid hA; clear hA
  have HS := Lib.hid hs; clear hs
  unfold maxLen at hn
  obtain ⟨hl0, hl1⟩ := hl
  by_cases h1 : left - (l.length : Int) < 0
  · go_enter Tryz.func24, Tryz.ntmps24
    go_wp2
    go_ret
    exact ⟨⟨-1, rfl, .inl rfl⟩, Below.refl _ _⟩
  · go_enter Tryz.func24, Tryz.ntmps24
    go_wp2
    go_loopw [1, 5] (fun r i wr => ∃ (j : Nat) (x : Int), j ≤ l.length ∧ i = .int .i64 j ∧ r = .int .i64 x ∧ 0 ≤ x ∧ x ≤ left - l.length ∧ 2 * x + (szOr l j : Int) ≤ 2 * (left - l.length) + 10 * (j : Int) ∧ (∀ q (hq : q < l.length), q < j → l[q].h.length ≤ 1048576) ∧ Below w.heap.size w wr) (fun _ i _ => l.length - (intOf i).toNat)
    case atStart => exact ⟨0, _, Nat.zero_le _, rfl, rfl, by omega, by omega, by have : szOr l 0 = 0 := rfl; rw [this]; omega, fun q _ h => absurd h (Nat.not_lt_zero _), Below.refl _ _⟩
    case round =>
      obtain ⟨j, x, hj, rfl, rfl, hx0, hx1, hx2, hq, hb⟩ := hrel
      have HQ := Lib.hid hq; clear hq
      by_cases hlt : (j : Int) < (l.length : Int)
      · have hjn : j < l.length := by omega
        obtain ⟨b, o, rfl, hab, c0, c1, c2, c3, c4, c5, c6, c7, c8, c9, c10⟩ := (HA.out.below hb).or j hjn
        have hz := Lib.hid (HS.out l[j] (List.getElem_mem hjn))
        have hbz := hb.size
        go_wp2_with fail
        refine (sz_or2 _ _ _ _ _ _ _ _ _ _ _ _ _ x wr hz.out.1 hz.out.2.1 hz.out.2.2.1 hz.out.2.2.2 (by omega)).mono ?_; rintro e w1 ⟨⟨r, rfl, hr⟩, hb1⟩
        replace hb1 := hb.trans (hb1.mono hbz)
        clear c0 c1 c2 c3 c4 c5 c6 c7 c8 c9 c10 hz
        rcases hr with rfl | ⟨hr0, hr1, hr2⟩
        · go_wp2
          go_ret
          exact ⟨⟨-1, rfl, .inl rfl⟩, hb1⟩
        · have hrn : ¬ r < 0 := by omega
          go_wp2
          go_roundw
          case rel => exact ⟨j + 1, r, by omega, by go_num, rfl, hr0, by omega, by have := szOr_succ hjn; rw [this]; omega, fun q hq h => by
            rcases Nat.lt_or_ge q j with h' | h'
            · exact HQ.out q hq h'
            · obtain rfl : q = j := by omega
              exact hr2, hb1⟩
          case measure => simp [intOf]; omega
      · obtain rfl : j = l.length := by omega
        go_wp2
        go_ret
        exact ⟨⟨_, rfl, .inr ⟨hx0, by omega, by omega, fun z hz => by
          obtain ⟨q, hq, rfl⟩ := List.getElem_of_mem hz
          exact HQ.out q hq hq, by omega⟩⟩, hb⟩
set_option maxRecDepth 100000 in
set_option maxHeartbeats 4000000 in
theorem sz_wor2 (x : Wp) (left : Int) (w : World) (hR : WorRaw w x) (hm : WorMax x) (hl : 0 ≤ left ∧ left ≤ 1048576) :
    Calls Tryz.prog 7 #[worV x, .int .i64 left] w fun e w' => SzQ left (WorSz x ∧ szOr x.os x.os.length ≤ 12000000) e ∧ Below w.heap.size w w' := by
  obtain ⟨A0, k0, l, A1, k1, zs, c, A2, k2, os, A3, k3, bs, A4, k4, cs, n, A5, k5, ss, A6, k6, sk, m⟩ := x
  dsimp only [worV]
  have hB := Bx.new (T := 31) w [.slice A0 l.length k0, .slice A1 zs.length k1, .int .i64 c, .slice A2 os.length k2, .slice A3 bs.length k3, .slice A4 cs.length k4, .int .i64 n, .slice A5 ss.length k5, .slice A6 sk.length k6, .int .i64 m]
  have hb0 := (Below.refl w.heap.size w).alloc (Nat.le_refl _) (.cells ⟨[.slice A0 l.length k0, .slice A1 zs.length k1, .int .i64 c, .slice A2 os.length k2, .slice A3 bs.length k3, .slice A4 cs.length k4, .int .i64 n, .slice A5 ss.length k5, .slice A6 sk.length k6, .int .i64 m]⟩ 31)
  have HR := Lib.hid (hR.below hb0); clear hR
  have HM := Lib.hid hm; clear hm
  have HB := Lib.hid hB; clear hB
  obtain ⟨hl0, hl1⟩ := hl
  have c0 := HB.out.cell 0 _ rfl
  have c1 := HB.out.cell 1 _ rfl
  have c2 := HB.out.cell 2 _ rfl
  go_enter Tryz.func7, Tryz.ntmps7
  go_wp2_with fail
  change Calls _ _ _ (w.alloc (.cells ⟨[.slice A0 l.length k0, .slice A1 zs.length k1, .int .i64 c, .slice A2 os.length k2, .slice A3 bs.length k3, .slice A4 cs.length k4, .int .i64 n, .slice A5 ss.length k5, .slice A6 sk.length k6, .int .i64 m]⟩ 31)) _
  clear c0 c1 c2
  generalize w.alloc (.cells ⟨[.slice A0 l.length k0, .slice A1 zs.length k1, .int .i64 c, .slice A2 os.length k2, .slice A3 bs.length k3, .slice A4 cs.length k4, .int .i64 n, .slice A5 ss.length k5, .slice A6 sk.length k6, .int .i64 m]⟩ 31) = W at *
  refine (sz_net A0 k0 l A1 k1 zs.length c left W HR.out.l HM.out.l.1 HM.out.l.2.1 HM.out.l.2.2 (by omega)).mono ?_; rintro e w1 ⟨⟨r0, rfl, hr⟩, hb⟩
  have hbb := Lib.hid hb
  replace HB := Lib.hid (HB.out.below hb); clear hb
  obtain ⟨c_0, c_1, c_2, c_3, c_4, c_5, c_6, c_7, c_8, c_9⟩ := HB.out.c10
  rcases hr with rfl | ⟨ha0, hd0, hn0, hm0⟩
  · go_wp2
    go_ret
    exact ⟨⟨-1, rfl, .inl rfl⟩, hb0.trans (hbb.out.mono hb0.size)⟩
  have hneg0 : ¬ r0 < 0 := by omega
  go_wp2_with fail
  clear c_0 c_1 c_2 c_3 c_4 c_5 c_6 c_7 c_8 c_9
  refine (sz_ors2 A2 k2 os r0 w1 (HR.out.os.below hbb.out) HM.out.os.1 HM.out.os.2 (by omega)).mono ?_; rintro e w2 ⟨⟨r1, rfl, hr⟩, hb⟩
  replace hbb := Lib.hid (hbb.out.trans (hb.mono hbb.out.size))
  replace HB := Lib.hid (HB.out.below hb); clear hb
  obtain ⟨c_0, c_1, c_2, c_3, c_4, c_5, c_6, c_7, c_8, c_9⟩ := HB.out.c10
  rcases hr with rfl | ⟨ha1, hd1, hn1, hm1, HSO⟩
  · go_wp2
    go_ret
    exact ⟨⟨-1, rfl, .inl rfl⟩, hb0.trans (hbb.out.mono hb0.size)⟩
  have hneg1 : ¬ r1 < 0 := by omega
  go_wp2_with fail
  clear c_0 c_1 c_2 c_3 c_4 c_5 c_6 c_7 c_8 c_9
  refine (sz_bks A3 k3 bs.length r1 w2 HM.out.bs (by omega)).mono ?_; rintro e w3 ⟨⟨r2, rfl, hr⟩, hb⟩
  replace hbb := Lib.hid (hbb.out.trans (hb.mono hbb.out.size))
  replace HB := Lib.hid (HB.out.below hb); clear hb
  obtain ⟨c_0, c_1, c_2, c_3, c_4, c_5, c_6, c_7, c_8, c_9⟩ := HB.out.c10
  rcases hr with rfl | ⟨ha2, hd2, hn2⟩
  · go_wp2
    go_ret
    exact ⟨⟨-1, rfl, .inl rfl⟩, hb0.trans (hbb.out.mono hb0.size)⟩
  have hneg2 : ¬ r2 < 0 := by omega
  go_wp2_with fail
  clear c_0 c_1 c_2 c_3 c_4 c_5 c_6 c_7 c_8 c_9
  refine (sz_tps A4 k4 cs.length r2 w3 HM.out.cs (by omega)).mono ?_; rintro e w4 ⟨⟨r3, rfl, hr⟩, hb⟩
  replace hbb := Lib.hid (hbb.out.trans (hb.mono hbb.out.size))
  replace HB := Lib.hid (HB.out.below hb); clear hb
  obtain ⟨c_0, c_1, c_2, c_3, c_4, c_5, c_6, c_7, c_8, c_9⟩ := HB.out.c10
  rcases hr with rfl | ⟨ha3, hd3, hn3⟩
  · go_wp2
    go_ret
    exact ⟨⟨-1, rfl, .inl rfl⟩, hb0.trans (hbb.out.mono hb0.size)⟩
  have hneg3 : ¬ r3 < 0 := by omega
  go_wp2_with fail
  clear c_0 c_1 c_2 c_3 c_4 c_5 c_6 c_7 c_8 c_9
  refine (sz_scs A5 k5 ss r3 w4 (HR.out.ss.below hbb.out) HM.out.ss.1 HM.out.ss.2 (by omega)).mono ?_; rintro e w5 ⟨⟨r4, rfl, hr⟩, hb⟩
  replace hbb := Lib.hid (hbb.out.trans (hb.mono hbb.out.size))
  replace HB := Lib.hid (HB.out.below hb); clear hb
  obtain ⟨c_0, c_1, c_2, c_3, c_4, c_5, c_6, c_7, c_8, c_9⟩ := HB.out.c10
  rcases hr with rfl | ⟨ha4, hd4, hn4⟩
  · go_wp2
    go_ret
    exact ⟨⟨-1, rfl, .inl rfl⟩, hb0.trans (hbb.out.mono hb0.size)⟩
  have hneg4 : ¬ r4 < 0 := by omega
  go_wp2_with fail
  clear c_0 c_1 c_2 c_3 c_4 c_5 c_6 c_7 c_8 c_9
  refine (sz_ints A6 k6 sk.length r4 w5 HM.out.sk (by omega)).mono ?_; rintro e w6 ⟨⟨r5, rfl, hr⟩, hb⟩
  replace hbb := Lib.hid (hbb.out.trans (hb.mono hbb.out.size))
  replace HB := Lib.hid (HB.out.below hb); clear hb
  obtain ⟨c_0, c_1, c_2, c_3, c_4, c_5, c_6, c_7, c_8, c_9⟩ := HB.out.c10
  rcases hr with rfl | ⟨ha5, hd5, hn5⟩
  · go_wp2
    go_ret
    exact ⟨⟨-1, rfl, .inl rfl⟩, hb0.trans (hbb.out.mono hb0.size)⟩
  have hneg5 : ¬ r5 < 0 := by omega
  go_wp2
  go_ret
  exact ⟨⟨_, rfl, .inr ⟨ha5, by omega, ⟨⟨HM.out.l.1, by dsimp only; omega, by dsimp only; omega, hn1, hm1, by dsimp only; omega, by dsimp only; omega, by dsimp only; omega, by dsimp only; omega⟩, HSO⟩⟩⟩, hb0.trans (hbb.out.mono hb0.size)⟩
end Go.Proofs.YtadcmngooobeiabGreat

/- The mark of a World of the call's own. Written by mk/mkwor.py. -/
namespace Go.Proofs.YtadcmngooobeiabGreat
open Go.RowKit
theorem own_chg {w w' : World} {S : Nat → Prop} {base size n : Nat} {e : TypeId} {v : Value} {xs : List Value} (h : w.ownsRow base e size v n xs) (hc : Chg w w' S) (hs : ∀ k, v.ownBlock = some k → ¬ S k) : w'.ownsRow base e size v n xs := by
  refine ⟨h.1, ?_⟩
  rcases h.2 with hn | ⟨g, cap, cur, rfl, hb, hgg, rest⟩
  · exact .inl hn
  · exact .inr ⟨g, cap, cur, rfl, hb, (hc.block g (Array.getElem?_eq_some_iff.1 hgg).1 (hs g rfl)).trans hgg, rest⟩
theorem own_chg1 {w w' : World} {S : Nat → Prop} {base size n m cap g : Nat} {e : TypeId} {xs : List Value} (h : w.ownsRow base e size (.slice (some ⟨g, 0, none⟩) m cap) n xs) (hc : Chg w w' S) (hs : ¬ S g) : w'.ownsRow base e size (.slice (some ⟨g, 0, none⟩) m cap) n xs :=
  own_chg h hc (fun k e => by have e2 : g = k := Option.some.inj e; rw [← e2]; exact hs)
theorem Chg.mono {w w' : World} {S S' : Nat → Prop} (h : Chg w w' S) (hs : ∀ i, S i → S' i) : Chg w w' S' := ⟨h.os, h.tape, h.output, h.size, fun i hi hn => h.block i hi (fun x => hn (hs i x))⟩
theorem Bx.chg {w w' : World} {S : Nat → Prop} {T : TypeId} {B : Nat} {vs : List Value} (h : Bx T w B vs) (hc : Chg w w' S) (hs : ¬ S B) : Bx T w' B vs := (hc.block B h.lt hs).trans h
/-- the parts of a world behind its network, each in a block of its own -/
structure WorP (W : World) (lo : Nat) (g2 k2 : Nat) (os : List OrR) (g3 k3 : Nat) (bs : List Bk) (g4 k4 : Nat) (cs : List Tp) (g5 k5 : Nat) (ss : List Sc) (g6 k6 : Nat) (sk : List Int) : Prop where
  pos : RowO W lo g2 k2 os.length os
  pway : ∀ z ∈ os, OwnKtp W lo (.slice z.A z.h.length z.k) z.h
  pbs : OwnKbk W lo (.slice (some ⟨g3, 0, none⟩) bs.length k3) bs
  pcs : OwnKtp W lo (.slice (some ⟨g4, 0, none⟩) cs.length k4) cs
  pss : OwnKsc W lo (.slice (some ⟨g5, 0, none⟩) ss.length k5) ss
  psk : OwnI W lo (.slice (some ⟨g6, 0, none⟩) sk.length k6) sk
theorem szOr_of {x y : Wp} (e : y.dat = x.dat) : szOr y.os y.os.length = szOr x.os x.os.length := by
  have e2 : y.os.map OrR.d = x.os.map OrR.d := congrArg Wd.os e
  have e3 : ∀ l : List OrR, szOr l l.length = ((l.map OrR.d).map fun z => 10 + 2 * z.h.length).sum := fun l => by
    unfold szOr; rw [List.take_length, List.map_map]; rfl
  rw [e3, e3, e2]
set_option maxRecDepth 100000 in
set_option maxHeartbeats 8000000 in
theorem mark_wor (x : Wp) (lo g0 g1 g2 g3 g4 g5 g6 : Nat) (w : World) (h : WorO w lo x g0 g1 g2 g3 g4 g5 g6) (hz : WorSz x) (hs : szOr x.os x.os.length ≤ 12000000) (top : Nat) (htop : g6 < top) :
    Calls Tryz.prog 13 #[worV x, .int .i64 1] w fun e w' => (∃ r : Nat, e = .returned (.int .i64 (r : Int))) ∧ Chg w w' (fun i => lo ≤ i ∧ i < top) := by
  obtain ⟨A0, k0, l, A1, k1, zs, c, A2, k2, os, A3, k3, bs, A4, k4, cs, n, A5, k5, ss, A6, k6, sk, m⟩ := x
  obtain ⟨a0, a1, a2, a3, a4, a5, a6, hl, hzs, hos, hheld, hbs, hcs, hss, hsk, o0, o2, o3, o4, o5, o6⟩ := h
  obtain ⟨_, z0, z1, z2, zw, z3, z4, z5, z6⟩ := hz
  dsimp only at *
  subst a0 a1 a2 a3 a4 a5 a6
  dsimp only [worV]
  have hg6 : g6 < w.heap.size := (World.ownsRow.lt hsk g6 rfl).2
  have hb0 := (Below.refl w.heap.size w).alloc (Nat.le_refl _) (.cells ⟨[.slice (some ⟨g0, 0, none⟩) l.length k0, .slice (some ⟨g1, 0, none⟩) zs.length k1, .int .i64 c, .slice (some ⟨g2, 0, none⟩) os.length k2, .slice (some ⟨g3, 0, none⟩) bs.length k3, .slice (some ⟨g4, 0, none⟩) cs.length k4, .int .i64 n, .slice (some ⟨g5, 0, none⟩) ss.length k5, .slice (some ⟨g6, 0, none⟩) sk.length k6, .int .i64 m]⟩ 42)
  have HX := Lib.hid (Bx.new (T := 42) w [.slice (some ⟨g0, 0, none⟩) l.length k0, .slice (some ⟨g1, 0, none⟩) zs.length k1, .int .i64 c, .slice (some ⟨g2, 0, none⟩) os.length k2, .slice (some ⟨g3, 0, none⟩) bs.length k3, .slice (some ⟨g4, 0, none⟩) cs.length k4, .int .i64 n, .slice (some ⟨g5, 0, none⟩) ss.length k5, .slice (some ⟨g6, 0, none⟩) sk.length k6, .int .i64 m])
  have HN := Lib.hid (And.intro ((blk_of hl).1.below hb0) (hzs.below hb0))
  have HP := Lib.hid (show WorP (w.alloc (.cells ⟨[.slice (some ⟨g0, 0, none⟩) l.length k0, .slice (some ⟨g1, 0, none⟩) zs.length k1, .int .i64 c, .slice (some ⟨g2, 0, none⟩) os.length k2, .slice (some ⟨g3, 0, none⟩) bs.length k3, .slice (some ⟨g4, 0, none⟩) cs.length k4, .int .i64 n, .slice (some ⟨g5, 0, none⟩) ss.length k5, .slice (some ⟨g6, 0, none⟩) sk.length k6, .int .i64 m]⟩ 42)) lo g2 k2 os g3 k3 bs g4 k4 cs g5 k5 ss g6 k6 sk from ⟨hos.below hb0, fun z hz => ((hheld.1 z hz).2.2.2.below hb0).mono (by omega), hbs.below hb0, hcs.below hb0, hss.below hb0, hsk.below hb0⟩)
  have HH := Lib.hid (fun z (hz : z ∈ os) => show z.A = some ⟨z.b, 0, none⟩ ∧ g2 ≤ z.b ∧ z.b < g3 ∧ z.b ≠ g2 ∧ z.h.length ≤ 1048576 from ⟨(hheld.1 z hz).1, by have := (hheld.1 z hz).2.1; omega, o3.2 z hz, by have := (hheld.1 z hz).2.1; omega, zw z hz⟩)
  have HPW := Lib.hid hheld.2
  obtain ⟨S, hS⟩ : ∃ S : Nat → Prop, S = fun i => lo ≤ i ∧ i < top := ⟨_, rfl⟩
  have HS := Lib.hid (show ∀ i, lo ≤ i → i ≤ g6 → S i from fun i h1 h2 => by rw [hS]; exact ⟨h1, by omega⟩)
  have HC0 := Lib.hid (Chg.of_below (S := S) hb0)
  rw [← hS]
  have o31 := o3.1
  clear hS hl hzs hos hheld hbs hcs hss hsk hb0 zw o3
  obtain ⟨c0, c1, c2, c3, c4, c5, c6, c7, c8, c9⟩ := HX.out.c10
  go_enter Tryz.func13, Tryz.ntmps13
  go_wp2_with fail
  clear c0 c1 c2 c3 c4 c5 c6 c7 c8 c9
  change Calls _ _ _ (w.alloc (.cells ⟨[.slice (some ⟨g0, 0, none⟩) l.length k0, .slice (some ⟨g1, 0, none⟩) zs.length k1, .int .i64 c, .slice (some ⟨g2, 0, none⟩) os.length k2, .slice (some ⟨g3, 0, none⟩) bs.length k3, .slice (some ⟨g4, 0, none⟩) cs.length k4, .int .i64 n, .slice (some ⟨g5, 0, none⟩) ss.length k5, .slice (some ⟨g6, 0, none⟩) sk.length k6, .int .i64 m]⟩ 42)) _
  generalize w.alloc (.cells ⟨[.slice (some ⟨g0, 0, none⟩) l.length k0, .slice (some ⟨g1, 0, none⟩) zs.length k1, .int .i64 c, .slice (some ⟨g2, 0, none⟩) os.length k2, .slice (some ⟨g3, 0, none⟩) bs.length k3, .slice (some ⟨g4, 0, none⟩) cs.length k4, .int .i64 n, .slice (some ⟨g5, 0, none⟩) ss.length k5, .slice (some ⟨g6, 0, none⟩) sk.length k6, .int .i64 m]⟩ 42) = W0 at *
  generalize w.heap.size = X at *
  refine (mark_net g0 k0 l.length g1 k1 1 lo zs c W0 HN.out.1 HN.out.2 o0.2.2 z0 z1 (by omega) (by omega)).mono ?_; rintro e w1 ⟨rfl, u, hgu, hg1⟩
  have hc1 : Chg W0 w1 (fun i => lo ≤ i ∧ i < g2) := (Chg.of_grown hgu (fun i e => by have e2 : g0 = i := Option.some.inj e; rw [← e2]; exact ⟨o0.1, o2.1⟩)).trans (Chg.of_grown hg1 (fun i e => by have e2 : g1 = i := Option.some.inj e; rw [← e2]; exact ⟨o0.2.1, o2.2⟩))
  have HX1 := Lib.hid (HX.out.chg hc1 (by omega))
  have HP1 := Lib.hid (show WorP w1 lo g2 k2 os g3 k3 bs g4 k4 cs g5 k5 ss g6 k6 sk from ⟨own_chg1 HP.out.pos hc1 (by omega), fun z hz => own_chg (HP.out.pway z hz) hc1 (fun k e => by obtain ⟨h1, h2, _⟩ := HH.out z hz; rw [h1] at e; have e2 : z.b = k := Option.some.inj e; omega), own_chg1 HP.out.pbs hc1 (by omega), own_chg1 HP.out.pcs hc1 (by omega), own_chg1 HP.out.pss hc1 (by omega), own_chg1 HP.out.psk hc1 (by omega)⟩)
  have HC1 := Lib.hid (HC0.out.trans (hc1.mono (fun i hi => HS.out i hi.1 (by have := hi.2; omega))))
  clear hgu hg1 hc1 HX HP HC0 HN u
  obtain ⟨c0, c1, c2, c3, c4, c5, c6, c7, c8, c9⟩ := HX1.out.c10
  obtain ⟨m1, hm1⟩ : ∃ q, q = 1 + 6 * l.length + zs.length := ⟨_, rfl⟩
  rw [← hm1]
  have hm1b : m1 ≤ 8000000 := by omega
  have hm1p : 0 < m1 := by omega
  clear hm1
  go_wp2_with fail
  clear c0 c1 c2 c3 c4 c5 c6 c7 c8 c9
  refine (mark_ors g2 k2 os m1 lo g2 g3 w1 HP1.out.pos ⟨Nat.le_refl _, by omega⟩ (fun z hz => ⟨HP1.out.pway z hz, HH.out z hz⟩) HPW.out (by omega) hm1p (by omega) z2).mono ?_; rintro e w2 ⟨rfl, hc2⟩
  have HX2 := Lib.hid (HX1.out.chg hc2 (by omega))
  have HP2 := Lib.hid (And.intro (own_chg1 HP1.out.pbs hc2 (by omega)) (And.intro (own_chg1 HP1.out.pcs hc2 (by omega)) (And.intro (own_chg1 HP1.out.pss hc2 (by omega)) (own_chg1 HP1.out.psk hc2 (by omega)))))
  have HC2 := Lib.hid (HC1.out.trans (hc2.mono (fun i hi => HS.out i (by have := hi.1; omega) (by have := hi.2; omega))))
  clear hc2 HX1 HP1 HC1 HH HPW
  obtain ⟨c0, c1, c2, c3, c4, c5, c6, c7, c8, c9⟩ := HX2.out.c10
  obtain ⟨m2, hm2⟩ : ∃ q, q = m1 + szOr os os.length := ⟨_, rfl⟩
  rw [← hm2]
  have hm2b : m2 ≤ 20000000 := by omega
  have hm2p : 0 < m2 := by omega
  clear hm2
  go_wp2_with fail
  clear c0 c1 c2 c3 c4 c5 c6 c7 c8 c9
  refine (mark_bk (.slice (some ⟨g3, 0, none⟩) bs.length k3) m2 lo bs w2 HP2.out.1 z3 (by omega) (by omega)).mono ?_; rintro e w3 ⟨rfl, _, hg⟩
  have hc3 : Chg w2 w3 (fun i => i = g3) := Chg.of_grown hg (fun i e => (Option.some.inj e).symm)
  have HC3 := Lib.hid (HC2.out.trans (hc3.mono (fun i hi => HS.out i (by have h2 : i = g3 := hi; omega) (by have h2 : i = g3 := hi; omega))))
  have HX3 := Lib.hid (HX2.out.chg hc3 (by omega))
  have HP3 := Lib.hid (And.intro (own_chg1 (HP2.out.2.1) hc3 (by omega)) (And.intro (own_chg1 (HP2.out.2.2.1) hc3 (by omega)) (own_chg1 (HP2.out.2.2.2) hc3 (by omega))))
  clear hg hc3 HX2 HP2 HC2
  obtain ⟨c0, c1, c2, c3, c4, c5, c6, c7, c8, c9⟩ := HX3.out.c10
  obtain ⟨m3, hm3⟩ : ∃ q, q = m2 + 4 * bs.length := ⟨_, rfl⟩
  rw [← hm3]
  have hm3b : m3 ≤ 27000000 := by omega
  have hm3p : 0 < m3 := by omega
  clear hm3
  go_wp2_with fail
  clear c0 c1 c2 c3 c4 c5 c6 c7 c8 c9
  refine (mark_tp (.slice (some ⟨g4, 0, none⟩) cs.length k4) m3 lo cs w3 HP3.out.1 z4 (by omega) (by omega)).mono ?_; rintro e w4 ⟨rfl, _, hg⟩
  have hc4 : Chg w3 w4 (fun i => i = g4) := Chg.of_grown hg (fun i e => (Option.some.inj e).symm)
  have HC4 := Lib.hid (HC3.out.trans (hc4.mono (fun i hi => HS.out i (by have h2 : i = g4 := hi; omega) (by have h2 : i = g4 := hi; omega))))
  have HX4 := Lib.hid (HX3.out.chg hc4 (by omega))
  have HP4 := Lib.hid (And.intro (own_chg1 (HP3.out.2.1) hc4 (by omega)) (own_chg1 (HP3.out.2.2) hc4 (by omega)))
  clear hg hc4 HX3 HP3 HC3
  obtain ⟨c0, c1, c2, c3, c4, c5, c6, c7, c8, c9⟩ := HX4.out.c10
  obtain ⟨m4, hm4⟩ : ∃ q, q = m3 + 2 * cs.length := ⟨_, rfl⟩
  rw [← hm4]
  have hm4b : m4 ≤ 34000000 := by omega
  have hm4p : 0 < m4 := by omega
  clear hm4
  go_wp2_with fail
  clear c0 c1 c2 c3 c4 c5 c6 c7 c8 c9
  refine (mark_sc (.slice (some ⟨g5, 0, none⟩) ss.length k5) m4 lo ss w4 HP4.out.1 z5 (by omega) (by omega)).mono ?_; rintro e w5 ⟨rfl, _, hg⟩
  have hc5 : Chg w4 w5 (fun i => i = g5) := Chg.of_grown hg (fun i e => (Option.some.inj e).symm)
  have HC5 := Lib.hid (HC4.out.trans (hc5.mono (fun i hi => HS.out i (by have h2 : i = g5 := hi; omega) (by have h2 : i = g5 := hi; omega))))
  have HX5 := Lib.hid (HX4.out.chg hc5 (by omega))
  have HP5 := Lib.hid (own_chg1 (HP4.out.2) hc5 (by omega))
  clear hg hc5 HX4 HP4 HC4
  obtain ⟨c0, c1, c2, c3, c4, c5, c6, c7, c8, c9⟩ := HX5.out.c10
  obtain ⟨m5, hm5⟩ : ∃ q, q = m4 + 6 * ss.length := ⟨_, rfl⟩
  rw [← hm5]
  have hm5b : m5 ≤ 41000000 := by omega
  have hm5p : 0 < m5 := by omega
  clear hm5
  go_wp2_with fail
  clear c0 c1 c2 c3 c4 c5 c6 c7 c8 c9
  refine (mark_ints (.slice (some ⟨g6, 0, none⟩) sk.length k6) m5 lo sk w5 HP5.out z6 (by omega)).mono ?_; rintro e w6 ⟨rfl, _, hg⟩
  have hc6 : Chg w5 w6 (fun i => i = g6) := Chg.of_grown hg (fun i e => (Option.some.inj e).symm)
  have HC6 := Lib.hid (HC5.out.trans (hc6.mono (fun i hi => HS.out i (by have h2 : i = g6 := hi; omega) (by have h2 : i = g6 := hi; omega))))
  go_wp2
  go_ret
  exact ⟨⟨_, rfl⟩, HC6.out⟩
end Go.Proofs.YtadcmngooobeiabGreat

/- The contract of impl.PlacesOf. -/
import Derived.Test.YtamlbiagjipedaaPlM
import Derived.Test.YtamlbiagjipedaaBb
import Derived.Test.YtamlbiagjipedaaShelfS
import Derived.Sort.OwnSorted
namespace Go.Proofs.Ytamlbiagjipedaa
open Go.RowKit Go.Sort Go.Lib
def flatS (l : List Lg) : List ByteArray := l.flatMap fun r => [r.f, r.t]
theorem flatS_len (l : List Lg) : (flatS l).length = 2 * l.length := by
  unfold flatS
  induction l with
  | nil => rfl
  | cons r l ih => rw [List.flatMap_cons, List.length_append, ih]; simp; omega
theorem flatS_snoc (l : List Lg) (k : Nat) (hk : k < l.length) : flatS (l.take (k + 1)) = flatS (l.take k) ++ [l[k].f, l[k].t] := by
  unfold flatS
  rw [List.take_succ_eq_append_getElem hk, List.flatMap_append, List.flatMap_singleton]
/-- the places of legs, in order, each once -/
def placesB (l : List Lg) : List ByteArray := ofL (placesL (lists (flatS l)))
theorem placesB_len (l : List Lg) : (placesB l).length ≤ 2 * l.length := by
  unfold placesB
  have := pl_len (lists (flatS l))
  rw [lists_len, flatS_len] at this
  rw [ofL_len]; exact this
theorem enc_lists (l : List ByteArray) : (lists l).map encStr = strV l := by
  unfold lists strV
  rw [List.map_map]
  exact List.map_congr_left fun x _ => by cases x; rfl
theorem enc_ofL (l : List (List UInt8)) : strV (ofL l) = l.map encStr := by
  unfold ofL strV
  rw [List.map_map]; rfl
theorem heap_put {w : World} {g n : Nat} {cur : Array Value} {e : TypeId} {fr : Nat × Nat} (d : Array (List UInt8)) (hb : w.heap[g]? = some (.cells cur e fr)) :
    (putRow encStr (Sort.ahead w n) g 0 d).heap[g]? = some (.cells (putCells encStr 0 d cur) e fr) := by
  simp [putRow, mapBlock, Sort.ahead, Array.getElem?_modify, hb, onCells]
theorem grown_put {w : World} {g n : Nat} (d : Array (List UInt8)) : w.grownBy (putRow encStr (Sort.ahead w n) g 0 d) (some g) := by
  refine ⟨rfl, rfl, rfl, by simp, fun k hk hne => ?_⟩
  have : g ≠ k := fun e => hne (by rw [e])
  simp [putRow, mapBlock, Sort.ahead, Array.getElem?_modify, this]
theorem sort_strs {w : World} {base g cap : Nat} {l : List ByteArray} (h : OwnStr w base (.slice (some ⟨g, 0, none⟩) l.length cap) l) (hn : l.length ≤ 17592186044415) :
    Calls Try.prog 89 #[.slice (some ⟨g, 0, none⟩) l.length cap] w fun e w' => e = .returned (.tuple #[]) ∧ OwnStr w' base (.slice (some ⟨g, 0, none⟩) l.length cap) (ofL ((lists l).mergeSort fun x y => decide (x ≤ y))) ∧ w.grownBy w' (some g) := by
  rcases h.2 with ⟨e, _⟩ | ⟨g', c, cur, e, hb, hblk, h1, h2, h3, h4⟩
  · cases e
  cases e
  rw [Nat.mul_one] at h4
  have hl : (lists l).length = l.length := lists_len l
  have hz : ((lists l).mergeSort fun x y => decide (x ≤ y)).length = (lists l).length := List.length_mergeSort _
  have hH := holds_of_block (ss := lists l) hblk (by rw [hl, h4, enc_lists])
  have hS := Try.slices_Sort_string g 0 cap (lists l) w hH (Array.getElem?_eq_some_iff.1 hblk).1 (by rw [hl]; omega)
  rw [hl] at hS
  refine hS.mono ?_
  rintro e w' ⟨rfl, n, os, rfl⟩
  refine ⟨rfl, ?_, grownBy_sorted _⟩
  have := ownsRow_sorted (n := n) (os := os) (ss := lists l) hz hb hblk (by rw [hl]; exact h1) h2 (by rw [h3])
  unfold OwnStr
  rw [enc_ofL, ofL_len, hz]
  rw [hl] at this ⊢
  exact this
theorem compact_strs {w : World} {base g cap : Nat} {l : List ByteArray} (h : OwnStr w base (.slice (some ⟨g, 0, none⟩) l.length cap) l) (hn : l.length ≤ 17592186044415) :
    Calls Try.prog 90 #[.slice (some ⟨g, 0, none⟩) l.length cap] w fun e w' => ∃ v, e = .returned v ∧ OwnStr w' base v (ofL (Lib.compact (lists l))) ∧ w.grownBy w' (some g) := by
  rcases h.2 with ⟨e, _⟩ | ⟨g', c, cur, e, hb, hblk, h1, h2, h3, h4⟩
  · cases e
  cases e
  rw [Nat.mul_one] at h4
  have hl : (lists l).length = l.length := lists_len l
  have hc := Lib.compact_length_le (lists l)
  have hH := holds_of_block (ss := lists l) hblk (by rw [hl, h4, enc_lists])
  have hS := Try.slices_Compact_string g 0 cap (lists l) w hH (by rw [hl]; omega) (by rw [hl]; exact h1)
  rw [hl] at hS
  refine hS.mono ?_
  rintro e w' ⟨rfl, q, rfl⟩
  refine ⟨_, rfl, ?_, grown_put _⟩
  unfold OwnStr
  rw [enc_ofL, ofL_len]
  refine ⟨by simp, .inr ⟨g, cap, _, rfl, hb, heap_put _ hblk, by omega, h2, by simp [putCells, h3], ?_⟩⟩
  have ht := take_putCells cur (Lib.compact (lists l) ++ List.replicate (l.length - (Lib.compact (lists l)).length) []) (by rw [List.length_append, List.length_replicate, h3]; omega)
  have hx : (Lib.compact (lists l) ++ List.replicate (l.length - (Lib.compact (lists l)).length) ([] : List UInt8)).length = l.length := by rw [List.length_append, List.length_replicate]; omega
  rw [hx] at ht
  have h5 := congrArg (List.take (Lib.compact (lists l)).length) ht
  rw [List.take_take, Nat.min_eq_left (by omega), List.map_append, List.take_left' (by simp)] at h5
  rw [Nat.mul_one]
  exact h5
set_option maxRecDepth 100000 in
set_option maxHeartbeats 2000000 in
theorem places_impl (A : Option Addr) (ca : Nat) (l : List Lg) (D : Option Addr) (cd m : Nat) (x : Int) (w : World) (hA : InK 6 lgC w A l) (hn : l.length ≤ 1048576) :
    Calls Try.prog 73 #[.agg #[.slice A l.length ca, .slice D m cd, .int .i64 x]] w fun e w' => (∃ v, e = .returned v ∧ OwnStr w' w.heap.size v (placesB l)) ∧ RowKit.Below w.heap.size w w' := by
  obtain ⟨i0, hi0, hz0, hz1, hz2⟩ := info_parts str_info
  have hB := Box3.new (T := 32) (v0 := .slice A l.length ca) (v1 := .slice D m cd) (v2 := .int .i64 x) w
  have hb0 := (Below.refl w.heap.size w).alloc (Nat.le_refl _) (.cells #[.slice A l.length ca, .slice D m cd, .int .i64 x] 32)
  have HA := Lib.hid hA; clear hA
  go_enter Try.func73, Try.ntmps73
  go_wp2_with (at_make; refine wpList_make_own _ rfl _ _ 60 rfl w.heap.size 9 i0 _ 1 Try.underlying60 hi0 hz0 hz1 _ _ _ (2 * l.length) rfl rfl (by omega) ?c1 ?c2 ?c3 ?_)
  case c1 => rw [hz2]; omega
  case c2 => unfold maxLen; omega
  case c3 => exact hb0.size
  intro w1 hown1 hg1
  have hb1 : RowKit.Below w.heap.size w w1 := hb0.grown hg1 hb0.size (by simp)
  have hbW := (RowKit.Below.refl _ _).grown hg1 (Nat.le_refl _) (by simp)
  have hB1 := hB.below hbW
  obtain ⟨c0, c1, c2⟩ := hB1.cells
  clear hB hb0 hbW hg1 hB1
  go_wp2
  clear c0 c1 c2
  go_loopw [3, 14] (fun v i wr => ∃ k : Nat, k ≤ l.length ∧ i = .int .i64 k ∧ OwnStr wr w.heap.size v (flatS (l.take k)) ∧ RowKit.Below w.heap.size w wr) (fun _ i _ => l.length - (intOf i).toNat)
  case atStart => exact ⟨0, Nat.zero_le _, rfl, hown1, hb1⟩
  case round =>
    obtain ⟨k, hk, rfl, hown, hbb⟩ := hrel
    by_cases hlt : (k : Int) < (l.length : Int)
    · have hkn : k < l.length := by omega
      obtain ⟨g, rfl, hg, c0, c1, c2, c3, c4, c5⟩ := (HA.out.below hbb).lg k hkn
      have HF := Lib.hid (flatS_snoc l k hkn)
      have hfl : (flatS (l.take k)).length = 2 * k := by rw [flatS_len, List.length_take, Nat.min_eq_left hk]
      obtain ⟨y, hy⟩ : ∃ y, y = l[k] := ⟨_, rfl⟩
      rw [← hy] at c0 c1 c2 c3 c4 c5 HF
      clear hy
      have hsz := hbb.size
      let L : Obj := .cells #[.string y.f, .string y.t, .int .i64 y.s, .int .i64 y.k, .int .i64 y.d, .int .i64 y.r] 66
      have hnw : ∀ j u, (strV [y.f, y.t])[j]? = some u → ((wr.alloc L).alloc (.cells #[.string y.f, .string y.t] 9)).cell? ((⟨wr.heap.size + 1, 0, none⟩ : Addr).add j) = some u := by
        have h := World.news_of_block (cs := #[.string y.f, .string y.t]) (t := 9) (fr := (0, 0)) (heap_alloc_new (wr.alloc L) (.cells #[.string y.f, .string y.t] 9))
        rw [show (wr.alloc L).heap.size = wr.heap.size + 1 by simp] at h
        exact h
      have h1c : ∀ u ∈ strV [y.f, y.t], u.oneCell' = true := by
        intro u hu
        obtain ⟨z, _, rfl⟩ := List.mem_map.1 hu; rfl
      have hc3 : (flatS (l.take k)).length + 2 ≤ maxLen := by rw [hfl]; unfold maxLen; omega
      have hc4 : ((flatS (l.take k)).length + 2) * 16 ≤ 140737488355328 := by rw [hfl]; omega
      have hc5 : w.heap.size ≤ ((wr.alloc L).alloc (.cells #[.string y.f, .string y.t] 9)).heap.size := by simp; omega
      have HW := Lib.hid hnw; clear hnw hfl
      unfold OwnStr at hown
      go_wp2_with (at_builtin; refine wpList_append_own _ rfl (.tmp 18) (.tmp 23) 60 rfl w.heap.size 9 i0 _ 1 16 Try.underlying60 hi0 hz0 hz1 hz2 rfl (by omega) _ _ _ rfl ((hown.alloc L).alloc _) ⟨wr.heap.size + 1, 0, none⟩ 2 2 (strV [y.f, y.t]) rfl rfl HW.out h1c hc3 hc4 hc5 ?_; intro v' w4 hown' hg' _)
      go_roundw
      case rel =>
        refine ⟨k + 1, by omega, by go_num, ?_, ((hbb.alloc hsz _).alloc (by simp; omega) _).grown hg' hc5 (fun g h => (hown.lt g h).1)⟩
        rw [HF.out]
        unfold OwnStr
        rw [strV_app, List.length_append]
        exact hown'
      case measure => simp [intOf]; omega
    · obtain rfl : k = l.length := by omega
      rw [List.take_length] at hown
      have HP := Lib.hid (show ofL (Lib.compact (lists (ofL ((lists (flatS l)).mergeSort fun x y => decide (x ≤ y))))) = placesB l by rw [lists_ofL, compact_sort]; rfl)
      by_cases h0 : flatS l = []
      · have HE := Lib.hid (show placesB l = [] by unfold placesB; rw [h0]; rfl)
        rw [h0] at hown
        obtain ⟨B, cap, rfl⟩ := own_empty hown
        have HO := Lib.hid hown; clear hown h0
        go_wp2_with fail
        refine (Try.slices_Sort_string_none B cap wr).mono ?_; rintro e w' ⟨rfl, rfl⟩
        go_wp2_with fail
        refine (Try.slices_Compact_string_empty B cap w').mono ?_; rintro e w'' ⟨rfl, rfl⟩
        go_wp2
        go_ret
        exact ⟨⟨_, rfl, by rw [HE.out]; exact HO.out⟩, hbb⟩
      · have hpos : 0 < (flatS l).length := List.length_pos_iff.2 h0
        have hlen : (flatS l).length ≤ 17592186044415 := by rw [flatS_len]; omega
        obtain ⟨g, cap, rfl, hbg, hgl⟩ := World.ownsRow.form hown hpos
        have hz : (ofL ((lists (flatS l)).mergeSort fun x y => decide (x ≤ y))).length = (flatS l).length := by rw [ofL_len, List.length_mergeSort, lists_len]
        have HS := Lib.hid (sort_strs hown hlen)
        clear h0 hown
        go_wp2_with fail
        refine HS.out.mono ?_; rintro e w2 ⟨rfl, ho2, hg2⟩
        have hb2 := hbb.grown hg2 hbb.size (fun k h => by cases h; exact hbg)
        rw [← hz] at ho2 hlen
        have HC := Lib.hid (compact_strs ho2 hlen)
        rw [hz] at HC
        clear HS ho2 hlen
        go_wp2_with fail
        refine HC.out.mono ?_; rintro e w3 ⟨v', rfl, ho3, hg3⟩
        rw [HP.out] at ho3
        have HO := Lib.hid ho3; clear ho3
        go_wp2
        go_ret
        exact ⟨⟨_, rfl, HO.out⟩, hb2.grown hg3 hb2.size (fun k h => by cases h; exact hbg)⟩
end Go.Proofs.Ytamlbiagjipedaa

/- Bookings struck by a closure: slices.DeleteFunc on a row of the call's own. -/
import Derived.Test.YtodphbnbljpegaaBkOps
import Derived.Laws.CopyRow
import Derived.Shelf.Abstract
namespace Go.Proofs.Ytodphbnbljpegaa
open Go.RowKit
theorem only_row (w : World) (g : Nat) (cs : Array Value) : w.grownBy (w.setRow g cs) (some g) :=
  ⟨rfl, rfl, rfl, by simp, fun i _ hn => setRow_other w g i cs (fun e => hn (by rw [e]))⟩
theorem zero_bks (m : Nat) : ((Builtin.zeroCells (Value.agg #[.int .i64 0, .int .i64 0, .int .i64 0, .int .i64 0]).cells m).toList).length = m * 4 ∧ ∀ v ∈ (Builtin.zeroCells (Value.agg #[.int .i64 0, .int .i64 0, .int .i64 0, .int .i64 0]).cells m).toList, v.oneCell' = true := by
  have h4 : (Value.agg #[.int .i64 0, .int .i64 0, .int .i64 0, .int .i64 0]).cells = #[.int .i64 0, .int .i64 0, .int .i64 0, .int .i64 0] := by simp [Value.cells]
  rw [h4]
  refine ⟨by simp [Builtin.zeroCells], fun v hv => ?_⟩
  simp only [Builtin.zeroCells, Array.toList_map, List.mem_map] at hv
  obtain ⟨i, _, rfl⟩ := hv
  have : i % 4 = 0 ∨ i % 4 = 1 ∨ i % 4 = 2 ∨ i % 4 = 3 := by omega
  show ((#[Value.int .i64 0, .int .i64 0, .int .i64 0, .int .i64 0] : Array Value)[i % 4]!).oneCell' = true
  rcases this with e | e | e | e <;> rw [e] <;> rfl
theorem clear_row {w : World} {b G c : Nat} {L : List Bk} (h : RowB w b G c L) (i : Nat) (hi : i ≤ L.length) : ∃ w', (∀ ty, (Builtin.clear_ #[28] ty #[.slice (some ⟨G, i * 4, none⟩) (L.length - i) (c - i)]).run Try.prog w = .ok (.tuple #[]) w') ∧ RowB w' b G c (L.take i) ∧ w.grownBy w' (some G) := by
  rcases Nat.lt_or_ge i L.length with hlt | hge
  · obtain ⟨m, hm⟩ : ∃ m, L.length - i = m + 1 := ⟨L.length - i - 1, by omega⟩
    rcases h.2 with ⟨e, _⟩ | ⟨g, cap, cur, e, hb, hg, hnc, hcm, hcs, htk⟩
    · cases e
    · cases e
      obtain ⟨hzl, hz1⟩ := zero_bks (m + 1)
      generalize hZ : (Builtin.zeroCells (Value.agg #[.int .i64 0, .int .i64 0, .int .i64 0, .int .i64 0]).cells (m + 1)).toList = Z at hzl hz1
      have hst := run_storeCells_at Try.prog G (i * 4) 97 Z 0 cur w hg (by omega) hz1
      refine ⟨w.setRow G (cur.toList.take (i * 4 + 0) ++ Z ++ cur.toList.drop (i * 4 + 0 + Z.length)).toArray, fun ty => ?_, ?_, only_row _ _ _⟩
      · rw [hm]
        simp [Builtin.clear_, run_underlying Try.underlying28, Try.zeroValue97, hZ, hst]
      · have hl : (L.take i).length = i := by rw [List.length_take]; omega
        refine ⟨by rw [flat_len bkC_len], .inr ⟨G, c, _, rfl, hb, Go.setRow_heap w G cur _ _ _ hg, by omega, hcm, ?_, ?_⟩⟩
        · simp; omega
        · rw [hl, ← flatT bkC_len L i hi, ← htk, List.take_take, Nat.min_eq_left (by omega)]
          simp only [Nat.add_zero, List.append_assoc]
          rw [List.take_left' (by rw [List.length_take, Array.length_toList]; omega)]
  · obtain rfl : i = L.length := by omega
    refine ⟨w, fun ty => ?_, by rw [List.take_length]; exact h, only_refl _ _⟩
    rw [Nat.sub_self]
    simp [Builtin.clear_, run_underlying Try.underlying28]
theorem del_no {p : Bk → Bool} {bs : List Bk} (h : ∀ j (_ : j < bs.length), p bs[j] = false) : bs.filter (fun y => !p y) = bs := by
  rw [List.filter_eq_self]
  intro y hy
  obtain ⟨j, hj, rfl⟩ := List.getElem_of_mem hy
  simp [h j hj]
theorem del_first {p : Bk → Bool} {bs : List Bk} {k : Nat} (hk : k < bs.length) (hp : p bs[k] = true) (h : ∀ j (_ : j < bs.length), j < k → p bs[j] = false) : (bs.take (k + 1)).filter (fun y => !p y) = bs.take k := by
  rw [filt_no hk (by simp [hp]), List.filter_eq_self]
  intro y hy
  obtain ⟨j, hj, rfl⟩ := List.getElem_of_mem hy
  have hj' : j < k := by rw [List.length_take] at hj; omega
  simp [h j (by omega) hj']
/-- how a row stands while what a closure says is struck from it: k kept of the first j -/
structure Struck (p : Bk → Bool) (bs L : List Bk) (k j : Nat) : Prop where
  len : L.length = bs.length
  lt : k < j
  le : j ≤ bs.length
  kept : L.take k = (bs.take j).filter (fun y => !p y)
  rest : L.drop j = bs.drop j
theorem Struck.get {p : Bk → Bool} {bs L : List Bk} {k j : Nat} (h : Struck p bs L k j) (hj : j < bs.length) : ∃ h' : j < L.length, L[j] = bs[j] := by
  refine ⟨by rw [h.len]; exact hj, ?_⟩
  have h1 := congrArg (fun l => l[0]?) h.rest
  simp only [List.getElem?_drop, Nat.add_zero] at h1
  rw [List.getElem?_eq_getElem (by rw [h.len]; exact hj), List.getElem?_eq_getElem hj] at h1
  exact Option.some.inj h1
theorem Struck.skip {p : Bk → Bool} {bs L : List Bk} {k j : Nat} (h : Struck p bs L k j) (hj : j < bs.length) (hp : p bs[j] = true) : Struck p bs L k (j + 1) :=
  ⟨h.len, by have := h.lt; omega, hj, by rw [h.kept, filt_no hj (by simp [hp])], by
    have h1 := congrArg (List.drop 1) h.rest
    rwa [List.drop_drop, List.drop_drop] at h1⟩
theorem Struck.keep {p : Bk → Bool} {bs L : List Bk} {k j : Nat} (h : Struck p bs L k j) (hj : j < bs.length) (hp : p bs[j] = false) : Struck p bs (L.set k bs[j]) (k + 1) (j + 1) := by
  have hlt := h.lt
  have hl := h.len
  refine ⟨by rw [List.length_set, hl], by omega, hj, ?_, ?_⟩
  · rw [filt_yes hj (by simp [hp]), ← h.kept, List.take_succ_eq_append_getElem (by rw [List.length_set]; omega), List.take_set_of_le (Nat.le_refl k), List.getElem_set_self]
  · rw [List.drop_set_of_lt (by omega)]
    have h1 := congrArg (List.drop 1) h.rest
    rwa [List.drop_drop, List.drop_drop] at h1
theorem Struck.done {p : Bk → Bool} {bs L : List Bk} {k : Nat} (h : Struck p bs L k bs.length) : L.take k = bs.filter (fun y => !p y) ∧ (bs.filter (fun y => !p y)).length = k ∧ k ≤ L.length := by
  have h1 := h.kept
  rw [List.take_length] at h1
  exact ⟨h1, by rw [← h1, List.length_take, h.len]; have := h.lt; omega, by rw [h.len]; have := h.lt; omega⟩
set_option maxRecDepth 100000 in
set_option maxHeartbeats 4000000 in
theorem del_bk (p : Bk → Bool) (gf : Nat) (lb : Array Value) (b G c : Nat) (K : World → Prop) (hK : ∀ W W', K W → W.grownBy W' (some G) → K W') (eg : ∀ args w, (callFunc gf args).run Try.prog w = .ok (.enter gf args) w) (bs : List Bk) (w : World) (hr : RowB w b G c bs) (hn : bs.length ≤ 1048576) (hs : SaysB gf lb p bs K) (hw : K w) :
    Calls Try.prog 85 #[.slice (some ⟨G, 0, none⟩) bs.length c, .func (.func gf) #[] lb] w fun e w' => e = .returned (.slice (some ⟨G, 0, none⟩) (bs.filter fun y => !p y).length c) ∧ RowB w' b G c (bs.filter fun y => !p y) ∧ w.grownBy w' (some G) := by
  have hK1 : ∀ W W', K W → Below W.heap.size W W' → K W' := fun W W' h hb => hK W W' h (only_of_below hb G)
  have HIF := Lib.hid (fun W hA hW => idxf_bk p gf lb K hK1 eg (some ⟨G, 0, none⟩) c bs W hA hn hs hW)
  have HR := Lib.hid hr; clear hr
  have HS := Lib.hid hs; clear hs
  have HK := Lib.hid hK; have HW := Lib.hid hw; clear hK hw hK1
  have hc : bs.length ≤ c := by
    rcases HR.out.2 with ⟨e, _⟩ | ⟨g, cap, cur, e, hb, hg, hnc, _⟩
    · cases e
    · cases e; exact hnc
  go_enter Try.func85, Try.ntmps85
  go_wp2_with fail
  refine (HIF.out w (ins_row HR.out bkC_len rfl) HW.out).mono ?_; rintro e w1 ⟨rfl, hhit, hmiss, hb1⟩
  have HR1 := Lib.hid (OwnK.below HR.out hb1)
  have HW1 := Lib.hid (HK.out w w1 HW.out (only_of_below hb1 G))
  have HO1 := Lib.hid (only_of_below hb1 G)
  clear hb1 HIF
  by_cases hm : idxB p bs = -1
  · have HF := Lib.hid (del_no (hmiss hm))
    clear hhit hmiss
    rw [hm]
    go_wp2
    go_ret
    rw [HF.out]
    exact ⟨rfl, HR1.out, HO1.out⟩
  · obtain ⟨k0, hk0⟩ : ∃ k0 : Nat, idxB p bs = k0 := by
      unfold idxB at hm ⊢
      cases h : bs.findIdx? p with
      | none => rw [h] at hm; exact absurd rfl hm
      | some k => exact ⟨k, rfl⟩
    obtain ⟨hkn, ⟨_, hpk⟩, hbef⟩ := hhit k0 hk0
    have HS0 := Lib.hid (show Struck p bs bs k0 (k0 + 1) from ⟨rfl, by omega, by omega, (del_first hkn hpk hbef).symm, rfl⟩)
    clear hhit hmiss hpk hbef hm
    rw [hk0]
    clear hk0
    go_wp2
    rw [show ((k0 : Int) == -1) = false from by rw [beq_eq_false_iff_ne]; omega]
    go_loopw [5, 6] (fun i j wr => ∃ k jj : Nat, i = .int .i64 k ∧ j = .int .i64 jj ∧ k < jj ∧ jj ≤ bs.length ∧ ∃ L, Hid (Struck p bs L k jj) ∧ Hid (RowB wr b G c L) ∧ Hid (K wr) ∧ w.grownBy wr (some G)) (fun i j _ => bs.length - (intOf j).toNat)
    case atStart => exact ⟨k0, k0 + 1, rfl, by go_num, by omega, by omega, bs, HS0, HR1, HW1, HO1.out⟩
    case round =>
      obtain ⟨k, jj, rfl, rfl, hkj, hjn, L, hst, hrw, hkw, hgr⟩ := hrel
      have hLn : L.length = bs.length := hst.out.len
      by_cases hlt : (jj : Int) < (bs.length : Int)
      · have hj : jj < bs.length := by omega
        obtain ⟨hj', hge⟩ := hst.out.get hj
        have hA := ins_row hrw.out bkC_len rfl
        obtain ⟨g0, e0, hg0, c0, c1, c2, c3⟩ := hA.bk jj hj'
        obtain ⟨g1, e1, hg1, d0, d1, d2, d3⟩ := hA.bk k (by omega)
        cases e0; cases e1
        rw [hge] at c0 c1 c2 c3
        have HC := Lib.hid (fun V => HS.out (wr.alloc V) bs[jj] (List.getElem_mem hj) (HK.out _ _ hkw.out (only_of_below ((Below.refl _ _).alloc (Nat.le_refl _) V) G)))
        have HY := Lib.hid (fun h => hst.out.skip hj h)
        have HN := Lib.hid (fun h => hst.out.keep hj h)
        have hkL : k < L.length := by omega
        clear hA hg1 hst hge
        generalize bs[jj] = y at c0 c1 c2 c3 HC HY HN
        have HGR := Lib.hid hgr; clear hgr
        cases hq : p y with
        | true =>
          rw [hq] at HC
          have HT := Lib.hid (HY.out hq)
          clear HY HN hq d0 d1 d2 d3
          go_wp2_with (go_at_fn gf; refine (HC.out _).mono ?_; rintro e w' ⟨rfl, hb1⟩)
          have hb' : Below wr.heap.size wr w' := ((Below.refl _ _).alloc (Nat.le_refl _) _).trans (hb1.mono (by simp))
          clear hb1
          go_roundw
          case rel => exact ⟨k, jj + 1, rfl, by go_num, by omega, by omega, L, HT, Lib.hid (OwnK.below hrw.out hb'), Lib.hid (HK.out _ _ hkw.out (only_of_below hb' G)), only_trans HGR.out (only_of_below hb' G)⟩
          case measure => simp [intOf]; omega
        | false =>
          rw [hq] at HC
          have HT := Lib.hid (HN.out hq)
          clear HY HN hq
          go_wp2_with fail
          go_at_fn gf
          refine (HC.out _).mono ?_; rintro e w' ⟨rfl, hb1⟩
          have b0' : w'.cell? ⟨wr.heap.size, 0, none⟩ = some (.int .i64 y.h) := (hb1.cell (p := ⟨wr.heap.size, 0, none⟩) (by simp)).trans (by simp)
          have b1' : w'.cell? ⟨wr.heap.size, 1, none⟩ = some (.int .i64 y.g) := (hb1.cell (p := ⟨wr.heap.size, 1, none⟩) (by simp)).trans (by simp)
          have b2' : w'.cell? ⟨wr.heap.size, 2, none⟩ = some (.int .i64 y.d) := (hb1.cell (p := ⟨wr.heap.size, 2, none⟩) (by simp)).trans (by simp)
          have b3' : w'.cell? ⟨wr.heap.size, 3, none⟩ = some (.int .i64 y.m) := (hb1.cell (p := ⟨wr.heap.size, 3, none⟩) (by simp)).trans (by simp)
          have hb' : Below wr.heap.size wr w' := ((Below.refl _ _).alloc (Nat.le_refl _) _).trans (hb1.mono (by simp))
          clear hb1
          have hr' := OwnK.below hrw.out hb'
          have d0' := (hb'.cell (p := ⟨G, k * 4, none⟩) hg0).trans d0
          have d1' := (hb'.cell (p := ⟨G, k * 4 + 1, none⟩) hg0).trans d1
          have d2' := (hb'.cell (p := ⟨G, k * 4 + 2, none⟩) hg0).trans d2
          have d3' := (hb'.cell (p := ⟨G, k * 4 + 3, none⟩) hg0).trans d3
          have hfr' : ∀ o, w'.frozen? ⟨G, o, none⟩ = false := fun o => World.ownsRow.frozenAt hr' o
          have HRS := Lib.hid (rowB_set hr' hkL y.h y.g y.d y.m)
          have HO' := Lib.hid (only_of_below hb' G)
          clear d0 d1 d2 d3 c0 c1 c2 c3 hr' hb' HC
          go_wp2
          go_roundw
          case rel => exact ⟨k + 1, jj + 1, by go_num, by go_num, by omega, by omega, L.set k y, HT, HRS, Lib.hid (HK.out _ _ hkw.out (only_trans HO'.out (rowB_grown y.h y.g y.d y.m))), only_trans HGR.out (only_trans HO'.out (rowB_grown y.h y.g y.d y.m))⟩
          case measure => simp [intOf]; omega
      · obtain rfl : jj = bs.length := by omega
        obtain ⟨hd1, hd2, hd3⟩ := hst.out.done
        obtain ⟨w', hcl, hr', hg'⟩ := clear_row hrw.out k hd3
        rw [hd1] at hr'
        rw [hLn] at hcl
        have HRZ := Lib.hid hr'; have HGZ := Lib.hid (only_trans hgr hg')
        clear hr' hg' hgr
        have hkc : (k : Int) ≤ (c : Int) := by omega
        go_wp2
        go_ret
        exact ⟨by first | rfl | (rw [hd2]; rfl), HRZ.out, HGZ.out⟩
end Go.Proofs.Ytodphbnbljpegaa

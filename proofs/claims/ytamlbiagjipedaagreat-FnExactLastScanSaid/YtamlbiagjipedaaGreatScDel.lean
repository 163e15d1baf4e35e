/- slices.IndexFunc and slices.DeleteFunc on a row of scans. Written by mk/scdel.py. -/
import Derived.Test.YtamlbiagjipedaaGreatScOps
import Derived.Shelf.Abstract
namespace Go.Proofs.YtamlbiagjipedaaGreat
open Go.RowKit
theorem filtS_yes {q : Sc → Bool} {bs : List Sc} {j : Nat} (hj : j < bs.length) (h : q bs[j] = true) : (bs.take (j + 1)).filter q = (bs.take j).filter q ++ [bs[j]] := by
  rw [List.take_succ_eq_append_getElem hj, List.filter_append]
  simp [h]
theorem filtS_no {q : Sc → Bool} {bs : List Sc} {j : Nat} (hj : j < bs.length) (h : q bs[j] = false) : (bs.take (j + 1)).filter q = (bs.take j).filter q := by
  rw [List.take_succ_eq_append_getElem hj, List.filter_append]
  simp [h]
/-- what a closure says of some scans, in every world of a class -/
def SaysC (gf : Nat) (lb : Array Value) (p : Sc → Bool) (bs : List Sc) (K : World → Prop) : Prop :=
  ∀ (W : World) (y : Sc), y ∈ bs → K W → Calls Tryz.prog gf (#[.agg #[.int .i64 y.h, .int .i64 y.a, .int .i64 y.k, .string y.p, .int .i64 y.g, .int .i64 y.d]] ++ lb) W fun e w' => e = .returned (.bool (p y)) ∧ Below W.heap.size W w'
/-- where the first one is, -1 if there is none -/
def idxC (p : Sc → Bool) (bs : List Sc) : Int := match bs.findIdx? p with
  | none => -1
  | some k => k
theorem idxC_hit {p : Sc → Bool} {bs : List Sc} {k : Nat} (hk : k < bs.length) (hp : p bs[k] = true) (hn : ∀ j (_ : j < bs.length), j < k → p bs[j] = false) : idxC p bs = k := by
  unfold idxC
  rw [show bs.findIdx? p = some k from by rw [List.findIdx?_eq_some_iff_getElem]; exact ⟨hk, hp, fun j hj => by rw [hn j (by omega) hj]; simp⟩]
theorem idxC_miss {p : Sc → Bool} {bs : List Sc} (hn : ∀ j (_ : j < bs.length), p bs[j] = false) : idxC p bs = -1 := by
  unfold idxC
  rw [show bs.findIdx? p = none from by
    rw [List.findIdx?_eq_none_iff]
    intro x hx
    obtain ⟨j, hj, rfl⟩ := List.getElem_of_mem hx
    exact hn j hj]
set_option maxRecDepth 100000 in
set_option maxHeartbeats 2000000 in
theorem idxf_sc (p : Sc → Bool) (gf : Nat) (lb : Array Value) (K : World → Prop) (hK : ∀ W W', K W → Below W.heap.size W W' → K W') (eg : ∀ args w, (callFunc gf args).run Tryz.prog w = .ok (.enter gf args) w) (A : Option Addr) (ca : Nat) (l : List Sc) (w : World) (hA : InK 6 scC w A l) (hn : l.length ≤ 1048576) (hs : SaysC gf lb p l K) (hw : K w) :
    Calls Tryz.prog 114 #[.slice A l.length ca, .func (.func gf) #[] lb] w fun e w' => e = .returned (.int .i64 (idxC p l)) ∧ (∀ k : Nat, idxC p l = k → k < l.length ∧ (∃ h : k < l.length, p l[k] = true) ∧ ∀ j (_ : j < l.length), j < k → p l[j] = false) ∧ (idxC p l = -1 → ∀ j (_ : j < l.length), p l[j] = false) ∧ Below w.heap.size w w' := by
  have HA := Lib.hid hA; clear hA
  have HS := Lib.hid hs; clear hs
  have HK := Lib.hid hK; have HW := Lib.hid hw; clear hK hw
  go_enter Tryz.func114, Tryz.ntmps114
  go_wp2
  go_loopw [8] (fun i wr => ∃ k : Nat, k ≤ l.length ∧ i = .int .i64 k ∧ Hid (∀ j (_ : j < l.length), j < k → p l[j] = false) ∧ Below w.heap.size w wr) (fun i _ => l.length - (intOf i).toNat)
  case atStart => exact ⟨0, Nat.zero_le _, rfl, Lib.hid (fun j _ h => by omega), Below.refl _ _⟩
  case round =>
    obtain ⟨k, hk, rfl, hd, hb⟩ := hrel
    by_cases hlt : (k : Int) < (l.length : Int)
    · have hkn : k < l.length := by omega
      obtain ⟨g, rfl, hg, c0, c1, c2, c3, c4, c5⟩ := (HA.out.below hb).sc k hkn
      have HC := Lib.hid (HS.out wr l[k] (List.getElem_mem hkn) (HK.out w wr HW.out hb))
      have hbz := hb.size
      have HP := Lib.hid (fun h => idxC_hit hkn h hd.out)
      have HP2 := Lib.hid (fun (h : p l[k] = true) => (⟨hkn, h⟩ : ∃ h : k < l.length, p l[k] = true))
      have HQ := Lib.hid (fun (h : p l[k] = false) j (hj : j < l.length) (hjk : j < k + 1) => show p l[j] = false by
        by_cases e : j = k
        · subst e; exact h
        · exact hd.out j hj (by omega))
      have HD := Lib.hid hd.out
      clear hd
      generalize l[k] = y at c0 c1 c2 c3 c4 c5 HC HP HQ HP2
      cases hq : p y with
      | true =>
        rw [hq] at HC
        have HV := Lib.hid (HP.out hq)
        have HV2 := Lib.hid (HP2.out hq)
        clear HP HQ hq HP2
        go_wp2_with (go_at_fn gf; refine HC.out.mono ?_; rintro e w' ⟨rfl, hb'⟩)
        go_ret
        exact ⟨by rw [HV.out]; rfl, fun k' hk' => by
          rw [HV.out] at hk'
          obtain rfl : k = k' := by omega
          exact ⟨hkn, HV2.out, HD.out⟩, fun h => by rw [HV.out] at h; omega, hb.trans (hb'.mono hbz)⟩
      | false =>
        rw [hq] at HC
        have HV := Lib.hid (HQ.out hq)
        clear HP HQ hq HP2 HD
        go_wp2_with (go_at_fn gf; refine HC.out.mono ?_; rintro e w' ⟨rfl, hb'⟩)
        go_roundw
        case rel => exact ⟨k + 1, by omega, by go_num, HV, hb.trans (hb'.mono hbz)⟩
        case measure => simp [intOf]; omega
    · obtain rfl : k = l.length := by omega
      have HV := Lib.hid (idxC_miss (fun j hj => hd.out j hj hj))
      have HD := Lib.hid (fun j (hj : j < l.length) => hd.out j hj hj)
      clear hd
      go_wp2
      go_ret
      exact ⟨by rw [HV.out]; rfl, fun k' hk' => by rw [HV.out] at hk'; omega, fun _ => HD.out, hb⟩
theorem delS_no {p : Sc → Bool} {bs : List Sc} (h : ∀ j (_ : j < bs.length), p bs[j] = false) : bs.filter (fun y => !p y) = bs := by
  rw [List.filter_eq_self]
  intro y hy
  obtain ⟨j, hj, rfl⟩ := List.getElem_of_mem hy
  simp [h j hj]
theorem delS_first {p : Sc → Bool} {bs : List Sc} {k : Nat} (hk : k < bs.length) (hp : p bs[k] = true) (h : ∀ j (_ : j < bs.length), j < k → p bs[j] = false) : (bs.take (k + 1)).filter (fun y => !p y) = bs.take k := by
  rw [filtS_no hk (by simp [hp]), List.filter_eq_self]
  intro y hy
  obtain ⟨j, hj, rfl⟩ := List.getElem_of_mem hy
  have hj' : j < k := by rw [List.length_take] at hj; omega
  simp [h j (by omega) hj']
/-- how a row stands while what a closure says is struck from it: k kept of the first j -/
structure StruckS (p : Sc → Bool) (bs L : List Sc) (k j : Nat) : Prop where
  len : L.length = bs.length
  lt : k < j
  le : j ≤ bs.length
  kept : L.take k = (bs.take j).filter (fun y => !p y)
  rest : L.drop j = bs.drop j
theorem StruckS.get {p : Sc → Bool} {bs L : List Sc} {k j : Nat} (h : StruckS p bs L k j) (hj : j < bs.length) : ∃ h' : j < L.length, L[j] = bs[j] := by
  refine ⟨by rw [h.len]; exact hj, ?_⟩
  have h1 := congrArg (fun l => l[0]?) h.rest
  simp only [List.getElem?_drop, Nat.add_zero] at h1
  rw [List.getElem?_eq_getElem (by rw [h.len]; exact hj), List.getElem?_eq_getElem hj] at h1
  exact Option.some.inj h1
theorem StruckS.skip {p : Sc → Bool} {bs L : List Sc} {k j : Nat} (h : StruckS p bs L k j) (hj : j < bs.length) (hp : p bs[j] = true) : StruckS p bs L k (j + 1) :=
  ⟨h.len, by have := h.lt; omega, hj, by rw [h.kept, filtS_no hj (by simp [hp])], by
    have h1 := congrArg (List.drop 1) h.rest
    rwa [List.drop_drop, List.drop_drop] at h1⟩
theorem StruckS.keep {p : Sc → Bool} {bs L : List Sc} {k j : Nat} (h : StruckS p bs L k j) (hj : j < bs.length) (hp : p bs[j] = false) : StruckS p bs (L.set k bs[j]) (k + 1) (j + 1) := by
  have hlt := h.lt
  have hl := h.len
  refine ⟨by rw [List.length_set, hl], by omega, hj, ?_, ?_⟩
  · rw [filtS_yes hj (by simp [hp]), ← h.kept, List.take_succ_eq_append_getElem (by rw [List.length_set]; omega), List.take_set_of_le (Nat.le_refl k), List.getElem_set_self]
  · rw [List.drop_set_of_lt (by omega)]
    have h1 := congrArg (List.drop 1) h.rest
    rwa [List.drop_drop, List.drop_drop] at h1
theorem StruckS.done {p : Sc → Bool} {bs L : List Sc} {k : Nat} (h : StruckS p bs L k bs.length) : L.take k = bs.filter (fun y => !p y) ∧ (bs.filter (fun y => !p y)).length = k ∧ k ≤ L.length := by
  have h1 := h.kept
  rw [List.take_length] at h1
  exact ⟨h1, by rw [← h1, List.length_take, h.len]; have := h.lt; omega, by rw [h.len]; have := h.lt; omega⟩
set_option maxRecDepth 100000 in
set_option maxHeartbeats 4000000 in
theorem del_sc (p : Sc → Bool) (gf : Nat) (lb : Array Value) (b G c : Nat) (K : World → Prop) (hK : ∀ W W', K W → W.grownBy W' (some G) → K W') (eg : ∀ args w, (callFunc gf args).run Tryz.prog w = .ok (.enter gf args) w) (bs : List Sc) (w : World) (hr : RowC w b G c bs) (hn : bs.length ≤ 1048576) (hs : SaysC gf lb p bs K) (hw : K w) :
    Calls Tryz.prog 68 #[.slice (some ⟨G, 0, none⟩) bs.length c, .func (.func gf) #[] lb] w fun e w' => e = .returned (.slice (some ⟨G, 0, none⟩) (bs.filter fun y => !p y).length c) ∧ RowC w' b G c (bs.filter fun y => !p y) ∧ w.grownBy w' (some G) := by
  have hK1 : ∀ W W', K W → Below W.heap.size W W' → K W' := fun W W' h hb => hK W W' h (only_of_below hb G)
  have HIF := Lib.hid (fun W hA hW => idxf_sc p gf lb K hK1 eg (some ⟨G, 0, none⟩) c bs W hA hn hs hW)
  have HR := Lib.hid hr; clear hr
  have HS := Lib.hid hs; clear hs
  have HK := Lib.hid hK; have HW := Lib.hid hw; clear hK hw hK1
  have hc : bs.length ≤ c := by
    rcases HR.out.2 with ⟨e, _⟩ | ⟨g, cap, cur, e, hb, hg, hnc, _⟩
    · cases e
    · cases e; exact hnc
  go_enter Tryz.func68, Tryz.ntmps68
  go_wp2_with fail
  refine (HIF.out w (ins_row HR.out scC_len rfl) HW.out).mono ?_; rintro e w1 ⟨rfl, hhit, hmiss, hb1⟩
  have HR1 := Lib.hid (OwnK.below HR.out hb1)
  have HW1 := Lib.hid (HK.out w w1 HW.out (only_of_below hb1 G))
  have HO1 := Lib.hid (only_of_below hb1 G)
  clear hb1 HIF
  by_cases hm : idxC p bs = -1
  · have HF := Lib.hid (delS_no (hmiss hm))
    clear hhit hmiss
    rw [hm]
    go_wp2
    go_ret
    rw [HF.out]
    exact ⟨rfl, HR1.out, HO1.out⟩
  · obtain ⟨k0, hk0⟩ : ∃ k0 : Nat, idxC p bs = k0 := by
      unfold idxC at hm ⊢
      cases h : bs.findIdx? p with
      | none => rw [h] at hm; exact absurd rfl hm
      | some k => exact ⟨k, rfl⟩
    obtain ⟨hkn, ⟨_, hpk⟩, hbef⟩ := hhit k0 hk0
    have HS0 := Lib.hid (show StruckS p bs bs k0 (k0 + 1) from ⟨rfl, by omega, by omega, (delS_first hkn hpk hbef).symm, rfl⟩)
    clear hhit hmiss hpk hbef hm
    rw [hk0]
    clear hk0
    go_wp2
    rw [show ((k0 : Int) == -1) = false from by rw [beq_eq_false_iff_ne]; omega]
    go_loopw [5, 6] (fun i j wr => ∃ k jj : Nat, i = .int .i64 k ∧ j = .int .i64 jj ∧ k < jj ∧ jj ≤ bs.length ∧ ∃ L, Hid (StruckS p bs L k jj) ∧ Hid (RowC wr b G c L) ∧ Hid (K wr) ∧ w.grownBy wr (some G)) (fun i j _ => bs.length - (intOf j).toNat)
    case atStart => exact ⟨k0, k0 + 1, rfl, by go_num, by omega, by omega, bs, HS0, HR1, HW1, HO1.out⟩
    case round =>
      obtain ⟨k, jj, rfl, rfl, hkj, hjn, L, hst, hrw, hkw, hgr⟩ := hrel
      have hLn : L.length = bs.length := hst.out.len
      by_cases hlt : (jj : Int) < (bs.length : Int)
      · have hj : jj < bs.length := by omega
        obtain ⟨hj', hge⟩ := hst.out.get hj
        have hA := ins_row hrw.out scC_len rfl
        obtain ⟨g0, e0, hg0, c0, c1, c2, c3, c4, c5⟩ := hA.sc jj hj'
        obtain ⟨g1, e1, hg1, d0, d1, d2, d3, d4, d5⟩ := hA.sc k (by omega)
        cases e0; cases e1
        rw [hge] at c0 c1 c2 c3 c4 c5
        have HC := Lib.hid (fun V => HS.out (wr.alloc V) bs[jj] (List.getElem_mem hj) (HK.out _ _ hkw.out (only_of_below ((Below.refl _ _).alloc (Nat.le_refl _) V) G)))
        have HY := Lib.hid (fun h => hst.out.skip hj h)
        have HN := Lib.hid (fun h => hst.out.keep hj h)
        have hkL : k < L.length := by omega
        clear hA hg1 hst hge
        generalize bs[jj] = y at c0 c1 c2 c3 c4 c5 HC HY HN
        have HGR := Lib.hid hgr; clear hgr
        cases hq : p y with
        | true =>
          rw [hq] at HC
          have HT := Lib.hid (HY.out hq)
          clear HY HN hq d0 d1 d2 d3 d4 d5
          go_wp2_with (go_at_fn gf; refine (HC.out _).mono ?_; rintro e w' ⟨rfl, hb1⟩)
          have hb' : Below wr.heap.size wr w' := ((Below.refl _ _).alloc (Nat.le_refl _) _).trans (hb1.mono (by simp))
          clear hb1
          go_roundw
          case rel => exact ⟨k, jj + 1, rfl, by go_num, by omega, by omega, L, HT, Lib.hid (OwnK.below hrw.out hb'), Lib.hid (HK.out _ _ hkw.out (only_of_below hb' G)), only_trans HGR.out (only_of_below hb' G)⟩
          case measure => simp [intOf]; omega
        | false =>
          rw [hq] at HC
          have HT := Lib.hid (HN.out hq)
          clear HY HN hq
          go_wp2_with fail
          go_at_fn gf
          refine (HC.out _).mono ?_; rintro e w' ⟨rfl, hb1⟩
          have b0' : w'.cell? ⟨wr.heap.size, 0, none⟩ = some (.int .i64 y.h) := (hb1.cell (p := ⟨wr.heap.size, 0, none⟩) (by simp)).trans (by simp)
          have b1' : w'.cell? ⟨wr.heap.size, 1, none⟩ = some (.int .i64 y.a) := (hb1.cell (p := ⟨wr.heap.size, 1, none⟩) (by simp)).trans (by simp)
          have b2' : w'.cell? ⟨wr.heap.size, 2, none⟩ = some (.int .i64 y.k) := (hb1.cell (p := ⟨wr.heap.size, 2, none⟩) (by simp)).trans (by simp)
          have b3' : w'.cell? ⟨wr.heap.size, 3, none⟩ = some (.string y.p) := (hb1.cell (p := ⟨wr.heap.size, 3, none⟩) (by simp)).trans (by simp)
          have b4' : w'.cell? ⟨wr.heap.size, 4, none⟩ = some (.int .i64 y.g) := (hb1.cell (p := ⟨wr.heap.size, 4, none⟩) (by simp)).trans (by simp)
          have b5' : w'.cell? ⟨wr.heap.size, 5, none⟩ = some (.int .i64 y.d) := (hb1.cell (p := ⟨wr.heap.size, 5, none⟩) (by simp)).trans (by simp)
          have hb' : Below wr.heap.size wr w' := ((Below.refl _ _).alloc (Nat.le_refl _) _).trans (hb1.mono (by simp))
          clear hb1
          have hr' := OwnK.below hrw.out hb'
          have d0' := (hb'.cell (p := ⟨G, k * 6, none⟩) hg0).trans d0
          have d1' := (hb'.cell (p := ⟨G, k * 6 + 1, none⟩) hg0).trans d1
          have d2' := (hb'.cell (p := ⟨G, k * 6 + 2, none⟩) hg0).trans d2
          have d3' := (hb'.cell (p := ⟨G, k * 6 + 3, none⟩) hg0).trans d3
          have d4' := (hb'.cell (p := ⟨G, k * 6 + 4, none⟩) hg0).trans d4
          have d5' := (hb'.cell (p := ⟨G, k * 6 + 5, none⟩) hg0).trans d5
          have hfr' : ∀ o, w'.frozen? ⟨G, o, none⟩ = false := fun o => World.ownsRow.frozenAt hr' o
          have HRS := Lib.hid (rowC_set hr' hkL y.h y.a y.k y.p y.g y.d)
          have HO' := Lib.hid (only_of_below hb' G)
          clear d0 d1 d2 d3 d4 d5 c0 c1 c2 c3 c4 c5 hr' hb' HC
          go_wp2
          go_roundw
          case rel => exact ⟨k + 1, jj + 1, by go_num, by go_num, by omega, by omega, L.set k y, HT, HRS, Lib.hid (HK.out _ _ hkw.out (only_trans HO'.out (rowC_grown y.h y.a y.k y.p y.g y.d))), only_trans HGR.out (only_trans HO'.out (rowC_grown y.h y.a y.k y.p y.g y.d))⟩
          case measure => simp [intOf]; omega
      · obtain rfl : jj = bs.length := by omega
        obtain ⟨hd1, hd2, hd3⟩ := hst.out.done
        obtain ⟨w', hcl, hr', hg'⟩ := clear_rowC hrw.out k hd3
        rw [hd1] at hr'
        rw [hLn] at hcl
        have HRZ := Lib.hid hr'; have HGZ := Lib.hid (only_trans hgr hg')
        clear hr' hg' hgr
        have hkc : (k : Int) ≤ (c : Int) := by omega
        go_wp2
        go_ret
        exact ⟨by first | rfl | (rw [hd2]; rfl), HRZ.out, HGZ.out⟩
end Go.Proofs.YtamlbiagjipedaaGreat

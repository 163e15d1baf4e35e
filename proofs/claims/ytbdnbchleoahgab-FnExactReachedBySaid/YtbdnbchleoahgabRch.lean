/- Contracts of ReachedBy, both texts. -/
import Derived.Test.YtbdnbchleoahgabEarI
import Derived.Maps.AppendAt
namespace Go.Proofs.Ytbdnbchleoahgab
open Go.RowKit
def rOk (T : List Int) (b : Int) (i : Nat) : Bool := decide (0 ≤ T.getD i 0) && decide (T.getD i 0 ≤ b)
/-- the places among the first k at which something arrives by a time -/
def rK (pl : List ByteArray) (T : List Int) (b : Int) (k : Nat) : List ByteArray := ((List.range k).filter (rOk T b)).map fun i => pl.getD i ByteArray.empty
theorem rK_yes {pl : List ByteArray} {T : List Int} {b : Int} {k : Nat} (hk : k < pl.length) (h : rOk T b k = true) : rK pl T b (k + 1) = rK pl T b k ++ [pl[k]] := by
  unfold rK
  rw [List.range_succ, List.filter_append, List.map_append]
  congr 1
  simp [h, List.getD, hk]
theorem rK_no {pl : List ByteArray} {T : List Int} {b : Int} {k : Nat} (h : rOk T b k = false) : rK pl T b (k + 1) = rK pl T b k := by
  unfold rK
  rw [List.range_succ, List.filter_append, List.map_append]
  simp [h]
theorem rK_len (pl : List ByteArray) (T : List Int) (b : Int) (k : Nat) : (rK pl T b k).length ≤ k := by
  unfold rK
  rw [List.length_map]
  exact Nat.le_trans (List.length_filter_le _ _) (by simp)
/-- what ReachedBy answers -/
def rchB (l : List Lg) (zs : List Int) (x : Int) (fr : ByteArray) (at_ by_ : Int) : List ByteArray :=
  rK (placesB l) (bestB l zs x fr at_ ((placesB l).length : Nat)) by_ (bestB l zs x fr at_ ((placesB l).length : Nat)).length
theorem rch_40 (l : List Lg) (zs : List Int) (x : Int) (fr : ByteArray) (at_ by_ : Int) : (rchB l zs x fr at_ by_).length ≤ 100 := Nat.le_trans (rK_len _ _ _ _) (best_40 l zs x fr at_ _)
/-- a slice's own block is not another's -/
def OffB (v : Value) (g : Option Addr) : Prop := ∀ a k, g = some a → v.ownBlock = some k → k ≠ a.block
theorem StrsIn.grown {w w' : World} {A : Option Addr} {l : List ByteArray} {r : Option Nat} (h : StrsIn w A l) (hg : w.grownBy w' r) (ho : ∀ a : Addr, A = some a → some a.block ≠ r) : StrsIn w' A l := by
  intro j hj
  obtain ⟨g, h1, h2, h3⟩ := h j hj
  exact ⟨g, h1, Nat.lt_of_lt_of_le h2 hg.size, by rw [← h3]; exact World.cell?_of_block (hg.block g h2 (ho _ h1))⟩
theorem IntsIn.grown {w w' : World} {A : Option Addr} {l : List Int} {r : Option Nat} (h : IntsIn w A l) (hg : w.grownBy w' r) (ho : ∀ a : Addr, 0 < l.length → A = some a → some a.block ≠ r) : IntsIn w' A l := by
  intro j hj
  obtain ⟨g, h1, h2, h3⟩ := h j hj
  exact ⟨g, h1, Nat.lt_of_lt_of_le h2 hg.size, by rw [← h3]; exact World.cell?_of_block (hg.block g h2 (ho _ (by omega) h1))⟩
theorem OffB.off {v : Value} {g : Option Addr} (h : OffB v g) : ∀ a : Addr, g = some a → some a.block ≠ v.ownBlock := fun a ha e => h a _ ha e.symm rfl
set_option maxRecDepth 100000 in
set_option maxHeartbeats 4000000 in
theorem reached_impl (fr : ByteArray) (at_ by_ : Int) (hf : fr.size ≤ maxLen) (hat2 : -9223372036854775808 ≤ at_) (A : Option Addr) (ca : Nat) (l : List Lg) (D : Option Addr) (cd : Nat) (zs : List Int) (x : Int) (w : World) (hA : InK 6 lgC w A l) (hD : IntsIn w D zs) (hs : ∀ z ∈ l, z.f.size ≤ maxLen ∧ z.t.size ≤ maxLen) (hn : l.length ≤ 1048576) (hm : zs.length ≤ 1048576) :
    Calls Try.prog 13 #[.agg #[.slice A l.length ca, .slice D zs.length cd, .int .i64 x], .string fr, .int .i64 at_, .int .i64 by_] w fun e w' => ∃ v, e = .returned v ∧ OwnStr w' w.heap.size v (rchB l zs x fr at_ by_) ∧ Below w.heap.size w w' := by
  obtain ⟨i0, hi0, hz0, hz1, hz2⟩ := info_parts str_info
  have hB := Box3.new (T := 30) (v0 := .slice A l.length ca) (v1 := .slice D zs.length cd) (v2 := .int .i64 x) w
  have hb0 := (Below.refl w.heap.size w).alloc (Nat.le_refl _) (.cells #[.slice A l.length ca, .slice D zs.length cd, .int .i64 x] 30)
  have H0 := Lib.hid (And.intro hB (And.intro hb0 (And.intro (hA.below hb0) (hD.below hb0)))); clear hB hb0 hA hD
  have HMO := Lib.hid (fun W (h1 : InK 6 lgC W A l) => most_legs A ca l D cd zs.length x W h1 hn)
  have HBA := Lib.hid (fun W (h1 : InK 6 lgC W A l) (h2 : IntsIn W D zs) => best_impl fr at_ ((placesB l).length : Nat) A ca l D cd zs x W h1 h2 hs hn hm hf (by have := placesB_len l; omega) hat2)
  have HPL := Lib.hid (fun W (h1 : InK 6 lgC W A l) => places_impl A ca l D cd zs.length x W h1 hn)
  have hpl4 : (placesB l).length ≤ 4000000 := by have := placesB_len l; omega
  have hbl := best_len l zs x fr at_ ((placesB l).length : Nat)
  have hTb := best_bd l zs x fr at_ ((placesB l).length : Nat)
  have hV : rchB l zs x fr at_ by_ = rK (placesB l) (bestB l zs x fr at_ ((placesB l).length : Nat)) by_ (bestB l zs x fr at_ ((placesB l).length : Nat)).length := rfl
  generalize rchB l zs x fr at_ by_ = R at *
  generalize bestB l zs x fr at_ ((placesB l).length : Nat) = T at *
  have HV := Lib.hid hV; have HTB := Lib.hid hTb; have HBL := Lib.hid hbl
  clear hs hV hTb hbl
  obtain ⟨pl, hpl⟩ : ∃ pl, pl = placesB l := ⟨_, rfl⟩
  rw [← hpl] at HMO HBA HPL hpl4 HV HBL
  clear hpl
  go_enter Try.func13, Try.ntmps13
  go_wp2_with fail
  generalize hB : w.heap.size = B at *
  have HBE := Lib.hid hB; clear hB
  generalize w.alloc (.cells #[.slice A l.length ca, .slice D zs.length cd, .int .i64 x] 30) = WW at *
  obtain ⟨b0, b1, b2⟩ := H0.out.1.cells
  have hBr : B < WW.heap.size := H0.out.1.lt
  go_region_held3 (fun w' => w'.cell? ⟨B, 0, none⟩ = some (.slice A l.length ca) ∧ w'.cell? ⟨B, 1, none⟩ = some (.slice D zs.length cd) ∧ w'.cell? ⟨B, 2, none⟩ = some (.int .i64 x))
    (go_keep)
    (first
      | (go_at_call 38; refine (HMO.out _ (H0.out.2.2.1.below ?_)).mono ?_; (focus (first | exact Below.refl _ _ | exact (Below.refl _ _).drew)); (rintro e u1 ⟨rfl, hu⟩; (first | (have hb1 : Below WW.heap.size WW u1 := below_undrew hu) | (have hb1 : Below WW.heap.size WW u1 := hu)); obtain ⟨d0, d1, d2⟩ := (H0.out.1.below hb1).cells; clear hu))
      | (go_at_call 37; refine (HBA.out _ (H0.out.2.2.1.below ?_) (H0.out.2.2.2.below ?_)).mono ?_; (focus (first | with_reducible exact hb1 | exact hb1.drew)); (focus (first | with_reducible exact hb1 | exact hb1.drew)); (rintro e u2 ⟨v, rfl, hv, hu⟩; (first | (have hb2 : Below WW.heap.size WW u2 := chain hb1 hu) | (have hb2 : Below WW.heap.size WW u2 := chain hb1.drew hu)); obtain ⟨e0, e1, e2⟩ := (H0.out.1.below hb2).cells; have HTV := Lib.hid hv; clear hu hv)))
  all_goals
    obtain ⟨EA, ce, rfl⟩ := HTV.out.opens
    have HE := Lib.hid HTV.out.ins.2
    have H2 := Lib.hid (And.intro (H0.out.1.below hb2) (And.intro (H0.out.2.1.trans (hb2.mono (Nat.le_of_lt hBr))) (H0.out.2.2.1.below hb2)))
    have hz2' : B < u2.heap.size := by have := hb2.size; omega
    clear b0 b1 b2 d0 d1 d2 e0 e1 e2 hb1 hb2 HTV HMO HBA H0 hBr
    have ho := own_new u2
    have hbn := (Below.refl u2.heap.size u2).alloc (Nat.le_refl _) (.cells #[] 9)
    have HE3 := Lib.hid (HE.out.below hbn)
    have HEC := Lib.hid (show ∀ a : Addr, 0 < T.length → EA = some a → a.block < u2.heap.size from fun a h0 ha => by
      obtain ⟨g, e, h2, _⟩ := HE.out 0 h0
      rw [ha] at e
      cases e
      exact h2)
    have H3 := Lib.hid (And.intro (H2.out.1.below hbn) (And.intro (H2.out.2.1.trans (hbn.mono (Nat.le_of_lt hz2'))) (H2.out.2.2.below hbn)))
    clear H2 HE hbn
    obtain ⟨b0, b1, b2⟩ := H3.out.1.cells
    go_wp2_with fail
    generalize hC : u2.heap.size = C at *
    generalize u2.alloc (.cells #[] 9) = W at *
    refine (HPL.out W H3.out.2.2).mono ?_; rintro e w3 ⟨⟨vp, rfl, hvp⟩, hb3⟩
    have hCW : C < W.heap.size := by
      rcases ho.2 with ⟨e, _⟩ | ⟨g', _, _, e, _, h, _⟩
      · cases e
      · cases e; exact (Array.getElem?_eq_some_iff.1 h).1
    obtain ⟨PA, cp, rfl, hP⟩ := own_strs hvp
    have HVP := Lib.hid (show ∀ a, PA = some a → W.heap.size ≤ a.block from fun a ha => by
      subst ha
      rcases hvp.2 with ⟨e, _⟩ | ⟨g', _, _, e, h1, _⟩
      · cases e
      · cases e; exact h1)
    have HB3 := Lib.hid (H3.out.2.1.trans (hb3.mono (by omega)))
    have HO3 := Lib.hid (own_below ho hb3)
    have HCZ := Lib.hid (show C ≤ w3.heap.size ∧ w.heap.size ≤ C ∧ B ≤ C from ⟨by have := hb3.size; omega, by have := HBE.out; omega, by omega⟩)
    have HE4 := Lib.hid (HE3.out.below hb3)
    have HP3 := Lib.hid hP
    clear b0 b1 b2 ho hvp hP hb3 H3 HE3
    obtain ⟨V0, hV0⟩ : ∃ V0 : Value, V0 = .slice (some ⟨C, 0, none⟩) 0 0 := ⟨_, rfl⟩
    rw [← hV0] at HO3 ⊢
    have HVO := Lib.hid (show OffB V0 PA from fun a k ha hk => by
      rw [hV0] at hk
      have : C = k := Option.some.inj hk
      have := HVP.out a ha
      omega)
    clear hV0
    go_wp2
    go_loopw [10, 23] (fun v i wr => ∃ (k : Nat) (u : Value), k ≤ pl.length ∧ i = .int .i64 k ∧ v = u ∧ OwnStr wr C u (rK pl T by_ (min k T.length)) ∧ OffB u PA ∧ StrsIn wr PA pl ∧ IntsIn wr EA T ∧ Below B w wr ∧ C ≤ wr.heap.size) (fun _ i _ => pl.length - (intOf i).toNat)
    case atStart => exact ⟨0, _, Nat.zero_le _, rfl, rfl, by simpa [rK] using HO3.out, HVO.out, HP3.out, HE4.out, HB3.out, HCZ.out.1⟩
    case round =>
      clear HO3 HVO HP3 HE4 HB3 hCW
      obtain ⟨k, u, hk, rfl, rfl, ho, hoff, hP, hE, hb, hCrr⟩ := hrel
      have hbz := hb.size
      have HO := Lib.hid ho
      have HOFF := Lib.hid hoff; have HPS := Lib.hid hP; have HES := Lib.hid hE; have HBW := Lib.hid hb
      have hlt' := fun g h => (World.ownsRow.lt HO.out g h).1
      have hCr : C ≤ wr.heap.size := hCrr
      clear hoff hE hb
      by_cases hlt : (k : Int) < (pl.length : Int)
      · have hkn : k < pl.length := by omega
        obtain ⟨ga, rfl, hga, c0⟩ := hP k hkn
        clear hP
        by_cases hkT : k < T.length
        · rw [Nat.min_eq_left (by omega)] at ho HO
          obtain ⟨n, hn'⟩ : ∃ n, n = (rK pl T by_ k).length := ⟨_, rfl⟩
          have hnk : n ≤ k := by rw [hn']; exact rK_len _ _ _ _
          unfold OwnStr at ho
          rw [← hn'] at ho
          have hN := Lib.hid hn'; clear hn'
          obtain ⟨ge, rfl, hge, e0⟩ := HES.out k hkT
          have HY := Lib.hid (rK_yes (T := T) (b := by_) hkn)
          have HNo := Lib.hid (rK_no (pl := pl) (T := T) (b := by_) (k := k))
          have hT1 := HTB.out _ (List.getElem_mem hkT)
          have hTi : (k : Int) < (T.length : Int) := by omega
          have HRO := Lib.hid (show rOk T by_ k = (decide (0 ≤ T[k]) && decide (T[k] ≤ by_)) by unfold rOk; rw [show T.getD k 0 = T[k] from by simp [List.getD, hkT]])
          obtain ⟨y, hy⟩ : ∃ y, y = T[k] := ⟨_, rfl⟩
          rw [← hy] at e0 hT1 HRO
          clear hy
          obtain ⟨p, hp⟩ : ∃ p, p = pl[k] := ⟨_, rfl⟩
          rw [← hp] at c0 HY
          clear hp
          by_cases hy1 : y = -1
          · have HN := Lib.hid (HNo.out (by rw [HRO.out, decide_eq_false (by omega)]; rfl))
            subst hy1
            go_wp2
            go_roundw
            case rel => exact ⟨k + 1, _, by omega, by go_num, rfl, by rw [Nat.min_eq_left (by omega), HN.out]; exact HO.out, HOFF.out, HPS.out, HES.out, HBW.out, hCr⟩
            case measure => simp [intOf]; omega
          · have hy0 : 0 ≤ y := by omega
            have hyq : (y != -1) = true := by simpa using hy1
            by_cases hyb : y ≤ by_
            · have HN := Lib.hid (HY.out (by rw [HRO.out, decide_eq_true hy0, decide_eq_true hyb]; rfl))
              go_wp2_with (at_builtin; refine wpList_append_own_at _ rfl _ _ 34 rfl C 9 i0 _ 1 16 Try.underlying34 hi0 hz0 hz1 hz2 rfl (by decide) _ n (strV (rK pl T by_ k)) rfl (ho.alloc _) ⟨wr.heap.size, 0, none⟩ 1 1 (strV [p]) rfl rfl (str_news _ _) (one_str _) (by unfold maxLen; omega) (by omega) (by simp; omega) ?_; intro v' w5 hown' hgr hnil hloc)
              go_roundw
              case rel =>
                refine ⟨k + 1, _, by omega, by go_num, rfl, ?_, ?_, (HPS.out.below ((Below.refl _ _).alloc (Nat.le_refl _) _)).grown hgr HOFF.out.off, (HES.out.below ((Below.refl _ _).alloc (Nat.le_refl _) _)).grown hgr (fun a h1 h2 e => by have := HEC.out _ h1 h2; have := hlt' _ e.symm; omega), (HBW.out.alloc (by omega) _).grown hgr (by simp; omega) (fun g h => by have := hlt' g h; omega), by have := hgr.size; simp at this; omega⟩
                · rw [Nat.min_eq_left (by omega), HN.out]
                  unfold OwnStr
                  rw [strV_app, List.length_append, ← hN.out]
                  exact hown'
                · intro a q ha hq
                  rcases hloc with h | h
                  · exact HOFF.out a q ha (h.symm.trans hq)
                  · have h2 := h.symm.trans hq
                    have : (wr.alloc (.cells #[.string p] 9)).heap.size = q := Option.some.inj h2
                    cases ha
                    simp at this
                    show q ≠ ga
                    omega
              case measure => simp [intOf]; omega
            · have HN := Lib.hid (HNo.out (by rw [HRO.out, decide_eq_false hyb]; simp))
              go_wp2
              go_roundw
              case rel => exact ⟨k + 1, _, by omega, by go_num, rfl, by rw [Nat.min_eq_left (by omega), HN.out]; exact HO.out, HOFF.out, HPS.out, HES.out, HBW.out, hCr⟩
              case measure => simp [intOf]; omega
        · rw [Nat.min_eq_right (by omega)] at ho HO
          have hTi : ¬ (k : Int) < (T.length : Int) := by omega
          go_wp2
          go_roundw
          case rel => exact ⟨k + 1, _, by omega, by go_num, rfl, by rw [Nat.min_eq_right (by omega)]; exact HO.out, HOFF.out, HPS.out, HES.out, HBW.out, hCr⟩
          case measure => simp [intOf]; omega
      · obtain rfl : k = pl.length := by omega
        rw [show min pl.length T.length = T.length from by have := HBL.out; omega] at HO
        go_wp2
        go_ret
        exact ⟨_, rfl, by rw [HV.out, HBE.out]; exact OwnStr.low HO.out (by omega), by rw [HBE.out]; exact HBW.out⟩
theorem ints_off' {w : World} {b c : Nat} {u v : Value} {l : List ByteArray} {zs : List Int} (h : OwnStr w b u l) (ho : OwnI w c v zs) : v.ownBlock = none ∨ v.ownBlock ≠ u.ownBlock := by
  rcases ints_off h ho with e | e
  · cases hv : v.ownBlock with
    | none => exact .inl rfl
    | some k => exact .inr (by rw [e]; simp)
  · exact .inr (Ne.symm e)
set_option maxRecDepth 100000 in
set_option maxHeartbeats 4000000 in
theorem reached_spec (fr : ByteArray) (at_ by_ : Int) (A : Option Addr) (ca : Nat) (l : List Lg) (D : Option Addr) (cd : Nat) (zs : List Int) (x : Int) (w : World) (hA : InK 6 lgC w A l) (hD : IntsIn w D zs) (hs : ∀ z ∈ l, z.f.size ≤ maxLen ∧ z.t.size ≤ maxLen) (hn : l.length ≤ 1048576) (hm : zs.length ≤ 1048576) :
    Calls Try.prog 12 #[.agg #[.slice A l.length ca, .slice D zs.length cd, .int .i64 x], .string fr, .int .i64 at_, .int .i64 by_] w fun e w' => ∃ v, e = .returned v ∧ OwnStr w' w.heap.size v (rchB l zs x fr at_ by_) ∧ Below w.heap.size w w' := by
  obtain ⟨i0, hi0, hz0, hz1, hz2⟩ := info_parts str_info
  have hB := Box3.new (T := 30) (v0 := .slice A l.length ca) (v1 := .slice D zs.length cd) (v2 := .int .i64 x) w
  have hb0 := (Below.refl w.heap.size w).alloc (Nat.le_refl _) (.cells #[.slice A l.length ca, .slice D zs.length cd, .int .i64 x] 30)
  have H0 := Lib.hid (And.intro hB (And.intro hb0 (And.intro (hA.below hb0) (hD.below hb0)))); clear hB hb0 hA hD
  have HBA := Lib.hid (fun W (h1 : InK 6 lgC W A l) (h2 : IntsIn W D zs) => best_spec fr at_ ((placesB l).length : Nat) A ca l D cd zs x W h1 h2 hs hn hm)
  have HPL := Lib.hid (fun W (h1 : InK 6 lgC W A l) => places_spec A ca l D cd zs.length x W h1 hn)
  have hpl4 : (placesB l).length ≤ 4000000 := by have := placesB_len l; omega
  have hbl := best_len l zs x fr at_ ((placesB l).length : Nat)
  have hV : rchB l zs x fr at_ by_ = rK (placesB l) (bestB l zs x fr at_ ((placesB l).length : Nat)) by_ (bestB l zs x fr at_ ((placesB l).length : Nat)).length := rfl
  generalize rchB l zs x fr at_ by_ = R at *
  generalize bestB l zs x fr at_ ((placesB l).length : Nat) = T at *
  have HV := Lib.hid hV
  have hTP : T.length ≤ (placesB l).length := by omega
  clear hs hV hbl
  obtain ⟨pl, hpl⟩ : ∃ pl, pl = placesB l := ⟨_, rfl⟩
  rw [← hpl] at HBA HPL hpl4 HV hTP
  clear hpl
  go_enter Try.func12, Try.ntmps12
  go_wp2_with fail
  generalize hB : w.heap.size = B at *
  have HBE := Lib.hid hB; clear hB
  generalize w.alloc (.cells #[.slice A l.length ca, .slice D zs.length cd, .int .i64 x] 30) = WW at *
  have hBr : B < WW.heap.size := H0.out.1.lt
  refine (HPL.out WW H0.out.2.2.1).mono ?_; rintro e u2 ⟨⟨vp, rfl, hvp⟩, hb2⟩
  obtain ⟨PA, cp, rfl, hP⟩ := own_strs hvp
  have H2 := Lib.hid (And.intro (H0.out.1.below hb2) (And.intro (H0.out.2.1.trans (hb2.mono (Nat.le_of_lt hBr))) (And.intro (H0.out.2.2.1.below hb2) (H0.out.2.2.2.below hb2))))
  have hz2' : B < u2.heap.size := by have := hb2.size; omega
  clear hb2 hvp H0 hBr
  have ho := own_new u2
  have hbn := (Below.refl u2.heap.size u2).alloc (Nat.le_refl _) (.cells #[] 9)
  have HPC := Lib.hid (show ∀ a : Addr, 0 < pl.length → PA = some a → a.block < u2.heap.size from fun a h0 ha => by
    obtain ⟨g, e, h2, _⟩ := hP 0 h0
    rw [ha] at e
    cases e
    exact h2)
  have HP3 := Lib.hid (hP.below hbn)
  have H3 := Lib.hid (And.intro (H2.out.1.below hbn) (And.intro (H2.out.2.1.trans (hbn.mono (Nat.le_of_lt hz2'))) (And.intro (H2.out.2.2.1.below hbn) (H2.out.2.2.2.below hbn))))
  clear H2 hP hbn
  obtain ⟨b0, b1, b2⟩ := H3.out.1.cells
  go_wp2_with fail
  have hCW : u2.heap.size < (u2.alloc (.cells #[] 9)).heap.size := by simp
  generalize hC : u2.heap.size = C at *
  generalize u2.alloc (.cells #[] 9) = W at *
  refine (HBA.out W H3.out.2.2.1 H3.out.2.2.2).mono ?_; rintro e w3 ⟨vt, rfl, hvt, hb3⟩
  obtain ⟨EA, ce, rfl⟩ := hvt.opens
  have HB3 := Lib.hid (H3.out.2.1.trans (hb3.mono (by omega)))
  have HO3 := Lib.hid (own_below ho hb3)
  have HP4 := Lib.hid (HP3.out.below hb3)
  have HT3 := Lib.hid hvt
  have HCZ := Lib.hid (show C ≤ w3.heap.size ∧ w.heap.size ≤ C ∧ B ≤ C from ⟨by have := hb3.size; omega, by have := HBE.out; omega, by omega⟩)
  clear b0 b1 b2 ho hvt hb3 H3 HP3
  obtain ⟨V0, hV0⟩ : ∃ V0 : Value, V0 = .slice (some ⟨C, 0, none⟩) 0 0 := ⟨_, rfl⟩
  rw [← hV0] at HO3 ⊢
  clear hV0
  go_wp2
  go_loopw [10, 12] (fun v i wr => ∃ (k : Nat) (u : Value), k ≤ T.length ∧ i = .int .i64 k ∧ v = u ∧ OwnStr wr C u (rK pl T by_ k) ∧ StrsIn wr PA pl ∧ OwnI wr W.heap.size (.slice EA T.length ce) T ∧ Below B w wr ∧ C ≤ wr.heap.size) (fun _ i _ => T.length - (intOf i).toNat)
  case atStart => exact ⟨0, _, Nat.zero_le _, rfl, rfl, by simpa [rK] using HO3.out, HP4.out, HT3.out, HB3.out, HCZ.out.1⟩
  case round =>
    clear HO3 HP4 HT3 HB3 hCW
    obtain ⟨k, u, hk, rfl, rfl, ho, hP, hE, hb, hCr⟩ := hrel
    have hbz := hb.size
    have HO := Lib.hid ho
    have HIO := Lib.hid (ints_off' ho hE)
    have HPS := Lib.hid hP; have HES := Lib.hid hE; have HBW := Lib.hid hb
    have hlt' := fun g h => (World.ownsRow.lt HO.out g h).1
    clear hE hb
    by_cases hlt : (k : Int) < (T.length : Int)
    · have hkT : k < T.length := by omega
      have hkn : k < pl.length := by omega
      obtain ⟨ga, rfl, hga, c0⟩ := hP k hkn
      clear hP
      obtain ⟨n, hn'⟩ : ∃ n, n = (rK pl T by_ k).length := ⟨_, rfl⟩
      have hnk : n ≤ k := by rw [hn']; exact rK_len _ _ _ _
      unfold OwnStr at ho
      rw [← hn'] at ho
      have hN := Lib.hid hn'; clear hn'
      have hins := HES.out.ins.2
      obtain ⟨ge, rfl, hge, e0⟩ := hins k hkT
      clear hins
      have HY := Lib.hid (rK_yes (T := T) (b := by_) hkn)
      have HNo := Lib.hid (rK_no (pl := pl) (T := T) (b := by_) (k := k))
      have HRO := Lib.hid (show rOk T by_ k = (decide (0 ≤ T[k]) && decide (T[k] ≤ by_)) by unfold rOk; rw [show T.getD k 0 = T[k] from by simp [List.getD, hkT]])
      obtain ⟨y, hy⟩ : ∃ y, y = T[k] := ⟨_, rfl⟩
      rw [← hy] at e0 HRO
      clear hy
      obtain ⟨p, hp⟩ : ∃ p, p = pl[k] := ⟨_, rfl⟩
      rw [← hp] at c0 HY
      clear hp
      by_cases hy0 : 0 ≤ y
      · by_cases hyb : y ≤ by_
        · have HN := Lib.hid (HY.out (by rw [HRO.out, decide_eq_true hy0, decide_eq_true hyb]; rfl))
          go_wp2_with (at_builtin; refine wpList_append_own _ rfl _ _ 34 rfl C 9 i0 _ 1 16 Try.underlying34 hi0 hz0 hz1 hz2 rfl (by decide) _ n (strV (rK pl T by_ k)) rfl (ho.alloc _) ⟨wr.heap.size, 0, none⟩ 1 1 (strV [p]) rfl rfl (str_news _ _) (one_str _) (by unfold maxLen; omega) (by omega) (by simp; omega) ?_; intro v' w5 hown' hgr hnil)
          go_roundw
          case rel =>
            refine ⟨k + 1, _, by omega, by go_num, rfl, ?_, (HPS.out.below ((Below.refl _ _).alloc (Nat.le_refl _) _)).grown hgr (fun a h2 e => by have := HPC.out a (by omega) h2; have := hlt' _ e.symm; omega), World.ownsRow.kept (OwnI.below HES.out ((Below.refl _ _).alloc (Nat.le_refl _) _)) hgr HIO.out, (HBW.out.alloc (by omega) _).grown hgr (by simp; omega) (fun g h => by have := hlt' g h; omega), by have := hgr.size; simp at this; omega⟩
            rw [HN.out]
            unfold OwnStr
            rw [strV_app, List.length_append, ← hN.out]
            exact hown'
          case measure => simp [intOf]; omega
        · have HN := Lib.hid (HNo.out (by rw [HRO.out, decide_eq_false hyb]; simp))
          go_wp2
          go_roundw
          case rel => exact ⟨k + 1, _, by omega, by go_num, rfl, by rw [HN.out]; exact HO.out, HPS.out, HES.out, HBW.out, hCr⟩
          case measure => simp [intOf]; omega
      · have HN := Lib.hid (HNo.out (by rw [HRO.out, decide_eq_false hy0]; rfl))
        go_wp2
        go_roundw
        case rel => exact ⟨k + 1, _, by omega, by go_num, rfl, by rw [HN.out]; exact HO.out, HPS.out, HES.out, HBW.out, hCr⟩
        case measure => simp [intOf]; omega
    · obtain rfl : k = T.length := by omega
      go_wp2
      go_ret
      exact ⟨_, rfl, by rw [HV.out, HBE.out]; exact OwnStr.low HO.out (by omega), by rw [HBE.out]; exact HBW.out⟩
end Go.Proofs.Ytbdnbchleoahgab

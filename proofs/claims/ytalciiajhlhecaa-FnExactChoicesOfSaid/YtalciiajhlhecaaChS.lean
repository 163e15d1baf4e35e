/- The contract of ChoicesOf: the second text. -/
import Derived.Test.YtalciiajhlhecaaChI
import Derived.Test.YtalciiajhlhecaaEarS
import Derived.BigQuiet
namespace Go.Proofs.Ytalciiajhlhecaa
open Go.RowKit
theorem ch_G {l : List Lg} {zs : List Int} {x : Int} {fr to : ByteArray} {at_ : Int} {j : Nat} (hj : j < (placesB l).length) (hje : (placesB l)[j] = to) :
    ∃ G : Nat → Option Int, chK G ((placesB l).length + 1) = chB l zs x fr to at_ ∧ ∀ k, k ≤ (placesB l).length → ((bestB l zs x fr at_ (k : Int) = [] ∧ G k = none) ∨ ∃ h : j < (bestB l zs x fr at_ (k : Int)).length, (bestB l zs x fr at_ (k : Int))[j] = (G k).getD (-1)) ∧ ∀ e, G k = some e → 0 ≤ e := by
  by_cases h : bestOk l zs x fr at_ ((placesB l).length : Nat)
  · refine ⟨fun k => arrT l zs x fr (max at_ 0) k to, (ch_yes h).symm, fun k hk => ⟨.inr ?_, fun e he => ?_⟩⟩
    · have hb := best_yes (l := l) (zs := zs) (x := x) (fr := fr) (at_ := at_) (legs := (k : Int)) ⟨h.1, h.2.1, by omega⟩
      have hb' : bestB l zs x fr at_ (k : Int) = listT (placesB l) (arrT l zs x fr (max at_ 0) k) := by rw [hb, Int.toNat_natCast, Nat.min_eq_left hk]
      have hlen : j < (bestB l zs x fr at_ (k : Int)).length := by rw [hb', listT_len]; exact hj
      refine ⟨hlen, ?_⟩
      have e : (bestB l zs x fr at_ (k : Int))[j] = (listT (placesB l) (arrT l zs x fr (max at_ 0) k))[j]'(by rw [listT_len]; exact hj) := by congr 1
      rw [e, listT_get, hje]
    · have hok : ∀ z ∈ l, legOk z = true := fun z hz => by obtain ⟨j, hj, rfl⟩ := List.getElem_of_mem hz; exact (net_at (serv_iff.1 h.1).1).2.1 j hj
      exact (arr_bd (zs := zs) (ch := x) (fr := fr) (a := max at_ 0) hok (by have := h.2.1; omega) k to e he).1
  · refine ⟨fun _ => none, by rw [ch_no h, chK_none _ (fun _ => rfl)], fun k hk => ⟨.inl ⟨best_no (fun hb => h ⟨hb.1, hb.2.1, by omega⟩), rfl⟩, fun e he => by cases he⟩⟩
theorem ch_out {l : List Lg} {zs : List Int} {x : Int} {fr to : ByteArray} {at_ : Int} (h : to ∉ placesB l) : chB l zs x fr to at_ = [] := by
  by_cases hb : bestOk l zs x fr at_ ((placesB l).length : Nat)
  · rw [ch_yes hb]
    refine chK_none _ (fun k => ?_) _
    cases hk : arrT l zs x fr (max at_ 0) k to with
    | none => rfl
    | some b => exact absurd (arr_dom (serv_iff.1 hb.1).2 (fun z hz => (pl_place hz).2) k to b hk) h
  · exact ch_no hb
theorem box3_grown {T : TypeId} {w w' : World} {B : Nat} {v0 v1 v2 : Value} {row : Option Nat} (h : Box3 T w B v0 v1 v2) (hg : w.grownBy w' row) (hn : row ≠ some B) : Box3 T w' B v0 v1 v2 := (hg.block B h.lt hn.symm).trans h
set_option maxRecDepth 100000 in
set_option maxHeartbeats 8000000 in
theorem choices_spec (fr to : ByteArray) (at_ : Int) (A : Option Addr) (ca : Nat) (l : List Lg) (D : Option Addr) (cd : Nat) (zs : List Int) (x : Int) (w : World) (hA : InK 6 lgC w A l) (hD : IntsIn w D zs) (hs : ∀ z ∈ l, z.f.size ≤ maxLen ∧ z.t.size ≤ maxLen) (hn : l.length ≤ 1048576) (hm : zs.length ≤ 1048576) :
    Calls Try.prog 62 #[.agg #[.slice A l.length ca, .slice D zs.length cd, .int .i64 x], .string fr, .string to, .int .i64 at_] w fun e w' => ∃ v, e = .returned v ∧ OwnKch w' w.heap.size v (chB l zs x fr to at_) ∧ Below w.heap.size w w' := by
  obtain ⟨i0, hi0, hz0, hz1, hz2⟩ := info_parts ch_info
  have hB := Box3.new (T := 39) (v0 := .slice A l.length ca) (v1 := .slice D zs.length cd) (v2 := .int .i64 x) w
  have hb0 := (Below.refl w.heap.size w).alloc (Nat.le_refl _) (.cells #[.slice A l.length ca, .slice D zs.length cd, .int .i64 x] 39)
  have H0 := Lib.hid (And.intro hB (And.intro hb0 (And.intro (hA.below hb0) (hD.below hb0))))
  have hA0 := Lib.hid (fun W (h : Below w.heap.size w W) => hA.below h); have hD0 := Lib.hid (fun W (h : Below w.heap.size w W) => hD.below h)
  clear hB hb0 hA hD
  have HPL := Lib.hid (fun W (h1 : InK 6 lgC W A l) => places_spec A ca l D cd zs.length x W h1 hn)
  have HBS := Lib.hid (fun k W (h1 : InK 6 lgC W A l) (h2 : IntsIn W D zs) => best_spec fr at_ k A ca l D cd zs x W h1 h2 hs hn hm)
  have HB40 := Lib.hid (fun k => best_40 l zs x fr at_ k)
  have hpl4 : (placesB l).length ≤ 4000000 := by have := placesB_len l; omega
  have hgi := idxI_ge (placesB l) to
  clear hs
  go_enter Try.func62, Try.ntmps62
  go_wp2_with fail
  generalize hB : w.heap.size = B at *
  have HBE := Lib.hid hB; clear hB
  generalize w.alloc (.cells #[.slice A l.length ca, .slice D zs.length cd, .int .i64 x] 39) = W0 at *
  refine (HPL.out _ H0.out.2.2.1).mono ?_; rintro e W ⟨⟨vp, rfl, hvp⟩, hb1⟩
  obtain ⟨PA, cp, rfl, hP⟩ := own_strs hvp
  have H1 := Lib.hid (And.intro (H0.out.1.below hb1) (And.intro (H0.out.2.1.trans (hb1.mono (Nat.le_of_lt H0.out.1.lt))) (And.intro (H0.out.2.2.1.below hb1) (And.intro (H0.out.2.2.2.below hb1) hP)))); clear H0 hb1 hvp hP HPL
  have hIX := index_spec PA cp (placesB l) to W H1.out.2.2.2.2 hpl4
  have HIX := Lib.hid hIX; clear hIX
  have hWB : B < W.heap.size := H1.out.1.lt
  go_wp2_with fail
  refine HIX.out.mono ?_; rintro e W2 ⟨rfl, rfl⟩
  have hbn := (Below.refl W2.heap.size W2).alloc (Nat.le_refl _) (.cells #[] 67)
  have HO0 := Lib.hid (own_newC W2)
  have H2 := Lib.hid (And.intro (H1.out.1.below hbn) (And.intro (H1.out.2.1.trans (hbn.mono (Nat.le_of_lt hWB))) (And.intro (H1.out.2.2.1.below hbn) (H1.out.2.2.2.1.below hbn))))
  clear H1 hbn HIX
  obtain ⟨V0, hV0⟩ : ∃ V0 : Value, V0 = .slice (some ⟨W2.heap.size, 0, none⟩) 0 0 := ⟨_, rfl⟩
  rw [← hV0] at HO0
  have HV := Lib.hid hV0; clear hV0
  have hC0 : B ≤ W2.heap.size := by omega
  have hCB : B < W2.heap.size := by omega
  have hC3 : W2.heap.size ≤ (W2.alloc (.cells #[] 67)).heap.size := by simp
  by_cases hin : to ∈ placesB l
  rotate_left
  · have HE := Lib.hid (ch_out (zs := zs) (x := x) (fr := fr) (at_ := at_) hin)
    have hJ : idxI (placesB l) to < 0 := by
      have := Lib.idxOfS_nonneg_iff (placesB l) to
      by_cases h : idxI (placesB l) to < 0
      · exact h
      · exact absurd (this.1 (by unfold idxI at h; omega)) hin
    obtain ⟨J, hJe⟩ : ∃ J, J = idxI (placesB l) to := ⟨_, rfl⟩
    rw [← hJe] at hJ ⊢
    have hJd : decide (0 ≤ J) = false := decide_eq_false (by omega)
    have hJn : ¬ 0 ≤ J := by omega
    clear hin hgi hJe HBS HB40
    generalize (placesB l).length = P at *
    go_wp2
    rw [← HV.out]
    clear HV
    generalize W2.alloc (.cells #[] 67) = W3 at *
    generalize W2.heap.size = C at *
    go_loopw [11, 12] (fun v i wr => v = V0 ∧ i = .int .i64 0 ∧ wr = W3) (fun _ _ _ => 0)
    case atStart => exact ⟨rfl, rfl, rfl⟩
    case round =>
      obtain ⟨rfl, rfl, rfl⟩ := hrel
      have hP0 : decide ((0 : Int) ≤ (P : Int)) = true := decide_eq_true (by omega)
      go_wp2
      go_ret
      exact ⟨_, rfl, by rw [HE.out, HBE.out]; exact OwnK.mono HO0.out hC0, by rw [HBE.out]; exact H2.out.2.1⟩
  · obtain ⟨j, hj, hjl, hje⟩ := idx_mem (pl_nodup l) hin
    obtain ⟨G, hG1, hG2⟩ := ch_G (zs := zs) (x := x) (fr := fr) (at_ := at_) hjl hje
    have HE := Lib.hid hG1; have HG := Lib.hid hG2
    have HLEN := Lib.hid (chK_len G)
    have HKS := Lib.hid (fun k => show chK G (k + 1) = pushC (chK G k) k (G k) from rfl)
    rw [hj]
    have hj0 : decide ((0 : Int) ≤ (j : Int)) = true := decide_eq_true (by omega)
    have HAF := Lib.hid (fun W (h : Below B w W) => hA0.out W h)
    have HDF := Lib.hid (fun W (h : Below B w W) => hD0.out W h)
    clear hin hgi hG1 hG2 hj hje hA0 hD0
    generalize (placesB l).length = P at *
    go_wp2
    rw [← HV.out]
    clear HV
    generalize W2.alloc (.cells #[] 67) = W3 at *
    generalize W2.heap.size = C at *
    go_loopw [11, 12] (fun v i wr => ∃ k : Nat, k ≤ P + 1 ∧ i = .int .i64 k ∧ OwnKch wr C v (chK G k) ∧ Box3 39 wr B (.slice A l.length ca) (.slice D zs.length cd) (.int .i64 x) ∧ Below B w wr ∧ C ≤ wr.heap.size) (fun _ i _ => P + 1 - (intOf i).toNat)
    case atStart => exact ⟨0, Nat.zero_le _, rfl, HO0.out, H2.out.1, H2.out.2.1, hC3⟩
    case round =>
      clear HO0
      obtain ⟨k, hk, rfl, ho, hX, hb, hCw⟩ := hrel
      by_cases hlt : (k : Int) ≤ (P : Int)
      · have hkP : k ≤ P := by omega
        obtain ⟨hGk, hG0⟩ := HG.out k hkP
        have HAk := Lib.hid (H2.out.2.2.1)
        have hH2 := H2.out
        have HX := Lib.hid hX; have HB := Lib.hid hb; have HO := Lib.hid ho
        have HBC := Lib.hid (HBS.out (k : Int) wr (HAF.out wr HB.out) (HDF.out wr HB.out))
        have h40 := HB40.out (k : Int)
        have hLl := HLEN.out k
        have HK := Lib.hid (HKS.out k)
        obtain ⟨Tb, hTb⟩ : ∃ Tb, Tb = bestB l zs x fr at_ (k : Int) := ⟨_, rfl⟩
        rw [← hTb] at HBC h40
        have HGK := Lib.hid (show (Tb = [] ∧ G k = none) ∨ ∃ h : j < Tb.length, Tb[j] = (G k).getD (-1) from by subst hTb; exact hGk)
        have HG0 := Lib.hid hG0
        obtain ⟨L, hL⟩ : ∃ L, L = chK G k := ⟨_, rfl⟩
        rw [← hL] at HO hLl HK
        clear hL hTb hGk hG0 hH2 ho hX hb HAk
        obtain ⟨c0, c1, c2⟩ := HX.out.cells
        have hBw := HX.out.lt
        go_wp2_with fail
        refine HBC.out.mono ?_; rintro e w3 ⟨v3, rfl, hv3, hb3⟩
        obtain ⟨EA, ce, rfl⟩ := hv3.opens
        have HI3 := Lib.hid hv3.ins.2
        have HX3 := Lib.hid (HX.out.below hb3); have HB3 := Lib.hid (HB.out.trans (hb3.mono (Nat.le_of_lt hBw))); have HO3 := Lib.hid (below_ch HO.out hb3)
        have hC3 : C ≤ w3.heap.size := Nat.le_trans hCw hb3.size
        clear hv3 hb3 HX HB HO c0 c1 c2 hBw hCw HBC
        obtain ⟨VA, vc, rfl⟩ := HO3.out.opens
        obtain ⟨N, hN⟩ : ∃ N, N = L.length := ⟨_, rfl⟩
        have HN := Lib.hid hN.symm
        have HIL := Lib.hid (HO3.out.ins chC_len).2
        rw [← hN] at hLl HO3 ⊢
        cases hgk : G k with
        | none =>
          have HP := Lib.hid (show chK G (k + 1) = L by rw [HK.out, hgk]; rfl)
          rcases HGK.out with ⟨hnil, _⟩ | ⟨hjl2, hjv⟩
          · subst hnil
            rw [show ([] : List Int).length = 0 from rfl]
            clear hN HK hgk HGK
            go_wp2_with fail
            refine wp_region_far (by kernel_rfl) (by kernel_rfl) ?_
            repeat (any_goals (first | go_big_quiet_step (fail) | quiet_step (fail)))
            refine wpQuiet_nil ?_; intro w6 hw6
            have hb6 : Below w3.heap.size w3 w6 := by obtain ⟨u, rfl⟩ := hw6; exact below_far w3 u
            clear hw6
            go_wp2
            go_roundw
            case rel => exact ⟨k + 1, by omega, by go_num, by rw [HP.out]; exact below_ch HO3.out hb6, HX3.out.below hb6, HB3.out.trans (hb6.mono (by omega)), Nat.le_trans hC3 hb6.size⟩
            case measure => simp [intOf]; omega
          · rw [hgk] at hjv
            obtain ⟨ge, rfl, hge, e0⟩ := HI3.out j hjl2
            rw [hjv] at e0
            simp only [Option.getD_none] at e0
            have F0 := far_cell hge e0
            have hTl : decide ((0 : Int) < (Tb.length : Int)) = true := decide_eq_true (by omega)
            have hTl2 : (0 : Int) < (Tb.length : Int) := by omega
            have hTn : decide (0 < Tb.length) = true := decide_eq_true (by omega)
            have hTn2 : 0 < Tb.length := by omega
            have hTn3 : Tb ≠ [] := by intro h; subst h; simp at hTn2
            have hji : (j : Int) < (Tb.length : Int) := by omega
            clear hN HK hgk HGK hjv e0
            go_wp2_with fail
            refine wp_region_far (by kernel_rfl) (by kernel_rfl) ?_
            repeat (any_goals (first | go_big_quiet_step (fail) | quiet_step (fail)))
            refine wpQuiet_nil ?_; intro w6 hw6
            have hb6 : Below w3.heap.size w3 w6 := by obtain ⟨u, rfl⟩ := hw6; exact below_far w3 u
            clear hw6
            go_wp2
            go_roundw
            case rel => exact ⟨k + 1, by omega, by go_num, by rw [HP.out]; exact below_ch HO3.out hb6, HX3.out.below hb6, HB3.out.trans (hb6.mono (by omega)), Nat.le_trans hC3 hb6.size⟩
            case measure => simp [intOf]; omega
        | some v =>
          have hv0 := HG0.out v hgk
          obtain ⟨hjl2, hjv⟩ : ∃ h : j < Tb.length, Tb[j] = v := by
            rcases HGK.out with ⟨_, h⟩ | ⟨h, hv⟩
            · rw [hgk] at h; cases h
            · exact ⟨h, by rw [hv, hgk]; rfl⟩
          obtain ⟨ge, rfl, hge, e0⟩ := HI3.out j hjl2
          rw [hjv] at e0
          have F0 := far_cell hge e0
          have hTl : decide ((0 : Int) < (Tb.length : Int)) = true := decide_eq_true (by omega)
          have hTl2 : (0 : Int) < (Tb.length : Int) := by omega
          have hTn : decide (0 < Tb.length) = true := decide_eq_true (by omega)
          have hTn2 : 0 < Tb.length := by omega
          have hTn3 : Tb ≠ [] := by intro h; subst h; simp at hTn2
          have hji : (j : Int) < (Tb.length : Int) := by omega
          have hvd : decide (0 ≤ v) = true := decide_eq_true hv0
          have HE0 := Lib.hid e0
          cases hl : lastC L with
          | none =>
            have h0 := lastC_none hl
            have HP := Lib.hid (show chK G (k + 1) = L ++ [⟨k, v⟩] by rw [HK.out, hgk]; exact push_first hl)
            have hN0 : N = 0 := by rw [hN, h0]; rfl
            subst hN0
            clear hN HK hl h0 hgk HGK hjv e0
            go_wp2_with fail
            refine wp_region_far (by kernel_rfl) (by kernel_rfl) ?_
            repeat (any_goals (first | go_big_quiet_step (fail) | quiet_step (fail)))
            refine wpQuiet_nil ?_; intro w6 hw6
            have hb6 : Below w3.heap.size w3 w6 := by obtain ⟨u, rfl⟩ := hw6; exact below_far w3 u
            clear hw6
            have HO6 := Lib.hid (below_ch HO3.out hb6)
            have e6 := (hb6.cell (p := ⟨ge, j, none⟩) hge).trans HE0.out
            have hge6 : ge < w6.heap.size := Nat.lt_of_lt_of_le hge hb6.size
            have hC6 : C ≤ w6.heap.size := Nat.le_trans hC3 hb6.size
            have HX6 := Lib.hid (HX3.out.below hb6); have HB6 := Lib.hid (HB3.out.trans (hb6.mono (by omega)))
            clear hb6 F0 HX3 HB3 HO3
            go_wp2_with (at_builtin; refine wpList_append_own _ rfl _ _ 64 rfl C 67 i0 _ 2 16 Try.underlying64 hi0 hz0 hz1 hz2 rfl (by decide) _ 0 (L.flatMap chC) rfl (own_atC HO6.out HN.out) ⟨w6.heap.size, 0, none⟩ 1 1 (chC ⟨k, v⟩) rfl rfl (ch_news _ _ _ _) (one_ch _) (by unfold maxLen; omega) (by omega) (by simp; omega) ?_; intro v' w7 hown' hgr hnil)
            go_roundw
            case rel => exact ⟨k + 1, by omega, by go_num, by rw [HP.out]; exact app_atC hown' HN.out, box3_grown (HX6.out.below ((Below.refl _ _).alloc (Nat.le_refl _) _)) hgr (fun h => by have := (World.ownsRow.lt HO6.out _ h).1; omega), (HB6.out.alloc (by omega) _).grown hgr (by simp; omega) (fun q h => by have := (World.ownsRow.lt HO6.out q h).1; omega), by have := hgr.size; simp at this; omega⟩
            case measure => simp [intOf]; omega
          | some b0 =>
            obtain ⟨hpos, hlast⟩ := lastC_some hl
            obtain ⟨m, hm⟩ : ∃ m, N = m + 1 := ⟨N - 1, by omega⟩
            obtain ⟨gl, rfl, hgl, z0, cel⟩ := InK.ch HIL.out m (by omega)
            have hce : w3.cell? ⟨gl, m * 2 + 1, none⟩ = some (.int .i64 b0) := by
              have hidx : L.length - 1 = m := by omega
              simp only [hidx] at hlast
              rw [cel, hlast]
            have F1 := far_cell hgl hce
            have hNm : (N : Int) - 1 = (m : Int) := by omega
            have hmi : (m : Int) < (N : Int) := by omega
            have hNq : ((N : Int) == 0) = false := beq_eq_false_iff_ne.2 (by omega)
            have hNq2 : ¬ N = 0 := by omega
            have hNq3 : (N == 0) = false := beq_eq_false_iff_ne.2 (by omega)
            by_cases hlt2 : v < b0
            · have HP := Lib.hid (show chK G (k + 1) = L ++ [⟨k, v⟩] by rw [HK.out, hgk]; exact push_lt hl hlt2)
              clear hN HK hl hgk HGK hjv e0 cel z0 hce hlast hm hpos
              go_wp2_with fail
              refine wp_region_far (by kernel_rfl) (by kernel_rfl) ?_
              repeat (any_goals (first | go_big_quiet_step (fail) | quiet_step (fail)))
              refine wpQuiet_nil ?_; intro w6 hw6
              have hb6 : Below w3.heap.size w3 w6 := by obtain ⟨u, rfl⟩ := hw6; exact below_far w3 u
              clear hw6
              have HO6 := Lib.hid (below_ch HO3.out hb6)
              have e6 := (hb6.cell (p := ⟨ge, j, none⟩) hge).trans HE0.out
              have hge6 : ge < w6.heap.size := Nat.lt_of_lt_of_le hge hb6.size
              have hC6 : C ≤ w6.heap.size := Nat.le_trans hC3 hb6.size
              have HX6 := Lib.hid (HX3.out.below hb6); have HB6 := Lib.hid (HB3.out.trans (hb6.mono (by omega)))
              clear hb6 F0 F1 HX3 HB3 HO3 hNm
              go_wp2_with (at_builtin; refine wpList_append_own _ rfl _ _ 64 rfl C 67 i0 _ 2 16 Try.underlying64 hi0 hz0 hz1 hz2 rfl (by decide) _ N (L.flatMap chC) rfl (own_atC HO6.out HN.out) ⟨w6.heap.size, 0, none⟩ 1 1 (chC ⟨k, v⟩) rfl rfl (ch_news _ _ _ _) (one_ch _) (by unfold maxLen; omega) (by omega) (by simp; omega) ?_; intro v' w7 hown' hgr hnil)
              go_roundw
              case rel => exact ⟨k + 1, by omega, by go_num, by rw [HP.out]; exact app_atC hown' HN.out, box3_grown (HX6.out.below ((Below.refl _ _).alloc (Nat.le_refl _) _)) hgr (fun h => by have := (World.ownsRow.lt HO6.out _ h).1; omega), (HB6.out.alloc (by omega) _).grown hgr (by simp; omega) (fun q h => by have := (World.ownsRow.lt HO6.out q h).1; omega), by have := hgr.size; simp at this; omega⟩
              case measure => simp [intOf]; omega
            · have HP := Lib.hid (show chK G (k + 1) = L by rw [HK.out, hgk]; exact push_ge hl hlt2)
              clear hN HK hl hgk HGK hjv e0 cel z0 hce hlast hm hpos
              go_wp2_with fail
              refine wp_region_far (by kernel_rfl) (by kernel_rfl) ?_
              repeat (any_goals (first | go_big_quiet_step (fail) | quiet_step (fail)))
              refine wpQuiet_nil ?_; intro w6 hw6
              have hb6 : Below w3.heap.size w3 w6 := by obtain ⟨u, rfl⟩ := hw6; exact below_far w3 u
              clear hw6
              go_wp2
              go_roundw
              case rel => exact ⟨k + 1, by omega, by go_num, by rw [HP.out]; exact below_ch HO3.out hb6, HX3.out.below hb6, HB3.out.trans (hb6.mono (by omega)), Nat.le_trans hC3 hb6.size⟩
              case measure => simp [intOf]; omega
      · obtain rfl : k = P + 1 := by omega
        have HO := Lib.hid ho; clear ho
        have hdk : decide ((((P + 1 : Nat) : Int)) ≤ (P : Int)) = false := decide_eq_false (by omega)
        go_wp2
        go_ret
        exact ⟨_, rfl, by rw [← HE.out, HBE.out]; exact OwnK.mono HO.out hC0, by rw [HBE.out]; exact hb⟩
end Go.Proofs.Ytalciiajhlhecaa

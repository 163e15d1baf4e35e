/- The contract of spec.LatestStarts. -/
import Derived.Test.YtalciiajhlhecaaLatN
import Derived.Test.YtalciiajhlhecaaRoundS
import Derived.Test.YtalciiajhlhecaaPlS
import Derived.Deep.RegionHeld3
namespace Go.Proofs.Ytalciiajhlhecaa
open Go.RowKit
theorem legIn_none {zs : List Int} {ch : Int} {to : ByteArray} {h : Tm} {x : Lg} (e : h x.t = none) : legIn zs ch to h x = none := by unfold legIn; rw [e]; rfl
set_option maxRecDepth 100000 in
set_option maxHeartbeats 8000000 in
theorem lat_spec (to : ByteArray) (by_ : Int) (A : Option Addr) (ca : Nat) (l : List Lg) (D : Option Addr) (cd : Nat) (zs : List Int) (x : Int) (w : World) (hA : InK 6 lgC w A l) (hD : IntsIn w D zs) (hs : ∀ z ∈ l, z.f.size ≤ maxLen ∧ z.t.size ≤ maxLen) (hn : l.length ≤ 1048576) (hm : zs.length ≤ 1048576) (hby : by_ ≤ 9223372036854775807) :
    Calls Try.prog 56 #[.agg #[.slice A l.length ca, .slice D zs.length cd, .int .i64 x], .string to, .int .i64 by_] w fun e w' => ∃ v, e = .returned v ∧ OwnI w' w.heap.size v (latB l zs x to by_) ∧ Below w.heap.size w w' := by
  obtain ⟨i0, hi0, hz0, hz1, hz2⟩ := info_parts int_info
  have hB := Box3.new (T := 39) (v0 := .slice A l.length ca) (v1 := .slice D zs.length cd) (v2 := .int .i64 x) w
  have hb0 := (Below.refl w.heap.size w).alloc (Nat.le_refl _) (.cells #[.slice A l.length ca, .slice D zs.length cd, .int .i64 x] 39)
  have H0 := Lib.hid (And.intro hB (And.intro hb0 (And.intro (hA.below hb0) (hD.below hb0)))); clear hB hb0 hA hD
  have HPL := Lib.hid (fun W (h1 : InK 6 lgC W A l) => places_spec A ca l D cd zs.length x W h1 hn)
  have HI := Lib.hid (fun W (h1 : InK 6 lgC W A l) (h2 : IntsIn W D zs) => is_net_spec A ca l D cd zs x W h1 h2 hs hn hm)
  have hpl4 : (placesB l).length ≤ 4000000 := by have := placesB_len l; omega
  have hgi := idxI_ge (placesB l) to
  clear hs
  go_enter Try.func56, Try.ntmps56
  go_wp2_with fail
  generalize hB : w.heap.size = B at *
  have HBE := Lib.hid hB; clear hB
  generalize w.alloc (.cells #[.slice A l.length ca, .slice D zs.length cd, .int .i64 x] 39) = W0 at *
  refine (HPL.out _ H0.out.2.2.1).mono ?_; rintro e W ⟨⟨vp, rfl, hvp⟩, hb1⟩
  obtain ⟨PA, cp, rfl, hP⟩ := own_strs hvp
  have H1 := Lib.hid (And.intro (H0.out.1.below hb1) (And.intro (H0.out.2.1.trans (hb1.mono (Nat.le_of_lt H0.out.1.lt))) (And.intro (H0.out.2.2.1.below hb1) (And.intro (H0.out.2.2.2.below hb1) hP)))); clear H0 hb1 hvp hP HPL
  have HIX := Lib.hid (fun p W (h : StrsIn W PA (placesB l)) => index_spec PA cp (placesB l) p W h hpl4)
  have HIXT := Lib.hid (HIX.out to)
  have HJ := Lib.hid (show ∀ J, J = idxI (placesB l) to → (0 ≤ J ↔ to ∈ placesB l) from fun J h => by rw [h]; exact Lib.idxOfS_nonneg_iff _ _)
  obtain ⟨J, hJ⟩ : ∃ J, J = idxI (placesB l) to := ⟨_, rfl⟩
  rw [← hJ] at HIXT hgi
  have hJm := HJ.out J hJ
  have HJE := Lib.hid hJ
  clear HJ hJ
  obtain ⟨b0, b1, b2⟩ := H1.out.1.cells
  have hWB : B < W.heap.size := H1.out.1.lt
  go_wp2_with fail
  refine (HIXT.out W H1.out.2.2.2.2).mono ?_; rintro e W2 ⟨rfl, rfl⟩
  have hbn := (Below.refl W2.heap.size W2).alloc (Nat.le_refl _) (.cells #[] 3)
  have H2 := Lib.hid (And.intro (H1.out.1.below hbn) (And.intro (H1.out.2.2.1.below hbn) (And.intro (H1.out.2.2.2.1.below hbn) (ownI_new W2))))
  clear b0 b1 b2
  obtain ⟨b0, b1, b2⟩ := H2.out.1.cells
  go_wp2_with fail
  have HNO := Lib.hid (fun (h : ¬ latOk l zs x to by_) => lat_no h)
  by_cases hok : latOk l zs x to by_
  rotate_left
  · have HE := Lib.hid (HNO.out hok)
    have HEN := Lib.hid (show ∀ w3, Below (W2.alloc (.cells #[] 3)).heap.size (W2.alloc (.cells #[] 3)) w3 → OwnI w3 B (.slice (some ⟨W2.heap.size, 0, none⟩) 0 0) [] ∧ Below B w w3 from fun w3 h =>
      ⟨OwnI.mono (H2.out.2.2.2.below h) (Nat.le_of_lt hWB), H1.out.2.1.trans ((hbn.trans (h.mono hbn.size)).mono (Nat.le_of_lt hWB))⟩)
    cases hnet : netB l zs x with
    | false =>
      rw [hnet] at HI; clear hnet hok hJm
      refine (HI.out _ H2.out.2.1 H2.out.2.2.1).mono ?_; rintro e w3 ⟨rfl, hb3⟩
      go_wp2
      go_ret
      exact ⟨_, rfl, by rw [HE.out, HBE.out]; exact (HEN.out _ hb3).1, by rw [HBE.out]; exact (HEN.out _ hb3).2⟩
    | true =>
      have hbad : J < 0 ∨ by_ < 0 := by
        by_cases h1 : J < 0
        · exact .inl h1
        · by_cases h2 : by_ < 0
          · exact .inr h2
          · exact absurd ⟨serv_iff.2 ⟨hnet, hJm.1 (by omega)⟩, by omega⟩ hok
      rw [hnet] at HI; clear hnet hok hJm
      by_cases h1 : J < 0
      · refine (HI.out _ H2.out.2.1 H2.out.2.2.1).mono ?_; rintro e w3 ⟨rfl, hb3⟩
        go_wp2
        go_ret
        exact ⟨_, rfl, by rw [HE.out, HBE.out]; exact (HEN.out _ hb3).1, by rw [HBE.out]; exact (HEN.out _ hb3).2⟩
      · have h2 : by_ < 0 := by omega
        refine (HI.out _ H2.out.2.1 H2.out.2.2.1).mono ?_; rintro e w3 ⟨rfl, hb3⟩
        go_wp2
        go_ret
        exact ⟨_, rfl, by rw [HE.out, HBE.out]; exact (HEN.out _ hb3).1, by rw [HBE.out]; exact (HEN.out _ hb3).2⟩
  · have HE := Lib.hid (lat_yes hok)
    obtain ⟨hsv, h0⟩ := hok
    obtain ⟨hnet, htp⟩ := serv_iff.1 hsv
    obtain ⟨f, hf, hfl, hfe⟩ := idx_mem (pl_nodup l) htp
    have hJf : J = (f : Int) := HJE.out.trans hf
    subst hJf
    have hok : ∀ z ∈ l, legOk z = true := fun z hz => by obtain ⟨j, hj, rfl⟩ := List.getElem_of_mem hz; exact (net_at hnet).2.1 j hj
    have hch := (net_at hnet).2.2.2
    have hl20 := (net_at hnet).1
    have HFL := Lib.hid (show firstL f by_ (placesB l).length = listT (placesB l) (latT l zs x to by_ 0) from by rw [firstL_all (pl_nodup l) hfl, hfe]; rfl)
    have HIN := Lib.hid (fun k => lat_in (zs := zs) (ch := x) (to := to) hok hch.1 h0 k)
    have HTO := Lib.hid (fun k => lat_to (l := l) (zs := zs) (ch := x) (to := to) (b := by_) hok hch.1 h0 k)
    have HFI := Lib.hid (fun j h (hi : InL by_ h) => fold_in (zs := zs) (ch := x) (to := to) hch.1 (l.take j) h (fun y hy => hok y (List.mem_of_mem_take hy)) hi)
    have HLS := Lib.hid (fun k (hk : k < l.length) r W (h1 : InK 6 lgC W A l) (h2 : IntsIn W D zs) => by
      have h := last3 A ca l D cd zs x (k : Int) r W h1 h2 hn hm (net_at hnet).2.1
      rw [show x3Last l zs (k : Int) r = lastD (lastP l[k] zs r) 61 by unfold x3Last; rw [if_pos (by omega), lgAt_get hk]] at h
      exact h)
    have HST := Lib.hid (fun k (hk : k < l.length) (d : Int) W (h1 : InK 6 lgC W A l) (h2 : IntsIn W D zs) (hd : 0 ≤ d ∧ d ≤ 60) => start_spec A ca l D cd zs x k d W h1 h2 hk hn hd (leg_bd ((net_at hnet).2.1 k hk)).1)
    have HLB := Lib.hid (fun k (hk : k < l.length) => leg_bd ((net_at hnet).2.1 k hk))
    have HOK := Lib.hid hok
    have HMX := Lib.hid (fun a b W => max_spec a b W)
    have HPP := Lib.hid (fun z (hz : z ∈ l) => pl_place hz)
    have HND := Lib.hid (pl_nodup l)
    have HFE := Lib.hid hfe
    rw [hnet] at HI
    clear hnet hok hJm hsv htp hf hfe HNO HJE hgi
    refine (HI.out _ H2.out.2.1 H2.out.2.2.1).mono ?_; rintro e w3 ⟨rfl, hb3⟩
    have hb23 := hbn.trans (hb3.mono hbn.size)
    have HO3 := Lib.hid (H2.out.2.2.2.below hb3)
    have h0n : ¬ by_ < 0 := by omega
    clear b0 b1 b2 H2 hbn hb3 HI HIXT
    generalize placesB l = pl at *
    go_wp2
    obtain ⟨V0, hV0⟩ : ∃ V0 : Value, V0 = .slice (some ⟨W2.heap.size, 0, none⟩) 0 0 := ⟨_, rfl⟩
    rw [← hV0] at HO3 ⊢
    clear hV0
    go_loopw [9, 10] (fun v i wr => ∃ k : Nat, k ≤ pl.length ∧ i = .int .i64 k ∧ OwnI wr W2.heap.size v (firstL f by_ k) ∧ Below W2.heap.size W2 wr) (fun _ i _ => pl.length - (intOf i).toNat)
    case atStart => exact ⟨0, Nat.zero_le _, rfl, HO3.out, hb23⟩
    case round =>
      clear HO3 hb23
      obtain ⟨k, hk, rfl, ho, hb⟩ := hrel
      have hbz := hb.size
      have hflen := firstL_len f by_ k
      have HO := Lib.hid ho
      unfold OwnI at ho
      rw [hflen] at ho
      have hlt' := fun g h => (HO.out.lt g h).1
      by_cases hlt : (k : Int) < (pl.length : Int)
      · by_cases hkf : k = f
        · have HF := Lib.hid (show firstL f by_ (k + 1) = firstL f by_ k ++ [by_] by rw [firstL_succ, if_pos hkf])
          have hkf' : (k : Int) = (f : Int) := by omega
          clear hkf
          go_wp2_with (at_builtin; refine wpList_append_own _ rfl _ _ 28 rfl W2.heap.size 3 i0 _ 1 8 Try.underlying28 hi0 hz0 hz1 hz2 rfl (by decide) _ k (intV (firstL f by_ k)) rfl (ho.alloc _) ⟨wr.heap.size, 0, none⟩ 1 1 (intV [by_]) rfl rfl (int_news _ _) (one_int _) (by unfold maxLen; omega) (by omega) (by simp; omega) ?_; intro v' w5 hown' hgr hnil)
          go_roundw
          case rel => exact ⟨k + 1, by omega, by go_num, by rw [HF.out]; exact ownI_push hown' hflen, (hb.alloc hbz _).grown hgr (by simp; omega) hlt'⟩
          case measure => simp [intOf]; omega
        · have HF := Lib.hid (show firstL f by_ (k + 1) = firstL f by_ k ++ [-1] by rw [firstL_succ, if_neg hkf])
          have hkf' : ¬ (k : Int) = (f : Int) := by omega
          clear hkf
          go_wp2_with (at_builtin; refine wpList_append_own _ rfl _ _ 28 rfl W2.heap.size 3 i0 _ 1 8 Try.underlying28 hi0 hz0 hz1 hz2 rfl (by decide) _ k (intV (firstL f by_ k)) rfl (ho.alloc _) ⟨wr.heap.size, 0, none⟩ 1 1 (intV [-1]) rfl rfl (int_news _ _) (one_int _) (by unfold maxLen; omega) (by omega) (by simp; omega) ?_; intro v' w5 hown' hgr hnil)
          go_roundw
          case rel => exact ⟨k + 1, by omega, by go_num, by rw [HF.out]; exact ownI_push hown' hflen, (hb.alloc hbz _).grown hgr (by simp; omega) hlt'⟩
          case measure => simp [intOf]; omega
      · obtain rfl : k = pl.length := by omega
        clear ho hflen hlt'
        have hrow := HO.out
        rw [HFL.out] at hrow
        obtain ⟨g1, c1, hv, hg1, hg1z⟩ := hrow.row (by intro e; have := listT_len pl (latT l zs x to by_ 0); rw [e] at this; simp at this; omega)
        rw [listT_len] at hv
        subst hv
        have HR1 := Lib.hid (show RowI wr W2.heap.size g1 c1 (listT pl (latT l zs x to by_ 0)) from by
          have h := hrow
          unfold RowI
          rw [listT_len]
          exact h)
        clear hrow HO HFL hg1z
        have HBL := Lib.hid hb
        clear hb hbz hlt
        go_wp2
        go_loopw [11] (fun i wr => ∃ k : Nat, k ≤ pl.length ∧ i = .int .i64 k ∧ RowI wr W2.heap.size g1 c1 (listT pl (latT l zs x to by_ k)) ∧ Below W2.heap.size W2 wr) (fun i _ => pl.length - (intOf i).toNat)
        case atStart => exact ⟨0, Nat.zero_le _, rfl, HR1.out, HBL.out⟩
        case round =>
          clear HR1 HBL hk
          obtain ⟨k, hk, rfl, hrow, hb⟩ := hrel
          have HROW := Lib.hid hrow; clear hrow
          by_cases hlt : (k : Int) < (pl.length : Int)
          · obtain ⟨H, hH⟩ : ∃ H, H = latT l zs x to by_ k := ⟨_, rfl⟩
            have HIH := Lib.hid (HIN.out k); have HTH := Lib.hid (HTO.out k)
            have HNX := Lib.hid (show l.foldl (oneL zs x to) (latT l zs x to by_ k) = latT l zs x to by_ (k + 1) from rfl)
            rw [← hH] at HROW HIH HTH HNX
            clear hH
            have HB1 := Lib.hid hb; clear hb
            go_wp2
            go_loopw [12] (fun i wr => ∃ j : Nat, j ≤ l.length ∧ i = .int .i64 j ∧ RowI wr W2.heap.size g1 c1 (listT pl ((l.take j).foldl (oneL zs x to) H)) ∧ Below W2.heap.size W2 wr) (fun i _ => l.length - (intOf i).toNat)
            case atStart => exact ⟨0, Nat.zero_le _, rfl, HROW.out, HB1.out⟩
            case round =>
              clear HROW HB1
              obtain ⟨j, hj, rfl, hrow, hb⟩ := hrel
              have hcap := hrow.capn
              rw [listT_len] at hcap
              have hg1z := RowI.lt hrow
              have HROW := Lib.hid hrow; clear hrow
              have hbz := hb.size
              obtain ⟨b0, b1, b2⟩ := (H1.out.1.below hb).cells
              have hBr : B < wr.heap.size := by omega
              have HBW := Lib.hid (show Below B w wr from H1.out.2.1.trans (hb.mono (Nat.le_of_lt hWB)))
              by_cases hlt : (j : Int) < (l.length : Int)
              · have hjn : j < l.length := by omega
                have HF := Lib.hid (fold_take (oneL zs x to) H l j hjn)
                have HIJ := Lib.hid (HFI.out j H HIH.out)
                have HTJ := Lib.hid (up_to (fold_up_take zs x to l H j) HTH.out HIJ.out)
                have HA1 := Lib.hid (H1.out.2.2.1.below hb)
                have HD1 := Lib.hid (H1.out.2.2.2.1.below hb)
                have HP1 := Lib.hid (H1.out.2.2.2.2.below hb)
                obtain ⟨ja, hja, hjal, hjae⟩ := idx_mem HND.out (HPP.out l[j] (List.getElem_mem hjn)).1
                obtain ⟨jb, hjb, hjbl, hjbe⟩ := idx_mem HND.out (HPP.out l[j] (List.getElem_mem hjn)).2
                have HIA : Hid (∀ W, StrsIn W PA pl → Calls Try.prog 90 #[.slice PA pl.length cp, .string (l[j]'hjn).f] W fun e w' => e = .returned (.int .i64 (ja : Int)) ∧ w' = W) := Lib.hid (fun W h => by
                  rw [← hja]
                  exact HIX.out _ W h)
                have HIB : Hid (∀ W, StrsIn W PA pl → Calls Try.prog 90 #[.slice PA pl.length cp, .string (l[j]'hjn).t] W fun e w' => e = .returned (.int .i64 (jb : Int)) ∧ w' = W) := Lib.hid (fun W h => by
                  rw [← hjb]
                  exact HIX.out _ W h)
                have HLSk := Lib.hid (fun r W h1 h2 => HLS.out j hjn r W h1 h2)
                have HSTk := Lib.hid (fun d W h1 h2 => HST.out j hjn d W h1 h2)
                have hlb1 := (HLB.out j hjn).1
                have HYO := Lib.hid (HOK.out l[j] (List.getElem_mem hjn))
                obtain ⟨h, hh0⟩ : ∃ h, h = (l.take j).foldl (oneL zs x to) H := ⟨_, rfl⟩
                rw [← hh0] at HROW HF HIJ HTJ
                clear hh0
                have HLO := Lib.hid (legIn_of (zs := zs) (ch := x) (to := to) (g := h) (x := l[j]))
                have HOB := Lib.hid (befD_bd (zs := zs) (ch := x) (to := to) (g := h) (x := l[j]))
                have hcb := HROW.out.get jb (by rw [listT_len]; exact hjbl)
                rw [listT_get, hjbe] at hcb
                have hca := HROW.out.get ja (by rw [listT_len]; exact hjal)
                rw [listT_get, hjae] at hca
                have hfz := HROW.out.free ja
                have HFA := Lib.hid (show (ja : Int) = (f : Int) ↔ l[j].f = to from by
                  rw [← hjae, ← HFE.out]
                  constructor
                  · intro h
                    have : ja = f := by omega
                    subst this; rfl
                  · intro h
                    have := (List.getElem_inj HND.out).1 h
                    omega)
                have HFB := Lib.hid (show (jb : Int) = (f : Int) ↔ l[j].t = to from by
                  rw [← hjbe, ← HFE.out]
                  constructor
                  · intro h
                    have : jb = f := by omega
                    subst this; rfl
                  · intro h
                    have := (List.getElem_inj HND.out).1 h
                    omega)
                have HJA := Lib.hid hjae
                obtain ⟨gb, rfl, hgb, c0, c1', c2, c3, c4, c5⟩ := HA1.out.lg j hjn
                obtain ⟨y, hy⟩ : ∃ y, y = l[j] := ⟨_, rfl⟩
                rw [← hy] at c0 c1' c2 c3 c4 c5 HF HLO HOB HIA HIB hlb1 HLSk HSTk hcb hca HFA HFB HJA HYO
                clear hy hja hjb hjae hjbe
                have HST1 := Lib.hid (fun (e : legIn zs x to h y = none) => show RowI wr W2.heap.size g1 c1 (listT pl (oneL zs x to h y)) from by rw [oneL_none e]; exact HROW.out)
                go_wp2_with fail
                refine (HIA.out wr HP1.out).mono ?_; rintro e w4 ⟨rfl, rfl⟩
                go_wp2_with fail
                refine (HIB.out _ HP1.out).mono ?_; rintro e w5 ⟨rfl, rfl⟩
                cases hhy : h y.t with
                | none =>
                  have HN := Lib.hid (HST1.out (legIn_none hhy))
                  rw [hhy] at hcb
                  simp only [Option.getD_none] at hcb
                  have hne : ¬ (jb : Int) = (f : Int) := fun e => by
                    have := HTJ.out
                    rw [← HFB.out.1 e, hhy] at this
                    cases this
                  clear hca hfz
                  go_wp2_with fail
                  refine (HLSk.out _ _ HA1.out HD1.out).mono ?_; rintro e w6 ⟨rfl, hb6⟩
                  have hcb6 := (hb6.cell (p := ⟨g1, _, none⟩) hg1z).trans hcb
                  clear hcb
                  go_wp2
                  go_roundw
                  case rel => exact ⟨j + 1, by omega, by go_num, by rw [HF.out]; exact HN.out.below hb6, hb.trans (hb6.mono hbz)⟩
                  case measure => simp [intOf]; omega
                | some v =>
                  have hv := HIJ.out y.t v hhy
                  rw [hhy] at hcb
                  simp only [Option.getD_some] at hcb
                  have hv0 : ¬ v < 0 := by omega
                  obtain ⟨r, hr, hrr⟩ : ∃ r, r = dueI x to y.t v ∧ r = (if (jb : Int) = (f : Int) then v else v - x) := by
                    refine ⟨_, rfl, ?_⟩
                    unfold dueI
                    by_cases e : y.t = to
                    · rw [if_pos e, if_pos (HFB.out.2 e)]
                    · rw [if_neg e, if_neg (fun h => e (HFB.out.1 h))]
                  have HBD := Lib.hid (show lastD (lastP y zs r) 61 = befD zs x to h y from by rw [befD_some hhy, hr])
                  have HLR : Hid (∀ W, InK 6 lgC W (some ⟨gb, 0, none⟩) l → IntsIn W D zs → Calls Try.prog 114 #[.agg #[.slice (some ⟨gb, 0, none⟩) l.length ca, .slice D zs.length cd, .int .i64 x], .int .i64 (j : Int), .int .i64 r] W fun e w' => e = .returned (.int .i64 (befD zs x to h y)) ∧ Below W.heap.size W w') := Lib.hid (fun W h1 h2 => by
                    rw [← HBD.out]
                    exact HLSk.out r W h1 h2)
                  have hob := HOB.out
                  have HLO' := Lib.hid HLO.out
                  clear HLSk HLO HOB hr
                  generalize befD zs x to h y = d at *
                  obtain ⟨Wr, hWr⟩ : ∃ Wr : World, Wr = w5 := ⟨_, rfl⟩
                  have HRL := Lib.hid (HLR.out _ HA1.out HD1.out)
                  clear HLR
                  by_cases hjf : (jb : Int) = (f : Int)
                  all_goals
                    first | rw [if_pos hjf] at hrr | rw [if_neg hjf] at hrr
                    subst hrr
                    first | ((have hfj : f = jb := (by omega)); (subst hfj)) | skip
                    by_cases hd : d < 0
                    · have HN := Lib.hid (HST1.out (HLO'.out.trans (if_pos hd)))
                      clear hca hfz hWr
                      go_wp2_with fail
                      refine HRL.out.mono ?_; rintro e w6 ⟨rfl, hb6⟩
                      have hcb6 := (hb6.cell (p := ⟨g1, _, none⟩) hg1z).trans hcb
                      clear hcb
                      go_wp2
                      go_roundw
                      case rel => exact ⟨j + 1, by omega, by go_num, by rw [HF.out]; exact HN.out.below hb6, hb.trans (hb6.mono hbz)⟩
                      case measure => simp [intOf]; omega
                    · have HLE := Lib.hid (HLO'.out.trans (if_neg hd))
                      by_cases hxf : (ja : Int) = (f : Int)
                      · have HN := Lib.hid (show RowI w5 W2.heap.size g1 c1 (listT pl (oneL zs x to h y)) from by rw [step_to HYO.out hch.1 HIJ.out HTJ.out (HFA.out.1 hxf)]; exact HROW.out)
                        clear hca hfz hWr
                        go_wp2_with fail
                        refine HRL.out.mono ?_; rintro e w6 ⟨rfl, hb6⟩
                        have hcb6 := (hb6.cell (p := ⟨g1, _, none⟩) hg1z).trans hcb
                        clear hcb
                        go_wp2
                        go_roundw
                        case rel => exact ⟨j + 1, by omega, by go_num, by rw [HF.out]; exact HN.out.below hb6, hb.trans (hb6.mono hbz)⟩
                        case measure => simp [intOf]; omega
                      · have hxn : ¬ ja = f := fun e => hxf (by rw [e])
                        have hx1 : (ja == f) = false := beq_eq_false_iff_ne.2 hxn
                        have hx2 : ((ja : Int) == (f : Int)) = false := beq_eq_false_iff_ne.2 hxf
                        have hdb : 0 ≤ d ∧ d ≤ 60 := by omega
                        obtain ⟨E, hE⟩ : ∃ E, E = d * 1440 + y.s := ⟨_, rfl⟩
                        rw [← hE] at HLE
                        have hE0 : 0 ≤ E := by omega
                        have HN := Lib.hid (step_max (pl := pl) HND.out HLE.out hE0 hjal HJA.out)
                        rw [listT_at pl h ja hjal, HJA.out] at HN
                        obtain ⟨O, hO⟩ : ∃ O, O = (h y.f).getD (-1) := ⟨_, rfl⟩
                        rw [← hO] at HN hca
                        have HEE : Hid (∀ W', Below w5.heap.size w5 W' → Calls Try.prog 102 #[.agg #[.slice (some ⟨gb, 0, none⟩) l.length ca, .slice D zs.length cd, .int .i64 x], .agg #[.int .i64 (j : Int), .int .i64 d]] W' fun e w' => e = .returned (.int .i64 E) ∧ Below W'.heap.size W' w') := Lib.hid (fun W' hh => by
                          rw [hE]
                          exact HSTk.out d W' (HA1.out.below hh) (HD1.out.below hh) hdb)
                        clear hE hO hWr HSTk HLE HLO' HST1
                        go_wp2_with fail
                        refine HRL.out.mono ?_; rintro e w6 ⟨rfl, hb6⟩
                        have hcb6 := (hb6.cell (p := ⟨g1, _, none⟩) hg1z).trans hcb
                        have hca6 := (hb6.cell (p := ⟨g1, ja, none⟩) hg1z).trans hca
                        have hfz6 := (hb6.frozen (p := ⟨g1, ja, none⟩) hg1z).trans hfz
                        have HR6 := Lib.hid (HROW.out.below hb6)
                        have HX6 := Lib.hid ((H1.out.1.below hb).below hb6)
                        have hB6 : B < w6.heap.size := by have := hb6.size; omega
                        have hg6 : g1 < w6.heap.size := by have := hb6.size; omega
                        have HB6 := Lib.hid hb6
                        have HROWL := Lib.hid HROW.out
                        clear hcb hca hfz b0 b1 b2 hb6 HROW
                        obtain ⟨b0, b1, b2⟩ := HX6.out.cells
                        have HNS := Lib.hid (show ∀ w', Below w6.heap.size w6 w' → RowI (w'.setCell ⟨g1, ja, none⟩ (.int .i64 (max O E))) W2.heap.size g1 c1 (listT pl (oneL zs x to h y)) from fun w' hw => by rw [HN.out]; exact (HR6.out.below hw).put ja (max O E))
                        have hjal' : (ja : Int) < (pl.length : Int) := by omega
                        obtain ⟨WW, hWW⟩ : ∃ WW : World, WW = w6 := ⟨_, rfl⟩
                        subst hWW
                        go_wp2_with fail
                        go_region_with
                          (first
                            | (go_at_call 102; refine (HEE.out _ (HB6.out.trans (Below.mono ?_ HB6.out.size))).mono ?_; (focus (first | exact Below.refl _ _ | exact (Below.refl _ _).drew)); (rintro e u ⟨rfl, hu⟩; (first | (have hbu : Below WW.heap.size WW u := below_undrew hu) | (have hbu : Below WW.heap.size WW u := hu)); obtain ⟨d0, d1, d2⟩ := (HX6.out.below hbu).cells; have dca := (hbu.cell (p := ⟨g1, ja, none⟩) hg6).trans hca6; have dfz := (hbu.frozen (p := ⟨g1, ja, none⟩) hg6).trans hfz6; have hgu : g1 < u.heap.size := (by have := hbu.size; omega)))
                            | (go_at_call 115; refine (HMX.out O E _).mono ?_; (rintro e u2 ⟨rfl, rfl⟩)))
                        all_goals
                          go_wp2
                          go_roundw
                          case rel => exact ⟨j + 1, by omega, by go_num, by rw [HF.out]; exact HNS.out _ hbu, ((hb.trans (HB6.out.mono hbz)).trans (hbu.mono (by have := HB6.out.size; omega))).setCell (RowI.low HROWL.out) _⟩
                          case measure => simp [intOf]; omega
              · obtain rfl : j = l.length := by omega
                have hrow := HROW.out
                rw [List.take_length, HNX.out] at hrow
                have HR2 := Lib.hid hrow
                clear hrow HROW
                go_wp2
                go_roundw
                case rel => exact ⟨k + 1, by omega, by go_num, HR2.out, hb⟩
                case measure => simp [intOf]; omega
          · obtain rfl : k = pl.length := by omega
            have HZ := Lib.hid (show Below B w wr from H1.out.2.1.trans (hb.mono (Nat.le_of_lt hWB)))
            go_wp2
            go_ret
            refine ⟨_, rfl, ?_, by rw [HBE.out]; exact HZ.out⟩
            rw [HE.out, HBE.out]
            have h := HROW.out
            unfold RowI at h
            rw [listT_len] at h
            exact OwnI.mono h (Nat.le_of_lt hWB)
end Go.Proofs.Ytalciiajhlhecaa

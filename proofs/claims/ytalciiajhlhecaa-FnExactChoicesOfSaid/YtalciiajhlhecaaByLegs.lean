/- The contract of impl.arrivalsByLegs. -/
import Derived.Test.YtalciiajhlhecaaArrR
import Derived.Test.YtalciiajhlhecaaOneLeg
import Derived.Test.YtalciiajhlhecaaMax
namespace Go.Proofs.Ytalciiajhlhecaa
open Go.RowKit
theorem initT_put (fr : ByteArray) (a : Int) : putT (fun _ => none) fr a = initT fr a := rfl
/-- what arrivalsByLegs answers where a way begins -/
structure ByL (l : List Lg) (zs : List Int) (x : Int) (fr : ByteArray) (a legs : Int) (bs : List Nat) : Prop where
  pos : 0 < bs.length
  le : (bs.length : Int) ≤ legs + 1
  pl : bs.length ≤ (placesB l).length
  new : ∀ i, i + 1 < bs.length → arrT l zs x fr a (i + 1) ≠ arrT l zs x fr a i
  fin : (bs.length : Int) = legs + 1 ∨ arrT l zs x fr a bs.length = arrT l zs x fr a (bs.length - 1)
set_option maxRecDepth 100000 in
set_option maxHeartbeats 4000000 in
theorem by_legs (fr : ByteArray) (at_ legs : Int) (A : Option Addr) (ca : Nat) (l : List Lg) (D : Option Addr) (cd : Nat) (zs : List Int) (x : Int) (w : World) (hA : InK 6 lgC w A l) (hD : IntsIn w D zs) (hs : ∀ z ∈ l, z.f.size ≤ maxLen ∧ z.t.size ≤ maxLen) (hn : l.length ≤ 1048576) (hm : zs.length ≤ 1048576)
    (hf : fr.size ≤ maxLen) (hsv : servB l zs x fr = true) (hat : at_ ≤ 100000) (hlg : 0 ≤ legs) (hlg2 : legs ≤ 9223372036854775807) (hat2 : -9223372036854775808 ≤ at_) :
    Calls Try.prog 80 #[.agg #[.slice A l.length ca, .slice D zs.length cd, .int .i64 x], .string fr, .int .i64 at_, .int .i64 legs] w fun e w' => ∃ v bs, e = .returned v ∧ ArrR w' w.heap.size v bs (arrT l zs x fr (max at_ 0)) ∧ ByL l zs x fr (max at_ 0) legs bs ∧ Below w.heap.size w w' := by
  obtain ⟨hnet, hfr⟩ := serv_iff.1 hsv
  have hB := Box3.new (T := 39) (v0 := .slice A l.length ca) (v1 := .slice D zs.length cd) (v2 := .int .i64 x) w
  have hb0 := (Below.refl w.heap.size w).alloc (Nat.le_refl _) (.cells #[.slice A l.length ca, .slice D zs.length cd, .int .i64 x] 39)
  have H0 := Lib.hid (And.intro hB (And.intro hb0 (And.intro (hA.below hb0) (hD.below hb0)))); clear hB hb0 hA hD
  have HSV := Lib.hid (fun W (h1 : InK 6 lgC W A l) (h2 : IntsIn W D zs) => by
    have h := serves_impl fr A ca l D cd zs x W h1 h2 hs hn hm
    rw [hsv] at h
    exact h)
  have hl20 := (net_at hnet).1
  have ha := (show 0 ≤ max at_ 0 ∧ max at_ 0 ≤ 100000 by omega)
  have hok : ∀ z ∈ l, legOk z = true := fun z hz => by obtain ⟨j, hj, rfl⟩ := List.getElem_of_mem hz; exact (net_at hnet).2.1 j hj
  have HBD := Lib.hid (fun k => arr_bd (zs := zs) (ch := x) (fr := fr) hok ha k)
  have HFIX := Lib.hid (fun k hk => arr_fix (l := l) (zs := zs) (ch := x) (fr := fr) (a := max at_ 0) (pl := placesB l) hok (net_at hnet).2.2.2.1 hfr (fun z hz => (pl_place hz).2) (k := k) hk)
  have HON := Lib.hid (fun b m g W (h1 : InK 6 lgC W A l) (h2 : IntsIn W D zs) (h3 : MapT W b m g) (hmm : m ≤ 1000000) (hg : ∀ q v, g q = some v → 0 ≤ v ∧ v ≤ 100000) => one_leg fr b m g A ca l D cd zs x W h1 h2 hs hn hm hnet h3 hmm hg)
  have HMX := Lib.hid (fun W => max_impl at_ 0 W)
  have hP1 : (placesB l).length ≤ 40 := by have := placesB_len l; omega
  have hP0 : 0 < (placesB l).length := List.length_pos_of_mem hfr
  obtain ⟨a, hae⟩ : ∃ a, a = max at_ 0 := ⟨_, rfl⟩
  rw [← hae] at ha HBD HFIX HMX ⊢
  clear hs hsv hfr hok hae hnet
  obtain ⟨i0, hi0, hz0, hz1, hz2⟩ := info_parts map_info
  have hmm := @run_makeMap Try.prog
  go_enter Try.func80, Try.ntmps80
  go_wp2_with fail
  generalize hB : w.heap.size = B at *
  have HBE := Lib.hid hB; clear hB
  generalize w.alloc (.cells #[.slice A l.length ca, .slice D zs.length cd, .int .i64 x] 39) = W0 at *
  refine (HSV.out _ H0.out.2.2.1 H0.out.2.2.2).mono ?_; rintro e W ⟨rfl, hb1⟩
  have H1 := Lib.hid (And.intro (H0.out.1.below hb1) (And.intro (H0.out.2.1.trans (hb1.mono (Nat.le_of_lt H0.out.1.lt))) (And.intro (H0.out.2.2.1.below hb1) (H0.out.2.2.2.below hb1)))); clear H0 hb1 HSV
  have hWB : B < W.heap.size := H1.out.1.lt
  go_wp2_with fail
  refine (HMX.out _).mono ?_; rintro e w1 ⟨rfl, rfl⟩
  have hM0 := MapT.made W
  have hbm : Below W.heap.size W (W.alloc (.map #[] 0)) := (Below.refl _ _).alloc (Nat.le_refl _) _
  have hwf : (Lit.int .i64 a).wf = true := WalkArith.wf_i64 (by omega)
  generalize hC : W.heap.size = C at *
  have HCE := Lib.hid hC; clear hC
  clear hmm
  go_wp2_with (first
    | (refine wp_insert rfl _ _ _ 107 rfl Try.underlying107 C 0 _ rfl hM0 (by omega) fr a rfl rfl hf hwf ?_; intro w2 hM2 hg2)
    | fail)
  rw [initT_put] at hM2
  have hb2 : Below C W w2 := hbm.grown hg2 (by have := hbm.size; have := HCE.out; omega) (fun k h => by cases h; exact Nat.le_refl _)
  have hC2 : C < w2.heap.size := hM2.lt
  have HS0 := Lib.hid (show ArrR (w2.alloc (.cells #[.map (some C)] 107)) C (.slice (some ⟨w2.heap.size, 0, none⟩) 1 1) [C] (arrT l zs x fr a) from
    ⟨⟨rfl, .inr ⟨w2.heap.size, 1, #[.map (some C)], rfl, by omega, heap_alloc_new w2 _, Nat.le_refl _, by unfold maxLen; omega, rfl, rfl⟩⟩, fun i hi => by
      obtain rfl : i = 0 := by simp at hi; omega
      exact ⟨Nat.le_refl _, hM2.alloc _⟩⟩)
  have HB0 := Lib.hid (hb2.alloc (Nat.le_of_lt hC2) (.cells #[.map (some C)] 107))
  clear hb2 hM2 hg2 hbm hM0
  generalize w2.alloc (.cells #[.map (some C)] 107) = w3 at *
  obtain ⟨V3, hV3⟩ : ∃ V3 : Value, V3 = .slice (some ⟨w2.heap.size, 0, none⟩) 1 1 := ⟨_, rfl⟩
  rw [← hV3] at HS0 ⊢
  have HV3 := Lib.hid (show lenV V3 = 1 by rw [hV3]; rfl)
  clear hV3 hC2
  go_loopw [9, 10] (fun m9 v wr => ∃ (bs : List Nat) (k b : Nat), bs.length = k + 1 ∧ m9 = .map (some b) ∧ bs[k]? = some b ∧ lenV v = k + 1 ∧ ArrR wr C v bs (arrT l zs x fr a) ∧ (k : Int) ≤ legs ∧ Hid (∀ i, i < k → arrT l zs x fr a (i + 1) ≠ arrT l zs x fr a i) ∧ Below C W wr) (fun _ v _ => 41 - lenV v)
  case atStart => exact ⟨[C], 0, C, rfl, rfl, rfl, HV3.out, HS0.out, by omega, Lib.hid (fun i h => by omega), HB0.out⟩
  case round =>
    clear HS0 HB0 HV3
    obtain ⟨bs, k, b, hbl, rfl, hbk, hlv, hR, hkl, hne, hb⟩ := hrel
    have hkP : k < (placesB l).length := by
      by_cases h : k < (placesB l).length
      · exact h
      · exfalso
        exact hne.out ((placesB l).length - 1) (by omega) (HFIX.out _ (by omega))
    obtain ⟨gv, cap, rfl, hgv1, hgv2⟩ := hR.form (by omega)
    have hbk' : bs[k]'(by omega) = b := by rw [List.getElem?_eq_getElem (by omega)] at hbk; exact Option.some.inj hbk
    have hMk := (hR.maps k (by omega)).2
    rw [hbk'] at hMk
    have HMK := Lib.hid hMk; clear hMk hbk'
    have HR := Lib.hid hR; clear hR
    obtain ⟨b0, b1, b2⟩ := (H1.out.1.below (by rw [HCE.out]; exact hb)).cells
    have hBr : B < wr.heap.size := by have := hb.size; omega
    have HBW := Lib.hid (show Below B w wr from H1.out.2.1.trans (hb.mono (Nat.le_of_lt hWB)))
    have HA1 := Lib.hid (H1.out.2.2.1.below (by rw [HCE.out]; exact hb))
    have HD1 := Lib.hid (H1.out.2.2.2.below (by rw [HCE.out]; exact hb))
    have hlr : (bs.length : Int) = (k : Int) + 1 := by omega
    by_cases hlt : (k : Int) + 1 ≤ legs
    · go_wp2_with fail
      refine (HON.out b _ _ wr HA1.out HD1.out HMK.out (by omega) (fun q v h => HBD.out k q v h)).mono ?_; rintro e w4 ⟨b', rfl, hbb, hM4, hb4⟩
      have HM4 := Lib.hid (show MapT w4 b' (1 + 20 * bs.length) (arrT l zs x fr a bs.length) by rw [hbl]; exact MapT.mono hM4 (by omega))
      have HM4' := Lib.hid (HMK.out.below hb4)
      have HR4 := Lib.hid (HR.out.below hb4)
      have HB4 := Lib.hid (hb.trans (hb4.mono (by have := hb.size; omega)))
      have hCr : C ≤ wr.heap.size := by have := hb.size; have := HCE.out; omega
      clear HMK HR hM4 HA1 HD1 b0 b1 b2
      go_wp2_with fail
      refine (equal_map HM4.out HM4'.out).mono ?_; rintro e w5 ⟨r, rfl, hr1, hr0, hb5⟩
      have HM5 := Lib.hid (HM4.out.below hb5)
      have HR5 := Lib.hid (HR4.out.below hb5)
      have HB5 := Lib.hid (HB4.out.trans (hb5.mono (by have := HB4.out.size; have := HCE.out; omega)))
      clear HM4' HR4
      cases r with
      | true =>
        have HEQ := Lib.hid (show arrT l zs x fr a (k + 1) = arrT l zs x fr a k from by
          rw [← hbl]
          funext q
          have h1 := hr1 rfl q
          cases hq : arrT l zs x fr a bs.length q with
          | some v => exact (h1 v hq).symm
          | none =>
            cases hk' : arrT l zs x fr a k q with
            | none => rfl
            | some v =>
              obtain ⟨e, he, _⟩ := round_le (zs := zs) (ch := x) (fr := fr) (l := l) hk'
              rw [hbl] at hq
              exact absurd (hq.symm.trans he) (by simp))
        clear hr1 hr0 HM4 HM5 HB4
        go_wp2
        go_ret
        exact ⟨_, bs, rfl, (by rw [HBE.out]; have h := HR5.out.mono (Nat.le_of_lt hWB); rw [hbl] at h; exact h), ⟨by omega, by omega, by omega, fun i hi => hne.out i (by omega), .inr (by rw [hbl]; exact HEQ.out)⟩, by rw [HBE.out]; exact H1.out.2.1.trans (HB5.out.mono (Nat.le_of_lt hWB))⟩
      | false =>
        have HNE := Lib.hid (show arrT l zs x fr a (k + 1) ≠ arrT l zs x fr a k by rw [← hbl]; exact hr0 rfl)
        clear hr1 hr0 HM4 HB4
        have hz5 : C ≤ w5.heap.size := by have := HB5.out.size; have := HCE.out; omega
        have hown5 : w5.ownsRow C 107 1 (.slice (some ⟨gv, 0, none⟩) (k + 1) cap) (k + 1) (mapV bs) := by
          have h := HR5.out.own
          rw [hbl] at h
          exact h
        have hmoff : some b' ≠ (Value.slice (some ⟨gv, 0, none⟩) (k + 1) cap).ownBlock := by
          have h := map_off HR5.out.own HM5.out
          exact h
        have HMO := Lib.hid hmoff; clear hmoff
        go_wp2_with (at_builtin; refine wpList_append_own _ rfl _ _ 102 rfl C 107 i0 _ 1 8 Try.underlying102 hi0 hz0 hz1 hz2 rfl (by omega) _ (k + 1) (mapV bs) rfl (hown5.kept (World.grownBy_alloc _ _ none) (by cases h : (Value.slice (some ⟨gv, 0, none⟩) (k + 1) cap).ownBlock <;> simp)) ⟨w5.heap.size, 0, none⟩ 1 1 (mapV [b']) rfl rfl (map_news _ _) (one_map _) (by unfold maxLen; omega) (by omega) (by simp; omega) ?_; intro v' w6 hown' hgr hnil)
        obtain ⟨g6, cap6, hv6, hg6, _⟩ := World.ownsRow.form hown' (by omega)
        have hlv6 : lenV v' = k + 2 := by rw [hv6]; rfl
        clear hv6
        go_roundw
        case rel =>
          refine ⟨bs ++ [b'], k + 1, b', by simp [hbl], rfl, by rw [← hbl]; simp, hlv6, ?_, by omega, Lib.hid (fun i hi => by
            by_cases e : i = k
            · subst e; exact HNE.out
            · exact hne.out i (by omega)), ?_⟩
          · refine ArrR.push HR5.out (Nat.le_trans hCr hbb) HM5.out (by rw [hbl]; exact hgr) ?_
            rw [hbl]; exact hown'
          · exact (HB5.out.alloc (by omega) _).grown hgr (by have := HB5.out.size; simp; have := HCE.out; omega) (fun j h => by cases h; exact hgv1)
        case measure =>
          rw [hlv6]
          show 41 - (k + 2) < 41 - bs.length
          omega
    · go_wp2
      go_ret
      exact ⟨_, rfl, bs, (by rw [HBE.out]; have h := HR.out.mono (Nat.le_of_lt hWB); first | exact h | (rw [hbl] at h; exact h)), ⟨by omega, by omega, by omega, fun i hi => hne.out i (by omega), .inl (by omega)⟩, by rw [HBE.out]; exact HBW.out⟩
end Go.Proofs.Ytalciiajhlhecaa

/- The contract of spec.PackAll, out of l5Heavy's. -/
import Derived.Test.YtodphbnbljpegabPackI
import Derived.Test.YtodphbnbljpegabPut2
import Derived.Deep.RegionHeld3
namespace Go.Proofs.Ytodphbnbljpegab
open Go.RowKit
theorem th_nil : thsB [] = true := by decide
set_option maxRecDepth 100000 in
set_option maxHeartbeats 4000000 in
theorem put_spec_nil (id box : Int) (g ca : Nat) (w : World) (hA : InK 6 thC w (some ⟨g, 0, none⟩) []) :
    Calls Try.prog 72 #[.slice (some ⟨g, 0, none⟩) 0 ca, .int .i64 id, .int .i64 box] w fun e w' => ∃ G c, e = .returned (.tuple #[.slice (some ⟨G, 0, none⟩) 0 c, .int .i64 (putC [] id box)]) ∧ OwnKth w' w.heap.size (.slice (some ⟨G, 0, none⟩) 0 c) (putL [] id box) ∧ w.heap.size ≤ G ∧ Below w.heap.size w w' := by
  have HA := Lib.hid hA; clear hA
  have hn : ([] : List Th).length ≤ 1048576 := by decide
  have HCP := Lib.hid (fun W h => copy_l5 g ca [] W h hn)
  have HF1 := Lib.hid (fun W h => find_same id (some ⟨g, 0, none⟩) ca [] W h hn)
  have HF2 := Lib.hid (fun W h => find_same box (some ⟨g, 0, none⟩) ca [] W h hn)
  have HTB := Lib.hid (fun W h => are_spec (some ⟨g, 0, none⟩) ca [] W h hn)
  rw [th_nil] at HTB
  have hneg : fnd [] id < 0 := by rw [fnd_miss (by intro t h; cases h)]; decide
  have HPI := Lib.hid (put_1 (l := []) (id := id) (box := box) (.inr (.inl hneg)))
  have HL := Lib.hid HPI.out.1; have HC0 := Lib.hid HPI.out.2
  clear HPI
  obtain ⟨F, hF⟩ : ∃ F, F = fnd [] id := ⟨_, rfl⟩
  rw [← hF] at HF1 hneg
  obtain ⟨F', hF'⟩ : ∃ F, F = fnd [] box := ⟨_, rfl⟩
  rw [← hF'] at HF2
  clear hF hF' hn
  rw [HL.out, HC0.out]
  have h0 : ([] : List Th).length = 0 := rfl
  rw [h0] at HCP HF1 HF2 HTB
  clear h0 HL HC0
  go_enter Try.func72, Try.ntmps72
  go_wp2_with fail
  refine (HCP.out w HA.out).mono ?_; rintro e w1 ⟨G, c, rfl, hr1, hb1⟩
  have HR1 := Lib.hid hr1; have HB1 := Lib.hid hb1; clear hr1 hb1
  go_wp2_with fail
  refine (HF1.out _ (HA.out.below HB1.out)).mono ?_; rintro e w2 ⟨rfl, rfl⟩
  go_wp2_with fail
  refine (HF2.out _ (HA.out.below HB1.out)).mono ?_; rintro e w3 ⟨rfl, rfl⟩
  go_wp2_with fail
  refine (HTB.out _ (HA.out.below HB1.out)).mono ?_; rintro e w4 ⟨rfl, hb4⟩
  have HB4 := Lib.hid (HB1.out.trans (hb4.mono HB1.out.size)); have HR4 := Lib.hid (below_th HR1.out hb4)
  clear hb4 HB1 HR1
  go_wp2
  go_ret2
  exact ⟨G, c, rfl, HR4.out, (World.ownsRow.lt HR4.out G rfl).1, HB4.out⟩
theorem put_spec_f (id box : Int) (g ca : Nat) (l : List Th) (w : World) (hA : InK 6 thC w (some ⟨g, 0, none⟩) l) (hn : l.length ≤ 1048576) :
    Calls Try.prog 72 #[.slice (some ⟨g, 0, none⟩) l.length ca, .int .i64 id, .int .i64 box] w fun e w' => ∃ G c, e = .returned (.tuple #[.slice (some ⟨G, 0, none⟩) l.length c, .int .i64 (putC l id box)]) ∧ OwnKth w' w.heap.size (.slice (some ⟨G, 0, none⟩) l.length c) (putL l id box) ∧ w.heap.size ≤ G ∧ Below w.heap.size w w' := by
  cases hl : l with
  | nil => subst hl; exact put_spec_nil id box g ca w hA
  | cons t r =>
    rw [← hl]
    have hpos : 0 < l.length := by rw [hl]; simp
    clear hl
    refine (put_spec id box g ca l w hA hn).mono ?_
    rintro e w' ⟨v, rfl, ho, hb⟩
    have hlen := put_len l id box
    obtain ⟨A, c, rfl⟩ := ho.opens
    obtain ⟨G, rfl, _⟩ := InK.th (ho.ins thC_len).2 0 (by omega)
    have h1 := (World.ownsRow.lt ho G rfl).1
    rw [hlen] at ho ⊢
    exact ⟨G, c, rfl, ho, h1, hb⟩
theorem put_spec_w (n : Nat) (x bx : Int) (G c B : Nat) (L : List Th) (WW : World) (hL : L.length = n) (hn : n ≤ 1048576) (h : OwnKth WW B (.slice (some ⟨G, 0, none⟩) n c) L) (W : World) (hb : Below WW.heap.size WW W) :
    Calls Try.prog 72 #[.slice (some ⟨G, 0, none⟩) n c, .int .i64 x, .int .i64 bx] W fun e u => ∃ G2 c2, e = .returned (.tuple #[.slice (some ⟨G2, 0, none⟩) n c2, .int .i64 (putC L x bx)]) ∧ OwnKth u WW.heap.size (.slice (some ⟨G2, 0, none⟩) n c2) (putL L x bx) ∧ WW.heap.size ≤ G2 ∧ Below WW.heap.size WW u := by
  subst hL
  refine (put_spec_f x bx G c L W ((below_th h hb).ins thC_len).2 hn).mono ?_
  rintro e u ⟨G2, c2, he, ho, hG, hbu⟩
  exact ⟨G2, c2, he, OwnK.mono ho hb.size, Nat.le_trans hb.size hG, hb.trans (hbu.mono hb.size)⟩
set_option maxRecDepth 100000 in
set_option maxHeartbeats 8000000 in
theorem pack_spec (g ca : Nat) (l : List Th) (D : Option Addr) (cd : Nat) (ids : List Int) (E : Option Addr) (ce : Nat) (bs : List Int) (HH : thsB l = true → HeavC l ids g ca D cd 71) (w : World) (hA : InK 6 thC w (some ⟨g, 0, none⟩) l) (hn : l.length ≤ 1048576) (hD : IntsIn w D ids) (hE : IntsIn w E bs) (hd : ids.length ≤ 1048576) (hm : bs.length ≤ 1048576) :
    Calls Try.prog 23 #[.slice (some ⟨g, 0, none⟩) l.length ca, .slice D ids.length cd, .slice E bs.length ce] w fun e w' => ∃ v u, e = .returned (.tuple #[v, u]) ∧ OwnKth w' w.heap.size v (packB l ids bs).1 ∧ OwnI w' w.heap.size u (packB l ids bs).2 ∧ Below w.heap.size w w' := by
  obtain ⟨i0, hi0, hz0, hz1, hz2⟩ := info_parts int_info
  have HA := Lib.hid hA; have HD := Lib.hid hD; have HE := Lib.hid hE; clear hA hD hE
  have HCL := Lib.hid (fun W h => copy_l5 g ca l W h hn)
  have HT := Lib.hid (fun W h => are_spec (some ⟨g, 0, none⟩) ca l W h hn)
  have HHH := Lib.hid HH; clear HH
  have HPF := Lib.hid (fun x bx G c B L WW (hL : L.length = l.length) (h : OwnKth WW B (.slice (some ⟨G, 0, none⟩) l.length c) L) W (hb : Below WW.heap.size WW W) => put_spec_w l.length x bx G c B L WW hL hn h W hb)
  have hcase : thsB l = false ∨ (thsB l = true ∧ 40 < ids.length) ∨ (thsB l = true ∧ ids.length ≤ 40 ∧ 40 < bs.length) ∨ (thsB l = true ∧ ids.length ≤ 40 ∧ bs.length ≤ 40) := by
    cases thsB l with
    | false => exact .inl rfl
    | true => right; simp only [true_and]; omega
  go_enter Try.func23, Try.ntmps23
  go_wp2_with fail
  refine (HCL.out w HA.out).mono ?_; rintro e w1 ⟨G, c, rfl, hr1, hb1⟩
  have HR1 := Lib.hid hr1; have HB1 := Lib.hid hb1; clear hr1 hb1
  go_wp2_with fail
  have HI := Lib.hid (ownI_new w1)
  have HB2 := Lib.hid (HB1.out.alloc HB1.out.size (.cells #[] 3))
  have HR2 := Lib.hid (below_th HR1.out ((Below.refl _ _).alloc (Nat.le_refl _) (.cells #[] 3)))
  have hG : G < w1.heap.size := (World.ownsRow.lt HR1.out G rfl).2
  have hBs := HB1.out.size
  clear HB1 HR1
  generalize w1.alloc (.cells #[] 3) = w2 at *
  generalize w1.heap.size = C at *
  refine (HT.out w2 (HA.out.below HB2.out)).mono ?_; rintro e w3 ⟨rfl, hb3⟩
  have HR3 := Lib.hid (below_th HR2.out hb3); have HI3 := Lib.hid (HI.out.below hb3); have HB3 := Lib.hid (HB2.out.trans (hb3.mono HB2.out.size))
  clear hb3 HI HB2 HR2
  rcases hcase with ht | ⟨ht, h1⟩ | ⟨ht, h1, h2⟩ | ⟨ht, h1, h2⟩
  · have HP := Lib.hid (pack_no (l := l) (ids := ids) (bs := bs) (by rw [ht]; simp))
    rw [ht]
    clear ht HHH HPF
    go_wp2
    go_ret2
    exact ⟨_, _, rfl, by rw [HP.out]; exact HR3.out, by rw [HP.out]; exact OwnI.mono HI3.out hBs, HB3.out⟩
  · have HP := Lib.hid (pack_no (l := l) (ids := ids) (bs := bs) (by omega))
    rw [ht]
    clear ht HHH HPF
    have hd1 : decide ((40 : Int) < (ids.length : Int)) = true := decide_eq_true (by omega)
    have hd2 : decide (40 < ids.length) = true := decide_eq_true (by omega)
    go_wp2
    go_ret2
    exact ⟨_, _, rfl, by rw [HP.out]; exact HR3.out, by rw [HP.out]; exact OwnI.mono HI3.out hBs, HB3.out⟩
  · have HP := Lib.hid (pack_no (l := l) (ids := ids) (bs := bs) (by omega))
    rw [ht]
    clear ht HHH HPF
    have hd1 : decide ((40 : Int) < (ids.length : Int)) = false := decide_eq_false (by omega)
    have hd2 : decide (40 < ids.length) = false := decide_eq_false (by omega)
    have hd3 : decide ((40 : Int) < (bs.length : Int)) = true := decide_eq_true (by omega)
    have hd4 : decide (40 < bs.length) = true := decide_eq_true (by omega)
    go_wp2
    go_ret2
    exact ⟨_, _, rfl, by rw [HP.out]; exact HR3.out, by rw [HP.out]; exact OwnI.mono HI3.out hBs, HB3.out⟩
  · have HP := Lib.hid (pack_yes (l := l) (ids := ids) (bs := bs) ⟨ht, h1, h2⟩)
    have HHV := Lib.hid (fun W h h' => HHH.out ht W h h')
    have hol : (heav l ids).length ≤ 40 := by rw [heav_len]; exact h1
    rw [ht]
    clear ht HHH
    have hd1 : decide ((40 : Int) < (ids.length : Int)) = false := decide_eq_false (by omega)
    have hd2 : decide (40 < ids.length) = false := decide_eq_false (by omega)
    have hd3 : decide ((40 : Int) < (bs.length : Int)) = false := decide_eq_false (by omega)
    have hd4 : decide (40 < bs.length) = false := decide_eq_false (by omega)
    go_wp2_with fail
    refine (HHV.out w3 (HA.out.below HB3.out) (HD.out.below HB3.out)).mono ?_; rintro e w4 ⟨v, rfl, ho, hb4⟩
    obtain ⟨O, co, rfl⟩ := ho.opens
    have hC3 : C < w3.heap.size := (World.ownsRow.lt HI3.out C rfl).2
    have HW := Lib.hid (show PackW w w4 w.heap.size l.length l [] (heav l ids) O co G c C 0 from
      ⟨below_th HR3.out hb4, OwnI.mono (HI3.out.below hb4) hBs, by omega, OwnI.mono ho HB3.out.size, fun a ha => by have := (World.ownsRow.lt ho a.block (by subst ha; rfl)).1; omega, HB3.out.trans (hb4.mono HB3.out.size)⟩)
    clear ho hb4 HHV hd1 hd2 hd3 hd4 HR3 HI3 HB3 hC3 HD HA HCL HT
    generalize heav l ids = os at *
    generalize hB : w.heap.size = B at *
    have HBE := Lib.hid hB; clear hB
    go_wp2
    go_loopw [8, 9, 11] (fun v8 v9 i wr => ∃ (k G c p cp : Nat) (L : List Th) (M : List Int), k ≤ os.length ∧ i = .int .i64 k ∧ v8 = .slice (some ⟨G, 0, none⟩) l.length c ∧ v9 = .slice (some ⟨p, 0, none⟩) M.length cp ∧ pckK l bs os k = (L, M) ∧ PackW w wr B l.length L M os O co G c p cp) (fun _ _ i _ => os.length - (intOf i).toNat)
    case atStart => exact ⟨0, G, c, C, 0, l, [], Nat.zero_le _, rfl, rfl, rfl, rfl, HW.out⟩
    case round =>
      clear HW
      obtain ⟨k, G, c, p, cp, L, M, hk, rfl, rfl, rfl, hS, hW⟩ := hrel
      have HW := Lib.hid hW; have HS := Lib.hid hS; clear hW hS
      by_cases hlt : k < os.length
      · have hki : (k : Int) < (os.length : Int) := by omega
        have hLl : L.length = l.length := by have := (pck_len l bs os k).1; rw [HS.out] at this; exact this
        have hMl : M.length ≤ k := by have := (pck_len l bs os k).2; rw [HS.out] at this; exact this
        obtain ⟨go, rfl, hgo, _⟩ := HW.out.os.ins.2 k hlt
        obtain ⟨x, hx⟩ : ∃ x, x = os[k] := ⟨_, rfl⟩
        have HN := Lib.hid (show pckK l bs os (k + 1) = ((firB L x bs).1, if (firB L x bs).2 then M else M ++ [x]) by rw [pckK_next l bs hlt, HS.out, hx]; rfl)
        have HXO := Lib.hid (fun (W : World) (h : IntsIn W (some ⟨go, 0, none⟩) os) => show W.cell? ⟨go, k, none⟩ = some (.int .i64 x) ∧ go < W.heap.size by
          obtain ⟨g', e, hg', hc⟩ := h k hlt; cases e; rw [hx]; exact ⟨hc, hg'⟩)
        clear hx
        go_wp2
        go_loopw [8, 12, 13] (fun v8 d i wr => ∃ (j G c : Nat) (L' : List Th) (q : Bool), j ≤ bs.length ∧ i = .int .i64 j ∧ d = .bool q ∧ v8 = .slice (some ⟨G, 0, none⟩) l.length c ∧ L'.length = l.length ∧ ((q = false ∧ L' = L ∧ NoFir L x bs j) ∨ (q = true ∧ firB L x bs = (L', true))) ∧ PackW w wr B l.length L' M os (some ⟨go, 0, none⟩) co G c p cp) (fun _ _ i _ => bs.length - (intOf i).toNat)
        case atStart => exact ⟨0, G, c, L, false, Nat.zero_le _, rfl, rfl, rfl, hLl, .inl ⟨rfl, rfl, rfl⟩, HW.out⟩
        case round =>
          clear HW
          obtain ⟨j, G, c, L', q, hj, rfl, rfl, rfl, hL', hcs, hW⟩ := hrel
          have HW := Lib.hid hW; clear hW
          obtain ⟨ex, hgw⟩ := HXO.out wr HW.out.os.ins.2
          rcases hcs with ⟨rfl, rfl, hnf⟩ | ⟨rfl, hfir⟩
          · have HNF := Lib.hid hnf; clear hnf
            by_cases hjl : j < bs.length
            · have hji : (j : Int) < (bs.length : Int) := by omega
              obtain ⟨ge, rfl, hge, eb⟩ := (HE.out.below (by rw [HBE.out]; exact HW.out.be)) j hjl
              obtain ⟨bx, hbx⟩ : ∃ bx, bx = bs[j] := ⟨_, rfl⟩
              rw [← hbx] at eb
              have HBX := Lib.hid hbx; clear hbx
              obtain ⟨WW, hWW⟩ : ∃ WW : World, WW = wr := ⟨_, rfl⟩
              subst hWW
              have HPW := Lib.hid (HPF.out x bx G c B L' WW hL' HW.out.th)
              go_wp2
              go_region_held3 (fun w' => w'.cell? ⟨go, k, none⟩ = some (.int .i64 x) ∧ w'.cell? ⟨ge, j, none⟩ = some (.int .i64 bx))
                (go_keep)
                (first | (go_at_call 72; refine (HPW.out _ ?_).mono ?_; (focus (first | exact Below.refl _ _ | exact (Below.refl _ _).drew)); (rintro e u ⟨G2, c2, rfl, ho2, hG2, hu⟩; have HO2 := Lib.hid ho2; have HU := Lib.hid hu; have eb2 := (hu.cell (p := ⟨ge, j, none⟩) hge).trans eb; have ex2 := (hu.cell (p := ⟨go, k, none⟩) hgw).trans ex; clear ho2 hu)))
              all_goals
                clear HPW
                have HW2 := Lib.hid (HW.out.step HU.out (OwnK.mono HO2.out HW.out.bs) (.inr hG2))
                clear HU HO2 eb2 ex2 eb ex hG2
                by_cases hc : putC L' x bx = 0
                · have HF := Lib.hid (noFir_hit HNF.out hjl (by rw [← HBX.out]; exact hc))
                  rw [hc]
                  go_wp2
                  go_roundw
                  case rel => exact ⟨j + 1, G2, c2, putL L' x bx, true, by omega, by go_num, rfl, rfl, by rw [put_len]; exact hL', .inr ⟨rfl, by rw [HF.out, ← HBX.out]⟩, HW2.out⟩
                  case measure => simp [intOf]; omega
                · have HF := Lib.hid (noFir_next HNF.out hjl (by rw [← HBX.out]; exact hc))
                  have HSM := Lib.hid (put_same hc)
                  have hcd : (putC L' x bx == 0) = false := beq_eq_false_iff_ne.2 hc
                  go_wp2
                  go_roundw
                  case rel => exact ⟨j + 1, G2, c2, L', false, by omega, by go_num, by simp, rfl, hL', .inl ⟨rfl, rfl, HF.out⟩, by rw [HSM.out] at HW2; exact HW2.out⟩
                  case measure => simp [intOf]; omega
            · obtain rfl : j = bs.length := by omega
              have HF := Lib.hid (noFir_end HNF.out)
              have HN2 := Lib.hid (show pckK l bs os (k + 1) = (L', M ++ [x]) by rw [HN.out, HF.out]; rfl)
              have hp5 := HW.out.pl
              go_wp2_with (at_builtin; refine wpList_append_lies _ rfl _ _ 27 rfl B 3 i0 _ 1 8 Try.underlying27 hi0 hz0 hz1 hz2 rfl (by decide) _ M.length (intV M) rfl (HW.out.le.alloc _) ⟨wr.heap.size, 0, none⟩ 1 1 (intV [x]) rfl rfl (int_news _ _) (one_int _) (by decide) (by unfold maxLen; omega) (by omega) (by have := HW.out.bs; simp; omega) _ rfl ?_; intro g' cap' w7 hown' hgr hat hlt7)
              have HW7 := Lib.hid (((HW.out.step ((Below.refl _ _).alloc (Nat.le_refl _) (.cells #[.int .i64 x] 3)) (below_th HW.out.th ((Below.refl _ _).alloc (Nat.le_refl _) _)) (.inl rfl))).grow hgr (by rw [List.length_append]; exact ownI_push hown' rfl) (hat.elim (fun h => .inl (by injection h with h; exact h.symm)) (fun h => .inr (by omega))))
              clear hown' hgr hat
              go_wp2
              go_roundw
              case rel => exact ⟨k + 1, G, c, g', cap', L', M ++ [x], by omega, by go_num, rfl, by simp, HN2.out, HW7.out⟩
              case measure => simp [intOf]; omega
          · have HN2 := Lib.hid (show pckK l bs os (k + 1) = (L', M) by rw [HN.out, hfir]; rfl)
            clear hfir
            by_cases hjl : j < bs.length
            · have hji : (j : Int) < (bs.length : Int) := by omega
              go_wp2
              go_roundw
              case rel => exact ⟨k + 1, G, c, p, cp, L', M, by omega, by go_num, rfl, rfl, HN2.out, HW.out⟩
              case measure => simp [intOf]; omega
            · have hji : decide ((j : Int) < (bs.length : Int)) = false := decide_eq_false (by omega)
              go_wp2
              go_roundw
              case rel => exact ⟨k + 1, G, c, p, cp, L', M, by omega, by go_num, rfl, rfl, HN2.out, HW.out⟩
              case measure => simp [intOf]; omega
      · obtain rfl : k = os.length := by omega
        have HS2 := Lib.hid (HP.out.trans HS.out)
        go_wp2
        go_ret2
        exact ⟨_, _, rfl, by rw [HS2.out, HBE.out]; exact HW.out.th, by rw [HS2.out, HBE.out]; exact HW.out.le, by rw [HBE.out]; exact HW.out.be⟩
end Go.Proofs.Ytodphbnbljpegab

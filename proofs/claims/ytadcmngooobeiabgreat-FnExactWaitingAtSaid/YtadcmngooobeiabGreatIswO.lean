/- The orders of a world: hasOrders. Written by mk/isw7.py. -/
import Derived.Test.YtadcmngooobeiabGreatOrd2
import Derived.Test.YtadcmngooobeiabGreatIswT
namespace Go.Proofs.YtadcmngooobeiabGreat
open Go.RowKit
def ordB (l : List Lg) (zs : List Int) (c now : Int) (bs : List Bk) (cs : List Tp) (i : Int) (z : OrRD) : Bool := termsB l now z && (wayB l zs c now z && (roomB bs cs i z && stateB l now z))
def ordAt (d : Wd) (k : Nat) : Bool := match d.os[k]? with
  | some z => ordB d.l d.zs d.c d.n d.bs d.cs ((k : Int) + 1) z
  | none => true
def totH (os : List OrRD) (k : Nat) : Nat := ((os.take k).map fun z => z.h.length).sum
def ordersW (d : Wd) : Bool := decide (d.os.length ≤ 30) && ((List.range d.os.length).all (ordAt d) && ((d.bs.length : Int) == ((totH d.os d.os.length : Nat) : Int)))
theorem totH_succ (os : List OrRD) (k : Nat) (hk : k < os.length) : totH os (k + 1) = totH os k + os[k].h.length := by
  unfold totH
  rw [List.take_succ_eq_append_getElem hk, List.map_append, List.sum_append]
  simp
theorem totH_le (os : List OrRD) (h : ∀ z ∈ os, z.h.length ≤ 1048576) : ∀ k, k ≤ os.length → totH os k ≤ k * 1048576
  | 0, _ => by simp [totH]
  | k + 1, hk => by
    have h1 := totH_le os h k (by omega)
    have h2 := h os[k] (List.getElem_mem (by omega))
    rw [totH_succ os k (by omega)]
    omega
theorem ordAt_get (x : Wp) (k : Nat) (hk : k < x.os.length) : ordAt x.dat k = ordB x.l x.zs x.c x.n x.bs x.cs ((k : Int) + 1) (x.os[k]).d := by
  unfold ordAt
  have e : x.dat.os[k]? = some (x.os[k]).d := by
    show (x.os.map OrR.d)[k]? = _
    rw [List.getElem?_map, List.getElem?_eq_getElem hk]; rfl
  rw [e]; rfl
theorem terms_of {l : List Lg} {now : Int} {z : OrRD} (h : termsB l now z = true) : 0 ≤ z.a ∧ z.a ≤ now := by
  unfold termsB at h
  simp only [Bool.and_eq_true, decide_eq_true_eq] at h
  exact ⟨h.2.2.2.2.2.1, h.2.2.2.2.2.2.1⟩
theorem way_of {l : List Lg} {zs : List Int} {c now : Int} {z : OrRD} (h : wayB l zs c now z = true) : tripsB l zs c z.h = true ∧ 0 ≤ z.g ∧ z.g ≤ z.h.length := by
  unfold wayB at h
  simp only [Bool.and_eq_true, decide_eq_true_eq] at h
  exact ⟨h.1, h.2.1, h.2.2.1⟩
set_option maxRecDepth 100000 in
set_option maxHeartbeats 8000000 in
theorem has_orders (x : Wp) (B : Nat) (w : World) (hx : WoAt w B x) (hz : WorSz x) (hnow : 0 ≤ x.n ∧ x.n ≤ 100000) :
    Calls Tryz.prog 81 #[.pointer (some ⟨B, 0, none⟩)] w fun e w' => e = .returned (.bool (ordersW x.dat)) ∧ Below w.heap.size w w' := by
  have HV := Lib.hid (show ordersW x.dat = (decide (x.os.length ≤ 30) && ((List.range x.os.length).all (ordAt x.dat) && ((x.bs.length : Int) == ((totH x.dat.os x.os.length : Nat) : Int)))) by
    unfold ordersW
    have e : x.dat.os.length = x.os.length := by show (x.os.map OrR.d).length = _; simp
    rw [e]; rfl)
  have HG := Lib.hid (ordAt_get x)
  have HTS := Lib.hid (fun k (hk : k < x.os.length) => show totH x.dat.os (k + 1) = totH x.dat.os k + (x.os[k]).h.length by
    rw [totH_succ x.dat.os k (by show k < (x.os.map OrR.d).length; simpa using hk)]
    congr 1
    show ((x.os.map OrR.d)[k]'_).h.length = _
    simp [OrR.d])
  have HTL := Lib.hid (totH_le x.dat.os (fun z hz' => by
    obtain ⟨y, hy, rfl⟩ := List.mem_map.1 (show z ∈ x.os.map OrR.d from hz')
    exact hz.way y hy))
  have HTL2 := Lib.hid (fun k (hk : k ≤ x.os.length) => HTL.out k (by show k ≤ (x.os.map OrR.d).length; simpa using hk)); clear HTL
  have HOR := Lib.hid (fun k (hk : k < x.os.length) => hz.way _ (List.getElem_mem hk))
  generalize ordersW x.dat = V at *
  generalize totH x.dat.os = TT at *
  generalize ordAt x.dat = OA at *
  have HX := Lib.hid hx; clear hx
  have HZ := Lib.hid hz; clear hz
  have HNW := Lib.hid hnow; clear hnow
  obtain ⟨L, hL⟩ : ∃ L, L = x.os.length := ⟨_, rfl⟩
  have HLE := Lib.hid hL
  rw [← hL] at HV
  have b3_ := HX.out.bx.cell 3 _ rfl
  rw [← hL] at b3_
  clear hL
  by_cases h30 : L ≤ 30
  rotate_left
  · have HVF := Lib.hid (HV.out.trans (show _ = false by rw [decide_eq_false h30]; rfl))
    go_enter Tryz.func81, Tryz.ntmps81
    go_wp2
    go_ret
    exact ⟨ret_bool HVF.out.symm, Below.refl _ _⟩
  replace HV := Lib.hid (HV.out.trans (show _ = ((List.range L).all OA && ((x.bs.length : Int) == ((TT L : Nat) : Int))) by rw [decide_eq_true h30]; rfl))
  have ht0 : TT 0 = 0 := by have := HTL2.out 0 (Nat.zero_le _); omega
  go_enter Tryz.func81, Tryz.ntmps81
  go_wp2
  clear b3_
  go_loopw [3, 17] (fun t i wr => ∃ k : Nat, i = .int .i64 k ∧ k ≤ L ∧ t = .int .i64 ((TT k : Nat) : Int) ∧ Hid (∀ j, j < k → OA j = true) ∧ Hid (Below w.heap.size w wr)) (fun _ i _ => L - (intOf i).toNat)
  case atStart => exact ⟨0, rfl, Nat.zero_le _, by rw [ht0]; rfl, Lib.hid (fun j h => absurd h (by omega)), Lib.hid (Below.refl _ _)⟩
  case round =>
    obtain ⟨k, rfl, hk, rfl, hall, hbw⟩ := hrel
    have HXw := Lib.hid (HX.out.below hbw.out)
    have b3_ := HXw.out.bx.cell 3 _ rfl
    rw [← HLE.out] at b3_
    by_cases hlt : (k : Int) < (L : Int)
    · have hkl : k < x.os.length := by rw [← HLE.out]; omega
      obtain ⟨g, hAe, hoa⟩ := orAt_of HXw.out.i.os HXw.out.i.way k hkl
      rw [hAe] at b3_
      have HQ := Lib.hid (HG.out k hkl)
      have HST := Lib.hid (HTS.out k hkl)
      have hob := HOR.out k hkl
      have htk := HTL2.out k (by omega)
      have HH := Lib.hid (fun h => rngL_no (p := OA) (show k < L by omega) h)
      have HN := Lib.hid (fun (h : OA k = true) j (hjk : j < k + 1) => show OA j = true by
        by_cases e : j = k
        · subst e; exact h
        · exact hall.out j (by omega))
      clear hall
      generalize x.os[k] = z at *
      clear hAe hkl
      have HO := Lib.hid hoa; clear hoa
      have HM := Lib.hid hob
      have htk2 : TT k ≤ 31457280 := by omega
      clear htk
      go_wp2_with fail
      refine (has_terms z g (k * 11) x B wr HO.out HXw.out HZ.out).mono ?_; rintro e u0 ⟨rfl, hb⟩
      replace HXw := Lib.hid (HXw.out.below hb); replace HO := Lib.hid (HO.out.below hb); replace hbw := Lib.hid (hbw.out.trans (hb.mono hbw.out.size)); clear hb
      cases q0 : termsB x.l x.n z.d with
      | false =>
        have HVF := Lib.hid (HV.out.trans (show _ = false by rw [HH.out (HQ.out.trans (show _ = false by unfold ordB; rw [q0]; rfl))]; rfl))
        go_wp2
        go_ret
        exact ⟨ret_bool HVF.out.symm, hbw.out⟩
      | true =>
        go_wp2_with fail
        refine (has_way z g (k * 11) x B u0 HO.out HXw.out HZ.out HM.out (by have h1 := terms_of q0; have h2 := HNW.out; exact ⟨h1.1, by show z.a ≤ 100000; have : z.a ≤ x.n := h1.2; omega⟩)).mono ?_; rintro e u1 ⟨rfl, hb⟩
        replace HXw := Lib.hid (HXw.out.below hb); replace HO := Lib.hid (HO.out.below hb); replace hbw := Lib.hid (hbw.out.trans (hb.mono hbw.out.size)); clear hb
        cases q1 : wayB x.l x.zs x.c x.n z.d with
        | false =>
          have HVF := Lib.hid (HV.out.trans (show _ = false by rw [HH.out (HQ.out.trans (show _ = false by unfold ordB; rw [q0, q1]; rfl))]; rfl))
          go_wp2
          go_ret
          exact ⟨ret_bool HVF.out.symm, hbw.out⟩
        | true =>
          go_wp2_with fail
          refine (has_room z g (k * 11) x B ((k : Int) + 1) u1 HO.out HXw.out HZ.out HM.out (way_of q1).2).mono ?_; rintro e u2 ⟨rfl, hb⟩
          replace HXw := Lib.hid (HXw.out.below hb); replace HO := Lib.hid (HO.out.below hb); replace hbw := Lib.hid (hbw.out.trans (hb.mono hbw.out.size)); clear hb
          cases q2 : roomB x.bs x.cs ((k : Int) + 1) z.d with
          | false =>
            have HVF := Lib.hid (HV.out.trans (show _ = false by rw [HH.out (HQ.out.trans (show _ = false by unfold ordB; rw [q0, q1, q2]; rfl))]; rfl))
            go_wp2
            go_ret
            exact ⟨ret_bool HVF.out.symm, hbw.out⟩
          | true =>
            go_wp2_with fail
            refine (is_some z g (k * 11) x B u2 HO.out HXw.out HZ.out HM.out (way_of q1).2 (way_of q1).1).mono ?_; rintro e u3 ⟨rfl, hb⟩
            replace HXw := Lib.hid (HXw.out.below hb); replace HO := Lib.hid (HO.out.below hb); replace hbw := Lib.hid (hbw.out.trans (hb.mono hbw.out.size)); clear hb
            cases q3 : stateB x.l x.n z.d with
            | false =>
              have HVF := Lib.hid (HV.out.trans (show _ = false by rw [HH.out (HQ.out.trans (show _ = false by unfold ordB; rw [q0, q1, q2, q3]; rfl))]; rfl))
              go_wp2
              go_ret
              exact ⟨ret_bool HVF.out.symm, hbw.out⟩
            | true =>
              have HVN := Lib.hid (HN.out (HQ.out.trans (show _ = true by unfold ordB; rw [q0, q1, q2, q3]; rfl)))
              have c6_ := HO.out.c6
              clear b3_
              have b3_ := HXw.out.bx.cell 3 _ rfl
              go_wp2
              go_roundw
              case rel => exact ⟨k + 1, by go_num, by omega, by rw [HST.out]; go_num, HVN, hbw⟩
              case measure => simp [intOf]; omega
    · obtain rfl : k = L := by omega
      replace HV := Lib.hid (HV.out.trans (show _ = ((x.bs.length : Int) == ((TT k : Nat) : Int)) by rw [rngL_yes (fun j hj => hall.out j hj)]; rfl))
      have b4_ := HXw.out.bx.cell 4 _ rfl
      cases hq : ((x.bs.length : Int) == ((TT k : Nat) : Int)) with
      | true =>
        have HVF := Lib.hid (HV.out.trans hq)
        go_wp2
        go_ret
        exact ⟨ret_bool HVF.out.symm, hbw.out⟩
      | false =>
        have HVF := Lib.hid (HV.out.trans hq)
        go_wp2
        go_ret
        exact ⟨ret_bool HVF.out.symm, hbw.out⟩
end Go.Proofs.YtadcmngooobeiabGreat

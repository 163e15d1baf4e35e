/- The contract of spec.BestArrivals. -/
import Derived.Test.YtinijleelhbpoaaGreatRoundS
import Derived.Test.YtinijleelhbpoaaGreatPlS
namespace Go.Proofs.YtinijleelhbpoaaGreat
open Go.RowKit
def bestOk (l : List Lg) (zs : List Int) (x : Int) (fr : ByteArray) (at_ legs : Int) : Prop := servB l zs x fr = true ∧ at_ ≤ 100000 ∧ 0 ≤ legs
instance (l : List Lg) (zs : List Int) (x : Int) (fr : ByteArray) (at_ legs : Int) : Decidable (bestOk l zs x fr at_ legs) := by unfold bestOk; infer_instance
/-- what BestArrivals answers -/
def bestB (l : List Lg) (zs : List Int) (x : Int) (fr : ByteArray) (at_ legs : Int) : List Int :=
 if bestOk l zs x fr at_ legs then listT (placesB l) (arrT l zs x fr (max at_ 0) (min legs.toNat (placesB l).length)) else []
theorem best_no {l : List Lg} {zs : List Int} {x : Int} {fr : ByteArray} {at_ legs : Int} (h : ¬ bestOk l zs x fr at_ legs) : bestB l zs x fr at_ legs = [] := if_neg h
theorem best_yes {l : List Lg} {zs : List Int} {x : Int} {fr : ByteArray} {at_ legs : Int} (h : bestOk l zs x fr at_ legs) : bestB l zs x fr at_ legs = listT (placesB l) (arrT l zs x fr (max at_ 0) (min legs.toNat (placesB l).length)) := if_pos h
set_option maxRecDepth 100000 in
set_option maxHeartbeats 4000000 in
theorem best_spec (fr : ByteArray) (at_ legs : Int) (A : Option Addr) (ca : Nat) (l : List Lg) (D : Option Addr) (cd : Nat) (zs : List Int) (x : Int) (w : World) (hA : InK 6 lgC w A l) (hD : IntsIn w D zs) (hs : ∀ z ∈ l, z.f.size ≤ maxLen ∧ z.t.size ≤ maxLen) (hn : l.length ≤ 1048576) (hm : zs.length ≤ 1048576) :
  Calls Tryz.prog 97 #[.agg #[.slice A l.length ca, .slice D zs.length cd, .int .i64 x], .string fr, .int .i64 at_, .int .i64 legs] w fun e w' => ∃ v, e = .returned v ∧ OwnI w' w.heap.size v (bestB l zs x fr at_ legs) ∧ Below w.heap.size w w' := by
 have hB := Box3.new (T := 27) (v0 := .slice A l.length ca) (v1 := .slice D zs.length cd) (v2 := .int .i64 x) w
 have hb0 := (Below.refl w.heap.size w).alloc (Nat.le_refl _) (.cells #[.slice A l.length ca, .slice D zs.length cd, .int .i64 x] 27)
 have H0 := Lib.hid (And.intro hB (And.intro hb0 (And.intro (hA.below hb0) (hD.below hb0)))); clear hB hb0 hA hD
 have HPL := Lib.hid (fun W (h1 : InK 6 lgC W A l) => places_spec A ca l D cd zs.length x W h1 hn)
 have HI := Lib.hid (fun W (h1 : InK 6 lgC W A l) (h2 : IntsIn W D zs) => is_net_spec A ca l D cd zs x W h1 h2 hs hn hm)
 have hpl4 : (placesB l).length ≤ 4000000 := by have := placesB_len l; omega
 have hgi := idxI_ge (placesB l) fr
 go_enter Tryz.func97, Tryz.ntmps97
 go_wp2_with fail
 generalize hB : w.heap.size = B at *
 have HBE := Lib.hid hB; clear hB
 generalize w.alloc (.cells #[.slice A l.length ca, .slice D zs.length cd, .int .i64 x] 27) = W0 at *
 refine (HPL.out _ H0.out.2.2.1).mono ?_; rintro e W ⟨⟨vp, rfl, hvp⟩, hb1⟩
 obtain ⟨PA, cp, rfl, hP⟩ := own_strs hvp
 have H1 := Lib.hid (And.intro (H0.out.1.below hb1) (And.intro (H0.out.2.1.trans (hb1.mono (Nat.le_of_lt H0.out.1.lt))) (And.intro (H0.out.2.2.1.below hb1) (And.intro (H0.out.2.2.2.below hb1) hP)))); clear H0 hb1 hvp hP HPL
 have hIX := index_spec PA cp (placesB l) fr W H1.out.2.2.2.2 hpl4
 have HJ := Lib.hid (show ∀ J, J = idxI (placesB l) fr → (0 ≤ J ↔ fr ∈ placesB l) from fun J h => by rw [h]; exact Lib.idxOfS_nonneg_iff _ _)
 obtain ⟨J, hJ⟩ : ∃ J, J = idxI (placesB l) fr := ⟨_, rfl⟩
 rw [← hJ] at hIX hgi
 have hJm := HJ.out J hJ
 have HJE := Lib.hid hJ
 clear HJ hJ
 have HIX := Lib.hid hIX; clear hIX
 obtain ⟨b0, b1, b2⟩ := H1.out.1.cells
 have hWB : B < W.heap.size := H1.out.1.lt
 go_wp2_with fail
 refine HIX.out.mono ?_; rintro e W2 ⟨rfl, rfl⟩
 have HNO := Lib.hid (fun (h : ¬ bestOk l zs x fr at_ legs) => best_no h)
 have hEN : ∀ w3, Below W2.heap.size W2 w3 → OwnI (w3.alloc (.cells #[] 3)) B (.slice (some ⟨w3.heap.size, 0, none⟩) 0 0) [] ∧ Below B w (w3.alloc (.cells #[] 3)) := fun w3 h => by
  have h2 := h.size
  exact ⟨OwnI.mono (ownI_new w3) (by omega), (H1.out.2.1.trans (h.mono (by omega))).alloc (by omega) _⟩
 have HEN := Lib.hid hEN; clear hEN
 by_cases hok : bestOk l zs x fr at_ legs
 rotate_left
 ·have HE := Lib.hid (best_no hok)
  cases hnet : netB l zs x with
  | false =>
   rw [hnet] at HI; clear hnet hok hJm
   go_wp2_with fail
   refine (HI.out _ H1.out.2.2.1 H1.out.2.2.2.1).mono ?_; rintro e w3 ⟨rfl, hb3⟩
   go_wp2
   go_ret
   exact ⟨_, rfl, by rw [HE.out, HBE.out]; exact (HEN.out _ hb3).1, by rw [HBE.out]; exact (HEN.out _ hb3).2⟩
  | true =>
   have hbad : J < 0 ∨ 100000 < at_ ∨ legs < 0 := by
    by_cases h1 : J < 0
    ·exact .inl h1
    ·by_cases h2 : 100000 < at_
     ·exact .inr (.inl h2)
     ·by_cases h3 : legs < 0
      ·exact .inr (.inr h3)
      ·exact absurd ⟨serv_iff.2 ⟨hnet, hJm.1 (by omega)⟩, by omega, by omega⟩ hok
   rw [hnet] at HI; clear hnet hok hJm
   rcases hbad with h | h | h
   ·go_wp2_with fail
    refine (HI.out _ H1.out.2.2.1 H1.out.2.2.2.1).mono ?_; rintro e w3 ⟨rfl, hb3⟩
    go_wp2
    all_goals
     go_ret
     exact ⟨_, rfl, by rw [HE.out, HBE.out]; exact (HEN.out _ hb3).1, by rw [HBE.out]; exact (HEN.out _ hb3).2⟩
   ·go_wp2_with fail
    refine (HI.out _ H1.out.2.2.1 H1.out.2.2.2.1).mono ?_; rintro e w3 ⟨rfl, hb3⟩
    go_wp2
    all_goals
     go_ret
     exact ⟨_, rfl, by rw [HE.out, HBE.out]; exact (HEN.out _ hb3).1, by rw [HBE.out]; exact (HEN.out _ hb3).2⟩
   ·go_wp2_with fail
    refine (HI.out _ H1.out.2.2.1 H1.out.2.2.2.1).mono ?_; rintro e w3 ⟨rfl, hb3⟩
    go_wp2
    all_goals
     go_ret
     exact ⟨_, rfl, by rw [HE.out, HBE.out]; exact (HEN.out _ hb3).1, by rw [HBE.out]; exact (HEN.out _ hb3).2⟩
 ·have HE := Lib.hid (best_yes hok)
  obtain ⟨hsv, hat, hlg⟩ := hok
  obtain ⟨hnet, hfr⟩ := serv_iff.1 hsv
  obtain ⟨f, hf, hfl, hfe⟩ := idx_mem (pl_nodup l) hfr
  have hJf : J = (f : Int) := HJE.out.trans hf
  subst hJf
  have HFS := Lib.hid (fun W => first_spec PA cp (placesB l).length f at_ W hpl4)
  have hok : ∀ z ∈ l, legOk z = true := fun z hz => by obtain ⟨j, hj, rfl⟩ := List.getElem_of_mem hz; exact (net_at hnet).2.1 j hj
  have HFL := Lib.hid (show firstL f (max at_ 0) (placesB l).length = listT (placesB l) (arrT l zs x fr (max at_ 0) 0) from by rw [firstL_all (pl_nodup l) hfl, hfe]; rfl)
  have ha : 0 ≤ max at_ 0 ∧ max at_ 0 ≤ 100000 := by omega
  have HRN := Lib.hid (fun k EA ce W (h1 : InK 6 lgC W A l) (h2 : IntsIn W D zs) (h3 : StrsIn W PA (placesB l)) (h4 : IntsIn W EA (listT (placesB l) (arrT l zs x fr (max at_ 0) k))) => by
   have h := round_spec f (placesB l) (arrT l zs x fr (max at_ 0) k) PA cp EA ce A ca l D cd zs x W h1 h2 hn hm hnet (pl_nodup l) (fun z hz => pl_place hz) hfl hpl4 h3 h4 (arr_bd hok ha k)
   rw [hfe] at h
   exact h)
  have HLL := Lib.hid (fun k => listT_len (placesB l) (arrT l zs x fr (max at_ 0) k))
  rw [hnet] at HI
  clear hnet hok hJm hsv hfr hf hfl hfe HNO HJE hgi
  generalize max at_ 0 = a at *
  go_wp2_with fail
  refine (HI.out _ H1.out.2.2.1 H1.out.2.2.2.1).mono ?_; rintro e w3 ⟨rfl, hb3⟩
  go_wp2_with fail
  refine (HFS.out _).mono ?_; rintro e w4 ⟨v4, rfl, ho4, hb4⟩
  have hb34 := hb3.trans (hb4.mono hb3.size)
  have ho4' := OwnI.mono ho4 hb3.size
  rw [HFL.out] at ho4'
  clear hb3 hb4 ho4 b0 b1 b2
  go_wp2
  go_loopw [11, 12] (fun v i wr => ∃ k : Nat, k ≤ min legs.toNat (placesB l).length ∧ i = .int .i64 k ∧ OwnI wr W2.heap.size v (listT (placesB l) (arrT l zs x fr a k)) ∧ Below W2.heap.size W2 wr) (fun _ i _ => (placesB l).length - (intOf i).toNat)
  case atStart => exact ⟨0, Nat.zero_le _, rfl, ho4', hb34⟩
  case round =>
   clear ho4' hb34
   obtain ⟨k, hk, rfl, ho, hb⟩ := hrel
   obtain ⟨EA, ce, rfl⟩ := ho.opens
   have HI4 := Lib.hid ho.ins.2
   have HO := Lib.hid ho; clear ho
   have hbz := hb.size
   obtain ⟨b0, b1, b2⟩ := (H1.out.1.below hb).cells
   have hll := HLL.out k
   rw [hll] at HO ⊢
   by_cases hlt : k < min legs.toNat (placesB l).length
   ·have h1 : (k : Int) < legs := by omega
    have h2 : (k : Int) < ((placesB l).length : Int) := by omega
    go_wp2_with fail
    refine (HRN.out k EA ce wr (H1.out.2.2.1.below hb) (H1.out.2.2.2.1.below hb) (H1.out.2.2.2.2.below hb) HI4.out).mono ?_; rintro e w5 ⟨v5, rfl, ho5, hb5⟩
    have HO5 := Lib.hid (show OwnI w5 W2.heap.size v5 (listT (placesB l) (arrT l zs x fr a (k + 1))) from OwnI.mono ho5 hbz)
    clear ho5
    go_wp2
    go_roundw
    case rel => exact ⟨k + 1, by omega, by go_num, HO5.out, hb.trans (hb5.mono hbz)⟩
    case measure => simp [intOf]; omega
   ·have hkm : k = min legs.toNat (placesB l).length := by omega
    have HE2 := Lib.hid (show bestB l zs x fr at_ legs = listT (placesB l) (arrT l zs x fr a k) by rw [HE.out, hkm])
    by_cases h1 : (k : Int) < legs
    ·have h2 : ¬ (k : Int) < ((placesB l).length : Int) := by omega
     clear hkm
     go_wp2
     go_ret
     exact ⟨_, rfl, by rw [HE2.out, HBE.out]; exact OwnI.mono HO.out (Nat.le_of_lt hWB), by rw [HBE.out]; exact H1.out.2.1.trans (hb.mono (Nat.le_of_lt hWB))⟩
    ·clear hkm
     go_wp2
     go_ret
     exact ⟨_, rfl, by rw [HE2.out, HBE.out]; exact OwnI.mono HO.out (Nat.le_of_lt hWB), by rw [HBE.out]; exact H1.out.2.1.trans (hb.mono (Nat.le_of_lt hWB))⟩
end Go.Proofs.YtinijleelhbpoaaGreat

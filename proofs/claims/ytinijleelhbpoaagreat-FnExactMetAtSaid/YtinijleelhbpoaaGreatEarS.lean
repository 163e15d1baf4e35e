/- The contract of spec.EarliestAt. -/
import Derived.Test.YtinijleelhbpoaaGreatBestS
namespace Go.Proofs.YtinijleelhbpoaaGreat
open Go.RowKit
/-- what EarliestAt answers -/
def earB (l : List Lg) (zs : List Int) (x : Int) (fr to : ByteArray) (at_ : Int) : Int := timeB (placesB l) to (bestB l zs x fr at_ ((placesB l).length : Nat))
theorem best_len (l : List Lg) (zs : List Int) (x : Int) (fr : ByteArray) (at_ legs : Int) : (bestB l zs x fr at_ legs).length = 0 ∨ (bestB l zs x fr at_ legs).length = (placesB l).length := by
 by_cases h : bestOk l zs x fr at_ legs
 ·exact .inr (by rw [best_yes h, listT_len])
 ·exact .inl (by rw [best_no h]; rfl)
theorem best_bd (l : List Lg) (zs : List Int) (x : Int) (fr : ByteArray) (at_ legs : Int) : ∀ v ∈ bestB l zs x fr at_ legs, v = -1 ∨ (0 ≤ v ∧ v ≤ 100000) := by
 intro v hv
 by_cases h : bestOk l zs x fr at_ legs
 ·rw [best_yes h] at hv
  obtain ⟨p, _, rfl⟩ := List.mem_map.1 hv
  have hok : ∀ z ∈ l, legOk z = true := fun z hz => by obtain ⟨j, hj, rfl⟩ := List.getElem_of_mem hz; exact (net_at (serv_iff.1 h.1).1).2.1 j hj
  have := arr_bd (zs := zs) (ch := x) (fr := fr) (a := max at_ 0) hok (by have := h.2.1; omega) (min legs.toNat (placesB l).length) p
  cases e : arrT l zs x fr (max at_ 0) (min legs.toNat (placesB l).length) p with
  | none => exact .inl rfl
  | some b => exact .inr (this b e)
 ·rw [best_no h] at hv; cases hv
theorem ear_bd (l : List Lg) (zs : List Int) (x : Int) (fr to : ByteArray) (at_ : Int) : earB l zs x fr to at_ = -1 ∨ (0 ≤ earB l zs x fr to at_ ∧ earB l zs x fr to at_ ≤ 100000) := by
 unfold earB timeB
 by_cases h : idxI (placesB l) to < 0 ∨ ((bestB l zs x fr at_ ((placesB l).length : Nat)).length : Int) ≤ idxI (placesB l) to
 ·rw [if_pos h]; exact .inl rfl
 ·rw [if_neg h]
  have hk : (idxI (placesB l) to).toNat < (bestB l zs x fr at_ ((placesB l).length : Nat)).length := by omega
  simp only [List.getD, List.getElem?_eq_getElem hk, Option.getD_some]
  exact best_bd l zs x fr at_ _ _ (List.getElem_mem hk)
set_option maxRecDepth 100000 in
set_option maxHeartbeats 4000000 in
theorem early_spec (fr to : ByteArray) (at_ : Int) (A : Option Addr) (ca : Nat) (l : List Lg) (D : Option Addr) (cd : Nat) (zs : List Int) (x : Int) (w : World) (hA : InK 6 lgC w A l) (hD : IntsIn w D zs) (hs : ∀ z ∈ l, z.f.size ≤ maxLen ∧ z.t.size ≤ maxLen) (hn : l.length ≤ 1048576) (hm : zs.length ≤ 1048576) :
  Calls Tryz.prog 94 #[.agg #[.slice A l.length ca, .slice D zs.length cd, .int .i64 x], .string fr, .string to, .int .i64 at_] w fun e w' => e = .returned (.int .i64 (earB l zs x fr to at_)) ∧ Below w.heap.size w w' := by
 have hB := Box3.new (T := 27) (v0 := .slice A l.length ca) (v1 := .slice D zs.length cd) (v2 := .int .i64 x) w
 have hb0 := (Below.refl w.heap.size w).alloc (Nat.le_refl _) (.cells #[.slice A l.length ca, .slice D zs.length cd, .int .i64 x] 27)
 have H0 := Lib.hid (And.intro hB (And.intro hb0 (And.intro (hA.below hb0) (hD.below hb0)))); clear hB hb0 hA hD
 have HPL := Lib.hid (fun W (h1 : InK 6 lgC W A l) => places_spec A ca l D cd zs.length x W h1 hn)
 have HBS := Lib.hid (fun W (h1 : InK 6 lgC W A l) (h2 : IntsIn W D zs) => best_spec fr at_ ((placesB l).length : Nat) A ca l D cd zs x W h1 h2 hs hn hm)
 have hbl := best_len l zs x fr at_ ((placesB l).length : Nat)
 have hpl4 : (placesB l).length ≤ 4000000 := by have := placesB_len l; omega
 have HIX := Lib.hid (fun PA cp W (h : StrsIn W PA (placesB l)) => index_spec PA cp (placesB l) to W h hpl4)
 have hgi := idxI_ge (placesB l) to
 have hV : earB l zs x fr to at_ = timeB (placesB l) to (bestB l zs x fr at_ ((placesB l).length : Nat)) := rfl
 unfold timeB at hV
 generalize earB l zs x fr to at_ = R at *
 generalize bestB l zs x fr at_ ((placesB l).length : Nat) = T at *
 generalize idxI (placesB l) to = J at *
 clear hs
 go_enter Tryz.func94, Tryz.ntmps94
 go_wp2_with fail
 refine (HPL.out _ H0.out.2.2.1).mono ?_; rintro e W ⟨⟨vp, rfl, hvp⟩, hb1⟩
 obtain ⟨PA, cp, rfl, hP⟩ := own_strs hvp
 have H1 := Lib.hid (And.intro (H0.out.1.below hb1) (And.intro (H0.out.2.1.trans (hb1.mono (Nat.le_of_lt H0.out.1.lt))) (And.intro (H0.out.2.2.1.below hb1) (And.intro (H0.out.2.2.2.below hb1) hP)))); clear H0 hb1 hvp hP HPL
 obtain ⟨b0, b1, b2⟩ := H1.out.1.cells
 go_wp2_with fail
 refine (HIX.out PA cp W H1.out.2.2.2.2).mono ?_; rintro e W2 ⟨rfl, rfl⟩
 go_wp2_with fail
 refine (HBS.out _ H1.out.2.2.1 H1.out.2.2.2.1).mono ?_; rintro e w3 ⟨v, rfl, hv, hb3⟩
 obtain ⟨EA, ce, rfl⟩ := hv.opens
 have HE := Lib.hid hv.ins.2
 have HB := Lib.hid (H1.out.2.1.trans (hb3.mono (Nat.le_of_lt H1.out.1.lt)))
 clear hv hb3 H1 HBS HIX b0 b1 b2
 by_cases h1 : J < 0
 ·have HR := Lib.hid (hV.trans (if_pos (Or.inl h1))); clear hV
  go_wp2
  all_goals
   go_ret
   exact ⟨ret_int HR.out.symm, HB.out⟩
 ·by_cases h2 : T.length = 0
  ·have HR := Lib.hid (hV.trans (if_pos (Or.inr (by omega)))); clear hV
   rw [h2]
   go_wp2
   go_ret
   exact ⟨ret_int HR.out.symm, HB.out⟩
  ·have hlt : J < T.length := by omega
   have hV' := hV.trans (if_neg (by omega))
   clear hV
   obtain ⟨k, rfl⟩ : ∃ k : Nat, J = k := ⟨J.toNat, by omega⟩
   have hk : k < T.length := by omega
   obtain ⟨gb, rfl, hgb, c0⟩ := HE.out k hk
   have HR := Lib.hid (show R = T[k] by rw [hV']; simp [List.getD, hk]); clear hV'
   obtain ⟨y, hy⟩ : ∃ y, y = T[k] := ⟨_, rfl⟩
   rw [← hy] at c0 HR
   clear hy
   have h2' : ((T.length : Int) == 0) = false := beq_eq_false_iff_ne.2 (by omega)
   have h1' : ¬ (k : Int) < 0 := by omega
   go_wp2
   go_ret
   exact ⟨ret_int HR.out.symm, HB.out⟩
end Go.Proofs.YtinijleelhbpoaaGreat

/- The contracts of LatestStart, both texts. -/
import Derived.Test.YtalciiajhlhecaaLatI
import Derived.Test.YtalciiajhlhecaaLatS
import Derived.Test.YtalciiajhlhecaaEarS
import Derived.Test.YtalciiajhlhecaaStart
namespace Go.Proofs.Ytalciiajhlhecaa
open Go.RowKit
/-- what LatestStart answers -/
def lasB (l : List Lg) (zs : List Int) (x : Int) (fr to : ByteArray) (by_ : Int) : Int := timeB (placesB l) fr (latB l zs x to by_)
set_option maxRecDepth 100000 in
set_option maxHeartbeats 2000000 in
theorem last_impl (fr to : ByteArray) (by_ : Int) (A : Option Addr) (ca : Nat) (l : List Lg) (D : Option Addr) (cd : Nat) (zs : List Int) (x : Int) (w : World) (hA : InK 6 lgC w A l) (hD : IntsIn w D zs) (hs : ∀ z ∈ l, z.f.size ≤ maxLen ∧ z.t.size ≤ maxLen) (hn : l.length ≤ 1048576) (hm : zs.length ≤ 1048576) (hto : to.size ≤ maxLen) (hby : by_ ≤ 9223372036854775807) :
    Calls Try.prog 37 #[.agg #[.slice A l.length ca, .slice D zs.length cd, .int .i64 x], .string fr, .string to, .int .i64 by_] w fun e w' => e = .returned (.int .i64 (lasB l zs x fr to by_)) ∧ Below w.heap.size w w' := by
  have hB := Box3.new (T := 39) (v0 := .slice A l.length ca) (v1 := .slice D zs.length cd) (v2 := .int .i64 x) w
  have hb0 := (Below.refl w.heap.size w).alloc (Nat.le_refl _) (.cells #[.slice A l.length ca, .slice D zs.length cd, .int .i64 x] 39)
  have H0 := Lib.hid (And.intro hB (And.intro hb0 (And.intro (hA.below hb0) (hD.below hb0)))); clear hB hb0 hA hD
  have HBA := Lib.hid (fun W (h1 : InK 6 lgC W A l) (h2 : IntsIn W D zs) => lat_impl to by_ A ca l D cd zs x W h1 h2 hs hn hm hto hby)
  have HTO := Lib.hid (fun E ce W (h1 : InK 6 lgC W A l) (h2 : IntsIn W E (latB l zs x to by_)) => time_of fr E ce _ A ca l D cd zs.length x W h1 h2 hn)
  have hV : lasB l zs x fr to by_ = timeB (placesB l) fr (latB l zs x to by_) := rfl
  rw [← hV] at HTO
  clear hV hs
  generalize lasB l zs x fr to by_ = R at *
  generalize latB l zs x to by_ = T at *
  go_enter Try.func37, Try.ntmps37
  go_wp2_with fail
  generalize hB : w.heap.size = B at *
  have HBE := Lib.hid hB; clear hB
  generalize w.alloc (.cells #[.slice A l.length ca, .slice D zs.length cd, .int .i64 x] 39) = WW at *
  obtain ⟨b0, b1, b2⟩ := H0.out.1.cells
  have hBr : B < WW.heap.size := H0.out.1.lt
  go_region_held3 (fun w' => w'.cell? ⟨B, 0, none⟩ = some (.slice A l.length ca) ∧ w'.cell? ⟨B, 1, none⟩ = some (.slice D zs.length cd) ∧ w'.cell? ⟨B, 2, none⟩ = some (.int .i64 x))
    (go_keep)
    (first
      | (go_at_call 57; refine (HBA.out _ (H0.out.2.2.1.below ?_) (H0.out.2.2.2.below ?_)).mono ?_; (focus (first | exact Below.refl _ _ | exact (Below.refl _ _).drew)); (focus (first | exact Below.refl _ _ | exact (Below.refl _ _).drew)); (rintro e u2 ⟨v, rfl, hv, hu⟩; obtain ⟨EA, ce, rfl⟩ := hv.opens; have HE := Lib.hid hv.ins.2; (first | (have hb2 : Below WW.heap.size WW u2 := below_undrew hu) | (have hb2 : Below WW.heap.size WW u2 := hu)); obtain ⟨e0, e1, e2⟩ := (H0.out.1.below hb2).cells; clear hu hv))
      | (go_at_call 89; refine (HTO.out EA ce _ (H0.out.2.2.1.below ?_) (HE.out.below ?_)).mono ?_; (focus (first | with_reducible exact hb2 | exact hb2.drew)); (focus (first | exact Below.refl _ _ | exact (Below.refl _ _).drew)); (rintro e u3 ⟨rfl, hu⟩; (first | (have hb3 : Below WW.heap.size WW u3 := chain hb2 hu) | (have hb3 : Below WW.heap.size WW u3 := chain hb2.drew hu)); obtain ⟨f0, f1, f2⟩ := (H0.out.1.below hb3).cells; clear hu)))
  all_goals
    go_wp2
    go_ret
    exact ⟨rfl, by rw [HBE.out]; exact H0.out.2.1.trans (hb3.mono (Nat.le_of_lt hBr))⟩
set_option maxRecDepth 100000 in
set_option maxHeartbeats 2000000 in
theorem last_spec (fr to : ByteArray) (by_ : Int) (A : Option Addr) (ca : Nat) (l : List Lg) (D : Option Addr) (cd : Nat) (zs : List Int) (x : Int) (w : World) (hA : InK 6 lgC w A l) (hD : IntsIn w D zs) (hs : ∀ z ∈ l, z.f.size ≤ maxLen ∧ z.t.size ≤ maxLen) (hn : l.length ≤ 1048576) (hm : zs.length ≤ 1048576) (hby : by_ ≤ 9223372036854775807) :
    Calls Try.prog 61 #[.agg #[.slice A l.length ca, .slice D zs.length cd, .int .i64 x], .string fr, .string to, .int .i64 by_] w fun e w' => e = .returned (.int .i64 (lasB l zs x fr to by_)) ∧ Below w.heap.size w w' := by
  have hB := Box3.new (T := 39) (v0 := .slice A l.length ca) (v1 := .slice D zs.length cd) (v2 := .int .i64 x) w
  have hb0 := (Below.refl w.heap.size w).alloc (Nat.le_refl _) (.cells #[.slice A l.length ca, .slice D zs.length cd, .int .i64 x] 39)
  have H0 := Lib.hid (And.intro hB (And.intro hb0 (And.intro (hA.below hb0) (hD.below hb0)))); clear hB hb0 hA hD
  have HPL := Lib.hid (fun W (h1 : InK 6 lgC W A l) => places_spec A ca l D cd zs.length x W h1 hn)
  have HBS := Lib.hid (fun W (h1 : InK 6 lgC W A l) (h2 : IntsIn W D zs) => lat_spec to by_ A ca l D cd zs x W h1 h2 hs hn hm hby)
  have hbl := lat_len l zs x to by_
  have hpl4 : (placesB l).length ≤ 4000000 := by have := placesB_len l; omega
  have HIX := Lib.hid (fun PA cp W (h : StrsIn W PA (placesB l)) => index_spec PA cp (placesB l) fr W h hpl4)
  have hgi := idxI_ge (placesB l) fr
  have hV : lasB l zs x fr to by_ = timeB (placesB l) fr (latB l zs x to by_) := rfl
  unfold timeB at hV
  generalize lasB l zs x fr to by_ = R at *
  generalize latB l zs x to by_ = T at *
  generalize idxI (placesB l) fr = J at *
  clear hs
  go_enter Try.func61, Try.ntmps61
  go_wp2_with fail
  refine (HPL.out _ H0.out.2.2.1).mono ?_; rintro e W ⟨⟨vp, rfl, hvp⟩, hb1⟩
  obtain ⟨PA, cp, rfl, hP⟩ := own_strs hvp
  have H1 := Lib.hid (And.intro (H0.out.1.below hb1) (And.intro (H0.out.2.1.trans (hb1.mono (Nat.le_of_lt H0.out.1.lt))) (And.intro (H0.out.2.2.1.below hb1) (And.intro (H0.out.2.2.2.below hb1) hP)))); clear H0 hb1 hvp hP HPL
  obtain ⟨b0, b1, b2⟩ := H1.out.1.cells
  go_wp2_with fail
  refine (HIX.out PA cp W H1.out.2.2.2.2).mono ?_; rintro e W2 ⟨rfl, rfl⟩
  go_wp2_with fail
  refine (HBS.out _ H1.out.2.2.1 H1.out.2.2.2.1).mono ?_; rintro e w3 ⟨v, rfl, hv, hb3⟩
  obtain ⟨EA, ce, rfl⟩ := hv.opens
  have HE := Lib.hid hv.ins.2
  have HB := Lib.hid (H1.out.2.1.trans (hb3.mono (Nat.le_of_lt H1.out.1.lt)))
  clear hv hb3 H1 HBS HIX b0 b1 b2
  by_cases h1 : J < 0
  · have HR := Lib.hid (hV.trans (if_pos (Or.inl h1))); clear hV
    go_wp2
    all_goals
      go_ret
      exact ⟨ret_int HR.out.symm, HB.out⟩
  · by_cases h2 : T.length = 0
    · have HR := Lib.hid (hV.trans (if_pos (Or.inr (by omega)))); clear hV
      rw [h2]
      go_wp2
      go_ret
      exact ⟨ret_int HR.out.symm, HB.out⟩
    · have hlt : J < T.length := by omega
      have hV' := hV.trans (if_neg (by omega))
      clear hV
      obtain ⟨k, rfl⟩ : ∃ k : Nat, J = k := ⟨J.toNat, by omega⟩
      have hk : k < T.length := by omega
      obtain ⟨gb, rfl, hgb, c0⟩ := HE.out k hk
      have HR := Lib.hid (show R = T[k] by rw [hV']; simp [List.getD, hk]); clear hV'
      obtain ⟨y, hy⟩ : ∃ y, y = T[k] := ⟨_, rfl⟩
      rw [← hy] at c0 HR
      clear hy
      have h2' : ((T.length : Int) == 0) = false := beq_eq_false_iff_ne.2 (by omega)
      have h1' : ¬ (k : Int) < 0 := by omega
      go_wp2
      go_ret
      exact ⟨ret_int HR.out.symm, HB.out⟩
end Go.Proofs.Ytalciiajhlhecaa

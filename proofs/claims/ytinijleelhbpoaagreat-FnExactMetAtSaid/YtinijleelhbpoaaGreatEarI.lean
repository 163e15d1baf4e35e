/- The contract of impl.EarliestAt. -/
import Derived.Test.YtinijleelhbpoaaGreatBestA
import Derived.Test.YtinijleelhbpoaaGreatEarS
import Derived.Test.YtinijleelhbpoaaGreatBd
namespace Go.Proofs.YtinijleelhbpoaaGreat
open Go.RowKit
set_option maxRecDepth 100000 in
set_option maxHeartbeats 4000000 in
theorem early_impl (fr to : ByteArray) (at_ : Int) (hf : fr.size ≤ maxLen) (hat2 : -9223372036854775808 ≤ at_) (A : Option Addr) (ca : Nat) (l : List Lg) (D : Option Addr) (cd : Nat) (zs : List Int) (x : Int) (w : World) (hA : InK 6 lgC w A l) (hD : IntsIn w D zs) (hs : ∀ z ∈ l, z.f.size ≤ maxLen ∧ z.t.size ≤ maxLen) (hn : l.length ≤ 1048576) (hm : zs.length ≤ 1048576) :
  Calls Tryz.prog 149 #[.agg #[.slice A l.length ca, .slice D zs.length cd, .int .i64 x], .string fr, .string to, .int .i64 at_] w fun e w' => e = .returned (.int .i64 (earB l zs x fr to at_)) ∧ Below w.heap.size w w' := by
 have hB := Box3.new (T := 27) (v0 := .slice A l.length ca) (v1 := .slice D zs.length cd) (v2 := .int .i64 x) w
 have hb0 := (Below.refl w.heap.size w).alloc (Nat.le_refl _) (.cells #[.slice A l.length ca, .slice D zs.length cd, .int .i64 x] 27)
 have H0 := Lib.hid (And.intro hB (And.intro hb0 (And.intro (hA.below hb0) (hD.below hb0)))); clear hB hb0 hA hD
 have hpl4 : (placesB l).length ≤ 4000000 := by have := placesB_len l; omega
 have HMO := Lib.hid (fun W (h1 : InK 6 lgC W A l) => most_legs A ca l D cd zs.length x W h1 hn)
 have HBA := Lib.hid (fun W (h1 : InK 6 lgC W A l) (h2 : IntsIn W D zs) => best_impl fr at_ ((placesB l).length : Nat) A ca l D cd zs x W h1 h2 hs hn hm hf (by omega) hat2)
 have HTO := Lib.hid (fun E ce W (h1 : InK 6 lgC W A l) (h2 : IntsIn W E (bestB l zs x fr at_ ((placesB l).length : Nat))) => time_of to E ce _ A ca l D cd zs.length x W h1 h2 hn)
 have hV : earB l zs x fr to at_ = timeB (placesB l) to (bestB l zs x fr at_ ((placesB l).length : Nat)) := rfl
 rw [← hV] at HTO
 clear hV hs
 generalize earB l zs x fr to at_ = R at *
 generalize bestB l zs x fr at_ ((placesB l).length : Nat) = T at *
 obtain ⟨P, hP⟩ : ∃ P, P = (placesB l).length := ⟨_, rfl⟩
 rw [← hP] at HMO HBA
 clear hP hpl4
 go_enter Tryz.func149, Tryz.ntmps149
 go_wp2_with fail
 generalize hB : w.heap.size = B at *
 have HBE := Lib.hid hB; clear hB
 generalize w.alloc (.cells #[.slice A l.length ca, .slice D zs.length cd, .int .i64 x] 27) = WW at *
 obtain ⟨b0, b1, b2⟩ := H0.out.1.cells
 have hBr : B < WW.heap.size := H0.out.1.lt
 go_region_held3 (fun w' => w'.cell? ⟨B, 0, none⟩ = some (.slice A l.length ca) ∧ w'.cell? ⟨B, 1, none⟩ = some (.slice D zs.length cd) ∧ w'.cell? ⟨B, 2, none⟩ = some (.int .i64 x))
  (go_keep)
  (first
   | (go_at_call 91; refine (HMO.out _ (H0.out.2.2.1.below ?_)).mono ?_; (focus (first | exact Below.refl _ _ | exact (Below.refl _ _).drew)); (rintro e u1 ⟨rfl, hu⟩; (first | (have hb1 : Below WW.heap.size WW u1 := below_undrew hu) | (have hb1 : Below WW.heap.size WW u1 := hu)); obtain ⟨d0, d1, d2⟩ := (H0.out.1.below hb1).cells; clear hu))
   | (go_at_call 179; refine (HBA.out _ (H0.out.2.2.1.below ?_) (H0.out.2.2.2.below ?_)).mono ?_; (focus (first | with_reducible exact hb1 | exact hb1.drew)); (focus (first | with_reducible exact hb1 | exact hb1.drew)); (rintro e u2 ⟨v, rfl, hv, hu⟩; obtain ⟨EA, ce, rfl⟩ := hv.opens; have HE := Lib.hid hv.ins.2; (first | (have hb2 : Below WW.heap.size WW u2 := chain hb1 hu) | (have hb2 : Below WW.heap.size WW u2 := chain hb1.drew hu)); obtain ⟨e0, e1, e2⟩ := (H0.out.1.below hb2).cells; clear hu hv))
   | (go_at_call 181; refine (HTO.out EA ce _ (H0.out.2.2.1.below ?_) (HE.out.below ?_)).mono ?_; (focus (first | with_reducible exact hb2 | exact hb2.drew)); (focus (first | exact Below.refl _ _ | exact (Below.refl _ _).drew)); (rintro e u3 ⟨rfl, hu⟩; (first | (have hb3 : Below WW.heap.size WW u3 := chain hb2 hu) | (have hb3 : Below WW.heap.size WW u3 := chain hb2.drew hu)); obtain ⟨f0, f1, f2⟩ := (H0.out.1.below hb3).cells; clear hu)))
 all_goals
  go_wp2
  go_ret
  exact ⟨rfl, by rw [HBE.out]; exact H0.out.2.1.trans (hb3.mono (Nat.le_of_lt hBr))⟩
end Go.Proofs.YtinijleelhbpoaaGreat

/- The walk of the law on Doubt. Written by mk/dbt.py. -/
import Derived.Test.YtinijleelhbpoaaBel2
import Derived.Deep.RegionHeld3
namespace Go.Proofs.Ytinijleelhbpoaa.fnExactDoubt
open Go.RowKit
set_option maxRecDepth 100000 in
set_option maxHeartbeats 4000000 in
theorem walk (A0 : Option Addr) (ca0 : Nat) (l0 : List ByteArray) (D0 : Option Addr) (cd0 : Nat) (zs0 : List Tp) (w : World) (hr0 : RawK 1 stC w A0 l0) (hd0 : RawK 2 tpC w D0 zs0) (hq0 : (∀ z ∈ l0, z.size ≤ maxLen) ∧ l0.length ≤ maxLen ∧ zs0.length ≤ maxLen) :
    Calls Try.prog 3 #[.agg #[.slice A0 l0.length ca0, .slice D0 zs0.length cd0]] w fun e w' => e = .returned (.bool true) ∧ Below w.heap.size w w' := by
  obtain ⟨q, hq⟩ : ∃ q : Nat, q = l0.length + zs0.length := ⟨_, rfl⟩
  have HSP := Lib.hid (fun A1 A2 c1 c2 W h1 h2 => doubt_spec2 A1 A2 l0.length c1 zs0.length c2 W h1 h2)
  have HIM := Lib.hid (fun A1 A2 c1 c2 W h1 h2 => doubt_impl2 A1 A2 l0.length c1 zs0.length c2 W h1 h2)
  rw [← hq] at HSP HIM
  clear hq
  have hqr : ((q : Int) != (q : Int)) = false := by simp
  have HR := Lib.hid hr0; have HD := Lib.hid hd0; have HS := Lib.hid hq0; clear hr0 hd0 hq0
  have FB := Lib.hid (Box2.new (T := 25) (v0 := .slice A0 l0.length ca0) (v1 := .slice D0 zs0.length cd0) w)
  have FW := Lib.hid ((Below.refl w.heap.size w).alloc (Nat.le_refl _) (.cells #[.slice A0 l0.length ca0, .slice D0 zs0.length cd0] 25))
  go_enter Try.func3, Try.ntmps3
  obtain ⟨c0, c1⟩ := FB.out.cells
  go_wp2_with fail
  clear c0 c1
  generalize (w.alloc (.cells #[.slice A0 l0.length ca0, .slice D0 zs0.length cd0] 25)) = w0 at *
  refine (sz_bel A0 D0 ca0 cd0 l0 zs0.length 1048576 w0 (HR.out.below FW.out) HS.out.1 HS.out.2.1 HS.out.2.2 (by omega)).mono ?_; rintro e w1 ⟨⟨r0, rfl, hr⟩, hb⟩
  replace FW := Lib.hid (FW.out.trans (hb.mono FW.out.size)); replace FB := Lib.hid (FB.out.below hb); clear hb
  rcases hr with rfl | ⟨hra, hrb, hln, hzn⟩
  · go_wp2
    go_ret
    exact ⟨rfl, FW.out⟩
  have hneg : ¬ r0 < 0 := by omega
  have hln' : l0.length ≤ 1048576 := by omega
  have hzn' : zs0.length ≤ 1048576 := by omega
  clear hln hzn
  obtain ⟨c0, c1⟩ := FB.out.cells
  go_wp2_with fail
  clear c0 c1
  refine (to_bel A0 D0 ca0 cd0 l0 zs0 w1 (HR.out.below FW.out) (HD.out.below FW.out) hln' hzn').mono ?_; rintro e w2 ⟨Pg, Ph, rfl, ho, hb⟩
  replace FW := Lib.hid (FW.out.trans (hb.mono FW.out.size)); replace FB := Lib.hid (FB.out.below hb); clear hb ho
  obtain ⟨c0, c1⟩ := FB.out.cells
  go_wp2_with fail
  clear c0 c1
  refine (HSP.out _ _ _ _ w2 (by omega) (by omega)).mono ?_; rintro e w3 ⟨rfl, hb⟩
  replace FW := Lib.hid (FW.out.trans (hb.mono FW.out.size)); replace FB := Lib.hid (FB.out.below hb); clear hb
  obtain ⟨c0, c1⟩ := FB.out.cells
  go_wp2_with fail
  clear c0 c1
  refine (to_bel A0 D0 ca0 cd0 l0 zs0 w3 (HR.out.below FW.out) (HD.out.below FW.out) hln' hzn').mono ?_; rintro e w4 ⟨Xg, Xh, rfl, ho, hb⟩
  replace FW := Lib.hid (FW.out.trans (hb.mono FW.out.size)); replace FB := Lib.hid (FB.out.below hb); clear hb
  have XA := Lib.hid ho.1; have XD := Lib.hid ho.2; clear ho
  have FX := Lib.hid (Box2.new (T := 30) (v0 := .slice (some ⟨Xg, 0, none⟩) l0.length l0.length) (v1 := .slice (some ⟨Xh, 0, none⟩) zs0.length zs0.length) w4)
  have hbx := (Below.refl w4.heap.size w4).alloc (Nat.le_refl _) (.cells #[.slice (some ⟨Xg, 0, none⟩) l0.length l0.length, .slice (some ⟨Xh, 0, none⟩) zs0.length zs0.length] 30)
  replace FW := Lib.hid (FW.out.trans (hbx.mono FW.out.size)); replace FB := Lib.hid (FB.out.below hbx); replace XA := Lib.hid (own_below XA.out hbx); replace XD := Lib.hid (OwnK.below XD.out hbx); clear hbx
  obtain ⟨c0, c1⟩ := FB.out.cells; obtain ⟨d0, d1⟩ := FX.out.cells
  go_wp2_with fail
  clear c0 c1 d0 d1
  generalize hX : w4.heap.size = BX at *
  generalize w4.alloc (.cells #[.slice (some ⟨Xg, 0, none⟩) l0.length l0.length, .slice (some ⟨Xh, 0, none⟩) zs0.length zs0.length] 30) = w5 at *
  clear hX
  refine (HIM.out _ _ _ _ w5 (by omega) (by omega)).mono ?_; rintro e w6 ⟨rfl, hb⟩
  replace FW := Lib.hid (FW.out.trans (hb.mono FW.out.size)); replace FB := Lib.hid (FB.out.below hb); replace XA := Lib.hid (own_below XA.out hb); replace XD := Lib.hid (OwnK.below XD.out hb); replace FX := Lib.hid (FX.out.below hb); clear hb
  obtain ⟨c0, c1⟩ := FB.out.cells; obtain ⟨d0, d1⟩ := FX.out.cells
  go_wp2_with fail
  obtain ⟨WW, hWW⟩ : ∃ WW : World, WW = w6 := ⟨_, rfl⟩
  subst hWW
  have HTP := Lib.hid (fun W' (h : Below WW.heap.size WW W') => to_bel A0 D0 ca0 cd0 l0 zs0 W' ((HR.out.below FW.out).below h) ((HD.out.below FW.out).below h) hln' hzn')
  go_region_held3 (fun w' => w'.cell? ⟨w.heap.size, 0, none⟩ = some (.slice A0 l0.length ca0) ∧ w'.cell? ⟨w.heap.size, 1, none⟩ = some (.slice D0 zs0.length cd0) ∧ w'.cell? ⟨BX, 0, none⟩ = some (.slice (some ⟨Xg, 0, none⟩) l0.length l0.length) ∧ w'.cell? ⟨BX, 1, none⟩ = some (.slice (some ⟨Xh, 0, none⟩) zs0.length zs0.length))
    (go_keep)
    (first
      | (go_at_call 6; refine (HTP.out _ ?_).mono ?_; (focus (first | exact Below.refl _ _ | exact (Below.refl _ _).drew)); (rintro e w7 ⟨Qg, Qh, rfl, ho, hb⟩; (first | (have hb2 : Below WW.heap.size WW w7 := below_undrew hb) | (have hb2 : Below WW.heap.size WW w7 := hb)); replace FW := Lib.hid (FW.out.trans (hb2.mono FW.out.size)); replace FB := Lib.hid (FB.out.below hb2); replace XA := Lib.hid (own_below XA.out hb2); replace XD := Lib.hid (OwnK.below XD.out hb2); replace FX := Lib.hid (FX.out.below hb2); have QA := Lib.hid ho.1; have QD := Lib.hid ho.2; clear ho; clear hb hb2; clear c0 c1 d0 d1; obtain ⟨c0, c1⟩ := FB.out.cells; obtain ⟨d0, d1⟩ := FX.out.cells))
      | (go_at_call 8; refine (eq_bel2 _ _ _ _ _ _ _ _ l0 zs0 _ _ _ _ _ XA.out QA.out XD.out QD.out hln' hzn').mono ?_; (rintro e w8 ⟨rfl, hb⟩; (first | (have hb2 : Below w7.heap.size w7 w8 := below_undrew hb) | (have hb2 : Below w7.heap.size w7 w8 := hb)); replace FW := Lib.hid (FW.out.trans (hb2.mono FW.out.size)); replace FB := Lib.hid (FB.out.below hb2); replace XA := Lib.hid (own_below XA.out hb2); replace XD := Lib.hid (OwnK.below XD.out hb2); replace FX := Lib.hid (FX.out.below hb2); replace QA := Lib.hid (own_below QA.out hb2); replace QD := Lib.hid (OwnK.below QD.out hb2); clear hb hb2; clear c0 c1 d0 d1; obtain ⟨c0, c1⟩ := FB.out.cells; obtain ⟨d0, d1⟩ := FX.out.cells)))
  all_goals
    go_wp2
    go_ret
    exact ⟨rfl, FW.out⟩
end Go.Proofs.Ytinijleelhbpoaa.fnExactDoubt

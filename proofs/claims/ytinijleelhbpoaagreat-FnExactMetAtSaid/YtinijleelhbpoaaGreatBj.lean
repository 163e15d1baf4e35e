/- Several texts in one: ScCmp ScCmpW ScO. -/
import Derived.Test.YtinijleelhbpoaaGreatBg
import Derived.Test.YtinijleelhbpoaaGreatCmp
import Derived.Test.YtinijleelhbpoaaGreatBa
import Derived.StillTailTactics
import Derived.BigQuiet
import Derived.Test.YtinijleelhbpoaaGreatOrd
import Derived.Shelf.SlSortCmp.Insertion
/- The order of scans: cmp.Or of any list, both texts of CompareScans. Written by mk/sccmp.py. -/
namespace Go.Proofs.YtinijleelhbpoaaGreat
open Go.RowKit
/-- the first one that is not 0 -/
def orL : List Int → Int
 | [] => 0
 | a :: l => if a = 0 then orL l else a
theorem orL_drop {l : List Int} {k : Nat} (hk : k < l.length) : orL (l.drop k) = if l[k] = 0 then orL (l.drop (k + 1)) else l[k] := by
 rw [List.drop_eq_getElem_cons hk]; rfl
set_option maxRecDepth 100000 in
set_option maxHeartbeats 1000000 in
theorem or_list (l : List Int) (g q : Nat) (w : World) (hc : ∀ j (hj : j < l.length), w.cell? ⟨g, j, none⟩ = some (.int .i64 l[j])) (hn : l.length ≤ 1000) :
  Calls Tryz.prog 79 #[.slice (some ⟨g, 0, none⟩) l.length q] w fun e w' => e = .returned (.int .i64 (orL l)) ∧ w = w' := by
 have HC := Lib.hid hc; clear hc
 have HO := Lib.hid (fun (k : Nat) (hk : k < l.length) => orL_drop hk)
 go_enter Tryz.func79, Tryz.ntmps79
 go_wp2
 go_loop [8] (fun i => ∃ j : Nat, j ≤ l.length ∧ i = .int .i64 j ∧ Hid (orL l = orL (l.drop j))) (fun i => l.length - (intOf i).toNat)
 case atStart => exact ⟨0, Nat.zero_le _, rfl, Lib.hid rfl⟩
 case round =>
  obtain ⟨j, hj, rfl, HV⟩ := hrel
  by_cases hlt : (j : Int) < (l.length : Int)
  ·have hjn : j < l.length := by omega
   have c0 := HC.out j hjn
   have HS := Lib.hid (HV.out.trans (HO.out j hjn)); clear HV
   obtain ⟨y, hy⟩ : ∃ y, y = l[j] := ⟨_, rfl⟩
   rw [← hy] at c0 HS
   clear hy
   by_cases h : y = 0
   ·have HN := Lib.hid (HS.out.trans (if_pos h)); clear HS
    subst h
    go_wp2
    go_round
    case rel => exact ⟨j + 1, by omega, by go_num, HN⟩
    case measure => simp [intOf]; omega
   ·have HN := Lib.hid (HS.out.trans (if_neg h)); clear HS
    have hd : (y == 0) = false := beq_eq_false_iff_ne.2 h
    have hd2 : (y != 0) = true := by simp [h]
    clear h
    go_wp2
    go_ret
    exact ⟨ret_int HN.out.symm, rfl⟩
  ·obtain rfl : j = l.length := by omega
   have HN := Lib.hid (HV.out.trans (show orL (l.drop l.length) = 0 by rw [List.drop_length]; rfl)); clear HV
   go_wp2
   go_ret
   exact ⟨ret_int HN.out.symm, rfl⟩
/-- by time, thing, kind, day, leg, place -/
def scL (a b : Sc) : List Int := [cmpI a.a b.a, cmpI a.h b.h, cmpI a.k b.k, cmpI a.d b.d, cmpI a.g b.g, cmpS a.p b.p]
def cmpSc (a b : Sc) : Int := orL (scL a b)
set_option maxRecDepth 100000 in
set_option maxHeartbeats 2000000 in
theorem cmp_sc_impl (h a k : Int) (p : ByteArray) (g d h' a' k' : Int) (p' : ByteArray) (g' d' : Int) (w : World) :
  Calls Tryz.prog 19 #[.agg #[.int .i64 h, .int .i64 a, .int .i64 k, .string p, .int .i64 g, .int .i64 d], .agg #[.int .i64 h', .int .i64 a', .int .i64 k', .string p', .int .i64 g', .int .i64 d']] w fun e w' => e = .returned (.int .i64 (cmpSc ⟨h, a, k, p, g, d⟩ ⟨h', a', k', p', g', d'⟩)) ∧ Below w.heap.size w w' := by
 have H2 := Lib.hid (two w (.cells #[.int .i64 h, .int .i64 a, .int .i64 k, .string p, .int .i64 g, .int .i64 d] 34) (.cells #[.int .i64 h', .int .i64 a', .int .i64 k', .string p', .int .i64 g', .int .i64 d'] 34))
 have HOR := Lib.hid (fun g0 q w0 hc => or_list (scL ⟨h, a, k, p, g, d⟩ ⟨h', a', k', p', g', d'⟩) g0 q w0 hc (by simp [scL]))
 have HE := Lib.hid (show cmpSc ⟨h, a, k, p, g, d⟩ ⟨h', a', k', p', g', d'⟩ = orL (scL ⟨h, a, k, p, g, d⟩ ⟨h', a', k', p', g', d'⟩) from rfl)
 generalize cmpSc ⟨h, a, k, p, g, d⟩ ⟨h', a', k', p', g', d'⟩ = R at *
 generalize hB : w.heap.size = B at *
 have HBE := Lib.hid hB
 go_enter Tryz.func19, Tryz.ntmps19
 go_wp2
 clear hB
 generalize (w.alloc (.cells #[.int .i64 h, .int .i64 a, .int .i64 k, .string p, .int .i64 g, .int .i64 d] 34)).alloc (.cells #[.int .i64 h', .int .i64 a', .int .i64 k', .string p', .int .i64 g', .int .i64 d'] 34) = W at *
 obtain ⟨h1, h2, h3, h4⟩ := H2.out
 clear H2
 refine wp_region_still_tail 34 (by kernel_rfl) (by kernel_rfl) ?_
 obtain ⟨X, hX⟩ : ∃ X, X = W.drew := ⟨_, rfl⟩
 change wpStill _ _ W.drew (fun a' => wpList _ _ _ _ a' W.drew) _ _
 rw [← hX]
 obtain ⟨c0, c1, c2, c3, c4, c5⟩ := row6 (show X.heap[B]? = _ by rw [hX]; exact h1)
 obtain ⟨d0, d1, d2, d3, d4, d5⟩ := row6 (show X.heap[B + 1]? = _ by rw [hX]; exact h2)
 have hb' : Below B w X := by rw [hX]; exact h3.drew
 have hzX : X.heap.size = B + 2 := by rw [hX]; exact h4
 clear hX h1 h2 h3 h4
 simp only [List.take_succ_cons, List.take_zero, List.drop_succ_cons, List.drop_zero]
 repeat still_step
 still_call ((cmp_int _ _ _).mono fun _ _ ⟨h1, h2⟩ => ⟨h1, h2.symm⟩)
 repeat still_step
 still_call ((cmp_int _ _ _).mono fun _ _ ⟨h1, h2⟩ => ⟨h1, h2.symm⟩)
 repeat still_step
 still_call ((cmp_int _ _ _).mono fun _ _ ⟨h1, h2⟩ => ⟨h1, h2.symm⟩)
 repeat still_step
 still_call ((cmp_int _ _ _).mono fun _ _ ⟨h1, h2⟩ => ⟨h1, h2.symm⟩)
 repeat still_step
 still_call ((cmp_int _ _ _).mono fun _ _ ⟨h1, h2⟩ => ⟨h1, h2.symm⟩)
 repeat still_step
 still_call ((cmp_str _ _ _).mono fun _ _ ⟨h1, h2⟩ => ⟨h1, h2.symm⟩)
 repeat still_step
 refine wpStill_nil ?_
 have HBX := Lib.hid hb'; clear hb'
 go_wp2_with fail
 refine (HOR.out _ _ _ ?_).mono ?_
 ·intro j hj
  have hj6 : j < 6 := hj
  have hcase : j = 0 ∨ j = 1 ∨ j = 2 ∨ j = 3 ∨ j = 4 ∨ j = 5 := by omega
  rcases hcase with rfl | rfl | rfl | rfl | rfl | rfl <;> (simp [scL]; try go_simp)
 rintro e w' ⟨rfl, rfl⟩
 go_wp2
 go_ret
 exact ⟨ret_int HE.out.symm, HBX.out.alloc (by omega) _⟩
theorem row5 {W : World} {B : Nat} {T : TypeId} {v0 v1 v2 v3 v4 : Value} (h : W.heap[B]? = some (.cells #[v0, v1, v2, v3, v4] T (0, 0))) : W.cell? ⟨B, 0, none⟩ = some v0 ∧ W.cell? ⟨B, 1, none⟩ = some v1 ∧ W.cell? ⟨B, 2, none⟩ = some v2 ∧ W.cell? ⟨B, 3, none⟩ = some v3 ∧ W.cell? ⟨B, 4, none⟩ = some v4 := by
 refine ⟨?_, ?_, ?_, ?_, ?_⟩ <;> (rw [cell_of_row W B _ _ _ _ h]; rfl)
theorem four (w : World) (C1 C2 C3 C4 : Obj) : ((((w.alloc C1).alloc C2).alloc C3).alloc C4).heap[w.heap.size]? = some C1 ∧ ((((w.alloc C1).alloc C2).alloc C3).alloc C4).heap[w.heap.size + 1]? = some C2 ∧ ((((w.alloc C1).alloc C2).alloc C3).alloc C4).heap[w.heap.size + 2]? = some C3 ∧ ((((w.alloc C1).alloc C2).alloc C3).alloc C4).heap[w.heap.size + 3]? = some C4 ∧ Below w.heap.size w ((((w.alloc C1).alloc C2).alloc C3).alloc C4) ∧ ((((w.alloc C1).alloc C2).alloc C3).alloc C4).heap.size = w.heap.size + 4 := by
 obtain ⟨h1, h2, h3, h4, h5⟩ := three w C1 C2 C3
 generalize ((w.alloc C1).alloc C2).alloc C3 = V at *
 refine ⟨?_, ?_, ?_, ?_, h4.alloc (by omega) C4, by simp [h5]⟩
 ·rw [Below.heap_alloc _ _ _ (by omega)]; exact h1
 ·rw [Below.heap_alloc _ _ _ (by omega)]; exact h2
 ·rw [Below.heap_alloc _ _ _ (by omega)]; exact h3
 ·rw [← h5]; exact heap_alloc_new V C4
theorem scL_get (a b : Sc) : scL a b = [cmpI a.a b.a, cmpI a.h b.h, cmpI a.k b.k, cmpI a.d b.d, cmpI a.g b.g] ++ [cmpS a.p b.p] := rfl
theorem orL_ne {l : List Int} {k : Nat} (hk : k < l.length) (h : l[k] ≠ 0) : orL (l.drop k) = l[k] := by rw [orL_drop hk, if_neg h]
theorem orL_eq {l : List Int} {k : Nat} (hk : k < l.length) (h : l[k] = 0) : orL (l.drop k) = orL (l.drop (k + 1)) := by rw [orL_drop hk, if_pos h]
theorem cmpI_lt' {a b : Int} (h : a < b) : cmpI a b = -1 := by unfold cmpI; rw [if_pos h]
theorem cmpI_gt' {a b : Int} (h : b < a) : cmpI a b = 1 := by unfold cmpI; rw [if_neg (by omega), if_pos h]
theorem cmpI_eq' (a : Int) : cmpI a a = 0 := by unfold cmpI; rw [if_neg (by omega), if_neg (by omega)]
theorem cmpSc_lt {xs ys zs : List Int} {k : Nat} (hz : ∀ j (h1 : j < zs.length) (h2 : j < xs.length) (h3 : j < ys.length), zs[j] = cmpI xs[j] ys[j]) (h1 : k < zs.length) (h2 : k < xs.length) (h3 : k < ys.length) (h : xs[k] < ys[k]) : orL (zs.drop k) = -1 := by
 rw [orL_drop h1, hz k h1 h2 h3, cmpI_lt' h]; rfl
theorem cmpSc_gt {xs ys zs : List Int} {k : Nat} (hz : ∀ j (h1 : j < zs.length) (h2 : j < xs.length) (h3 : j < ys.length), zs[j] = cmpI xs[j] ys[j]) (h1 : k < zs.length) (h2 : k < xs.length) (h3 : k < ys.length) (h : ys[k] < xs[k]) : orL (zs.drop k) = 1 := by
 rw [orL_drop h1, hz k h1 h2 h3, cmpI_gt' h]; rfl
theorem cmpSc_eq {xs ys zs : List Int} {k : Nat} (hz : ∀ j (h1 : j < zs.length) (h2 : j < xs.length) (h3 : j < ys.length), zs[j] = cmpI xs[j] ys[j]) (h1 : k < zs.length) (h2 : k < xs.length) (h3 : k < ys.length) (h : xs[k] = ys[k]) : orL (zs.drop k) = orL (zs.drop (k + 1)) := by
 rw [orL_drop h1, hz k h1 h2 h3, h, cmpI_eq']; rfl
def scI (a : Sc) : List Int := [a.a, a.h, a.k, a.d, a.g]
theorem scL_cmp (a b : Sc) : ∀ j (_h1 : j < (scL a b).length) (_h2 : j < (scI a).length) (_h3 : j < (scI b).length), (scL a b)[j] = cmpI ((scI a)[j]) ((scI b)[j]) := by
 intro j _ h2 _
 have h5 : j < 5 := h2
 have hcase : j = 0 ∨ j = 1 ∨ j = 2 ∨ j = 3 ∨ j = 4 := by omega
 rcases hcase with rfl | rfl | rfl | rfl | rfl <;> rfl
set_option maxRecDepth 100000 in
set_option maxHeartbeats 4000000 in
theorem cmp_sc_spec (h a k : Int) (p : ByteArray) (g d h' a' k' : Int) (p' : ByteArray) (g' d' : Int) (w : World) :
  Calls Tryz.prog 78 #[.agg #[.int .i64 h, .int .i64 a, .int .i64 k, .string p, .int .i64 g, .int .i64 d], .agg #[.int .i64 h', .int .i64 a', .int .i64 k', .string p', .int .i64 g', .int .i64 d']] w fun e w' => e = .returned (.int .i64 (cmpSc ⟨h, a, k, p, g, d⟩ ⟨h', a', k', p', g', d'⟩)) ∧ Below w.heap.size w w' := by
 have HLT := Lib.hid (fun (j : Nat) hh1 hh2 hh3 => cmpSc_lt (k := j) (scL_cmp ⟨h, a, k, p, g, d⟩ ⟨h', a', k', p', g', d'⟩) hh1 hh2 hh3)
 have HGT := Lib.hid (fun (j : Nat) hh1 hh2 hh3 => cmpSc_gt (k := j) (scL_cmp ⟨h, a, k, p, g, d⟩ ⟨h', a', k', p', g', d'⟩) hh1 hh2 hh3)
 have HEQ := Lib.hid (fun (j : Nat) hh1 hh2 hh3 => cmpSc_eq (k := j) (scL_cmp ⟨h, a, k, p, g, d⟩ ⟨h', a', k', p', g', d'⟩) hh1 hh2 hh3)
 have HEND := Lib.hid (show orL ((scL ⟨h, a, k, p, g, d⟩ ⟨h', a', k', p', g', d'⟩).drop 5) = cmpS p p' by show (if cmpS p p' = 0 then 0 else cmpS p p') = cmpS p p'; split <;> simp_all)
 have HST := Lib.hid (show cmpSc ⟨h, a, k, p, g, d⟩ ⟨h', a', k', p', g', d'⟩ = orL ((scL ⟨h, a, k, p, g, d⟩ ⟨h', a', k', p', g', d'⟩).drop 0) from rfl)
 have HLZ := Lib.hid (show (scL ⟨h, a, k, p, g, d⟩ ⟨h', a', k', p', g', d'⟩).length = 6 from rfl)
 generalize scL ⟨h, a, k, p, g, d⟩ ⟨h', a', k', p', g', d'⟩ = zs at *
 generalize cmpSc ⟨h, a, k, p, g, d⟩ ⟨h', a', k', p', g', d'⟩ = R at *
 have H4 := Lib.hid (four w (.cells #[.int .i64 h, .int .i64 a, .int .i64 k, .string p, .int .i64 g, .int .i64 d] 34) (.cells #[.int .i64 h', .int .i64 a', .int .i64 k', .string p', .int .i64 g', .int .i64 d'] 34) (.cells #[.int .i64 a, .int .i64 h, .int .i64 k, .int .i64 d, .int .i64 g] 3) (.cells #[.int .i64 a', .int .i64 h', .int .i64 k', .int .i64 d', .int .i64 g'] 3))
 generalize hB : w.heap.size = B at *
 go_enter Tryz.func78, Tryz.ntmps78
 go_wp2
 clear hB
 generalize (((w.alloc (.cells #[.int .i64 h, .int .i64 a, .int .i64 k, .string p, .int .i64 g, .int .i64 d] 34)).alloc (.cells #[.int .i64 h', .int .i64 a', .int .i64 k', .string p', .int .i64 g', .int .i64 d'] 34)).alloc (.cells #[.int .i64 a, .int .i64 h, .int .i64 k, .int .i64 d, .int .i64 g] 3)).alloc (.cells #[.int .i64 a', .int .i64 h', .int .i64 k', .int .i64 d', .int .i64 g'] 3) = W at *
 obtain ⟨h1, h2, h3, h4, hB0, hz⟩ := H4.out
 clear H4
 have HA := Lib.hid (row6 h1); have HB := Lib.hid (row6 h2); have HX := Lib.hid (row5 h3); have HY := Lib.hid (row5 h4)
 have HB0 := Lib.hid hB0
 clear h1 h2 h3 h4 hB0
 go_loopw [7] (fun i wr => ∃ j : Nat, j ≤ 5 ∧ i = .int .i64 j ∧ Hid (R = orL (zs.drop j)) ∧ Below W.heap.size W wr) (fun i _ => 5 - (intOf i).toNat)
 case atStart => exact ⟨0, by omega, rfl, HST, Below.refl _ _⟩
 case round =>
  obtain ⟨j, hj, rfl, HV, hb⟩ := hrel
  have HBW := Lib.hid (HB0.out.trans (hb.mono (by omega))); clear HB0
  have hW2 : B + 2 < W.heap.size := by omega
  have hW3 : B + 3 < W.heap.size := by omega
  have hW0 : B < W.heap.size := by omega
  have hW1 : B + 1 < W.heap.size := by omega
  have hcase : j = 0 ∨ j = 1 ∨ j = 2 ∨ j = 3 ∨ j = 4 ∨ j = 5 := by omega
  rcases hcase with rfl | rfl | rfl | rfl | rfl | rfl
  ·have c0 := (hb.cell (p := ⟨B + 2, 0, none⟩) hW2).trans HX.out.1
   have c1 := (hb.cell (p := ⟨B + 3, 0, none⟩) hW3).trans HY.out.1
   rcases Int.lt_trichotomy a a' with q | q | q
   ·have HR := Lib.hid (HV.out.trans (HLT.out 0 (by rw [HLZ.out]; decide) (show 0 < 5 by omega) (show 0 < 5 by omega) q))
    clear HV HLT HGT HEQ HEND HX HY HA HB
    go_wp2_with fail
    go_quiet (fail)
    go_wp2
    go_ret
    exact ⟨ret_int HR.out.symm, by first | exact below_drewN HBW.out _ | exact below_drewN (below_drewN HBW.out _) _⟩
   ·have HR := Lib.hid (HV.out.trans (HEQ.out 0 (by rw [HLZ.out]; decide) (show 0 < 5 by omega) (show 0 < 5 by omega) q))
    clear HV HLT HGT HEQ HEND HX HY HA HB
    rw [← q] at c1
    clear q
    go_wp2_with fail
    go_quiet (fail)
    go_wp2
    go_quiet (fail)
    go_wp2
    go_roundw
    case rel => exact ⟨1, by omega, by go_num, HR, below_drewN hb _⟩
    case measure => simp [intOf]
   ·have HR := Lib.hid (HV.out.trans (HGT.out 0 (by rw [HLZ.out]; decide) (show 0 < 5 by omega) (show 0 < 5 by omega) q))
    have q2 : ¬ a < a' := by omega
    clear HV HLT HGT HEQ HEND HX HY HA HB
    go_wp2_with fail
    go_quiet (fail)
    go_wp2
    go_quiet (fail)
    go_wp2
    go_ret
    exact ⟨ret_int HR.out.symm, by first | exact below_drewN HBW.out _ | exact below_drewN (below_drewN HBW.out _) _⟩
  ·have c0 := (hb.cell (p := ⟨B + 2, 1, none⟩) hW2).trans HX.out.2.1
   have c1 := (hb.cell (p := ⟨B + 3, 1, none⟩) hW3).trans HY.out.2.1
   rcases Int.lt_trichotomy h h' with q | q | q
   ·have HR := Lib.hid (HV.out.trans (HLT.out 1 (by rw [HLZ.out]; decide) (show 1 < 5 by omega) (show 1 < 5 by omega) q))
    clear HV HLT HGT HEQ HEND HX HY HA HB
    go_wp2_with fail
    go_quiet (fail)
    go_wp2
    go_ret
    exact ⟨ret_int HR.out.symm, by first | exact below_drewN HBW.out _ | exact below_drewN (below_drewN HBW.out _) _⟩
   ·have HR := Lib.hid (HV.out.trans (HEQ.out 1 (by rw [HLZ.out]; decide) (show 1 < 5 by omega) (show 1 < 5 by omega) q))
    clear HV HLT HGT HEQ HEND HX HY HA HB
    rw [← q] at c1
    clear q
    go_wp2_with fail
    go_quiet (fail)
    go_wp2
    go_quiet (fail)
    go_wp2
    go_roundw
    case rel => exact ⟨2, by omega, by go_num, HR, below_drewN hb _⟩
    case measure => simp [intOf]
   ·have HR := Lib.hid (HV.out.trans (HGT.out 1 (by rw [HLZ.out]; decide) (show 1 < 5 by omega) (show 1 < 5 by omega) q))
    have q2 : ¬ h < h' := by omega
    clear HV HLT HGT HEQ HEND HX HY HA HB
    go_wp2_with fail
    go_quiet (fail)
    go_wp2
    go_quiet (fail)
    go_wp2
    go_ret
    exact ⟨ret_int HR.out.symm, by first | exact below_drewN HBW.out _ | exact below_drewN (below_drewN HBW.out _) _⟩
  ·have c0 := (hb.cell (p := ⟨B + 2, 2, none⟩) hW2).trans HX.out.2.2.1
   have c1 := (hb.cell (p := ⟨B + 3, 2, none⟩) hW3).trans HY.out.2.2.1
   rcases Int.lt_trichotomy k k' with q | q | q
   ·have HR := Lib.hid (HV.out.trans (HLT.out 2 (by rw [HLZ.out]; decide) (show 2 < 5 by omega) (show 2 < 5 by omega) q))
    clear HV HLT HGT HEQ HEND HX HY HA HB
    go_wp2_with fail
    go_quiet (fail)
    go_wp2
    go_ret
    exact ⟨ret_int HR.out.symm, by first | exact below_drewN HBW.out _ | exact below_drewN (below_drewN HBW.out _) _⟩
   ·have HR := Lib.hid (HV.out.trans (HEQ.out 2 (by rw [HLZ.out]; decide) (show 2 < 5 by omega) (show 2 < 5 by omega) q))
    clear HV HLT HGT HEQ HEND HX HY HA HB
    rw [← q] at c1
    clear q
    go_wp2_with fail
    go_quiet (fail)
    go_wp2
    go_quiet (fail)
    go_wp2
    go_roundw
    case rel => exact ⟨3, by omega, by go_num, HR, below_drewN hb _⟩
    case measure => simp [intOf]
   ·have HR := Lib.hid (HV.out.trans (HGT.out 2 (by rw [HLZ.out]; decide) (show 2 < 5 by omega) (show 2 < 5 by omega) q))
    have q2 : ¬ k < k' := by omega
    clear HV HLT HGT HEQ HEND HX HY HA HB
    go_wp2_with fail
    go_quiet (fail)
    go_wp2
    go_quiet (fail)
    go_wp2
    go_ret
    exact ⟨ret_int HR.out.symm, by first | exact below_drewN HBW.out _ | exact below_drewN (below_drewN HBW.out _) _⟩
  ·have c0 := (hb.cell (p := ⟨B + 2, 3, none⟩) hW2).trans HX.out.2.2.2.1
   have c1 := (hb.cell (p := ⟨B + 3, 3, none⟩) hW3).trans HY.out.2.2.2.1
   rcases Int.lt_trichotomy d d' with q | q | q
   ·have HR := Lib.hid (HV.out.trans (HLT.out 3 (by rw [HLZ.out]; decide) (show 3 < 5 by omega) (show 3 < 5 by omega) q))
    clear HV HLT HGT HEQ HEND HX HY HA HB
    go_wp2_with fail
    go_quiet (fail)
    go_wp2
    go_ret
    exact ⟨ret_int HR.out.symm, by first | exact below_drewN HBW.out _ | exact below_drewN (below_drewN HBW.out _) _⟩
   ·have HR := Lib.hid (HV.out.trans (HEQ.out 3 (by rw [HLZ.out]; decide) (show 3 < 5 by omega) (show 3 < 5 by omega) q))
    clear HV HLT HGT HEQ HEND HX HY HA HB
    rw [← q] at c1
    clear q
    go_wp2_with fail
    go_quiet (fail)
    go_wp2
    go_quiet (fail)
    go_wp2
    go_roundw
    case rel => exact ⟨4, by omega, by go_num, HR, below_drewN hb _⟩
    case measure => simp [intOf]
   ·have HR := Lib.hid (HV.out.trans (HGT.out 3 (by rw [HLZ.out]; decide) (show 3 < 5 by omega) (show 3 < 5 by omega) q))
    have q2 : ¬ d < d' := by omega
    clear HV HLT HGT HEQ HEND HX HY HA HB
    go_wp2_with fail
    go_quiet (fail)
    go_wp2
    go_quiet (fail)
    go_wp2
    go_ret
    exact ⟨ret_int HR.out.symm, by first | exact below_drewN HBW.out _ | exact below_drewN (below_drewN HBW.out _) _⟩
  ·have c0 := (hb.cell (p := ⟨B + 2, 4, none⟩) hW2).trans HX.out.2.2.2.2
   have c1 := (hb.cell (p := ⟨B + 3, 4, none⟩) hW3).trans HY.out.2.2.2.2
   rcases Int.lt_trichotomy g g' with q | q | q
   ·have HR := Lib.hid (HV.out.trans (HLT.out 4 (by rw [HLZ.out]; decide) (show 4 < 5 by omega) (show 4 < 5 by omega) q))
    clear HV HLT HGT HEQ HEND HX HY HA HB
    go_wp2_with fail
    go_quiet (fail)
    go_wp2
    go_ret
    exact ⟨ret_int HR.out.symm, by first | exact below_drewN HBW.out _ | exact below_drewN (below_drewN HBW.out _) _⟩
   ·have HR := Lib.hid (HV.out.trans (HEQ.out 4 (by rw [HLZ.out]; decide) (show 4 < 5 by omega) (show 4 < 5 by omega) q))
    clear HV HLT HGT HEQ HEND HX HY HA HB
    rw [← q] at c1
    clear q
    go_wp2_with fail
    go_quiet (fail)
    go_wp2
    go_quiet (fail)
    go_wp2
    go_roundw
    case rel => exact ⟨5, by omega, by go_num, HR, below_drewN hb _⟩
    case measure => simp [intOf]
   ·have HR := Lib.hid (HV.out.trans (HGT.out 4 (by rw [HLZ.out]; decide) (show 4 < 5 by omega) (show 4 < 5 by omega) q))
    have q2 : ¬ g < g' := by omega
    clear HV HLT HGT HEQ HEND HX HY HA HB
    go_wp2_with fail
    go_quiet (fail)
    go_wp2
    go_quiet (fail)
    go_wp2
    go_ret
    exact ⟨ret_int HR.out.symm, by first | exact below_drewN HBW.out _ | exact below_drewN (below_drewN HBW.out _) _⟩
  ·have HR := Lib.hid (HV.out.trans HEND.out)
   have a3 := (hb.cell (p := ⟨B, 3, none⟩) hW0).trans HA.out.2.2.2.1
   have b3 := (hb.cell (p := ⟨B + 1, 3, none⟩) hW1).trans HB.out.2.2.2.1
   clear HV HLT HGT HEQ HEND HX HY HA HB
   cases e1 : Op.bytesLess p.toList p'.toList with
   | true =>
    have HS := Lib.hid (HR.out.trans (show cmpS p p' = -1 by unfold cmpS; rw [if_pos e1]))
    go_wp2
    go_ret
    exact ⟨ret_int HS.out.symm, HBW.out⟩
   | false =>
    cases e2 : Op.bytesLess p'.toList p.toList with
    | true =>
     have e3 : (p.toList == p'.toList) = false := beq_eq_false_iff_ne.2 (fun e => by rw [e, bl_irrefl] at e2; cases e2)
     have e4 : ¬ p.toList = p'.toList := fun e => by rw [e, bl_irrefl] at e2; cases e2
     have HS := Lib.hid (HR.out.trans (show cmpS p p' = 1 by unfold cmpS; rw [if_neg (by rw [e1]; decide), if_neg (fun e => by rw [e, bl_irrefl] at e2; cases e2)]))
     go_wp2
     go_ret
     exact ⟨ret_int HS.out.symm, HBW.out⟩
    | false =>
     have e3 : (p.toList == p'.toList) = true := by rw [bl_total _ _ e1 e2]; exact beq_self_eq_true _
     have HS := Lib.hid (HR.out.trans (show cmpS p p' = 0 by unfold cmpS; rw [if_neg (by rw [e1]; decide), if_pos (bl_total _ _ e1 e2)]))
     go_wp2
     go_ret
     exact ⟨ret_int HS.out.symm, HBW.out⟩
end Go.Proofs.YtinijleelhbpoaaGreat

/- CompareScans, with what it lays. Out of mk/sccmp2.py. -/
namespace Go.Proofs.YtinijleelhbpoaaGreat
open Go.RowKit
set_option maxRecDepth 100000 in
set_option maxHeartbeats 2000000 in
theorem cmp_sc_w (h a k : Int) (p : ByteArray) (g d h' a' k' : Int) (p' : ByteArray) (g' d' : Int) (w : World) :
  Calls Tryz.prog 19 #[.agg #[.int .i64 h, .int .i64 a, .int .i64 k, .string p, .int .i64 g, .int .i64 d], .agg #[.int .i64 h', .int .i64 a', .int .i64 k', .string p', .int .i64 g', .int .i64 d']] w fun e w' => e = .returned (.int .i64 (cmpSc ⟨h, a, k, p, g, d⟩ ⟨h', a', k', p', g', d'⟩)) ∧ ∃ o1 o2 o3 : Obj, w' = (((w.alloc o1).alloc o2).drew).alloc o3 := by
 have H2 := Lib.hid (two w (.cells #[.int .i64 h, .int .i64 a, .int .i64 k, .string p, .int .i64 g, .int .i64 d] 34) (.cells #[.int .i64 h', .int .i64 a', .int .i64 k', .string p', .int .i64 g', .int .i64 d'] 34))
 have HOR := Lib.hid (fun g0 q w0 hc => or_list (scL ⟨h, a, k, p, g, d⟩ ⟨h', a', k', p', g', d'⟩) g0 q w0 hc (by simp [scL]))
 have HE := Lib.hid (show cmpSc ⟨h, a, k, p, g, d⟩ ⟨h', a', k', p', g', d'⟩ = orL (scL ⟨h, a, k, p, g, d⟩ ⟨h', a', k', p', g', d'⟩) from rfl)
 generalize cmpSc ⟨h, a, k, p, g, d⟩ ⟨h', a', k', p', g', d'⟩ = R at *
 generalize hB : w.heap.size = B at *
 have HBE := Lib.hid hB
 go_enter Tryz.func19, Tryz.ntmps19
 go_wp2
 clear hB
 obtain ⟨W, hWW⟩ : ∃ W, W = (w.alloc (.cells #[.int .i64 h, .int .i64 a, .int .i64 k, .string p, .int .i64 g, .int .i64 d] 34)).alloc (.cells #[.int .i64 h', .int .i64 a', .int .i64 k', .string p', .int .i64 g', .int .i64 d'] 34) := ⟨_, rfl⟩
 rw [← hWW] at H2 ⊢
 have HWW := Lib.hid hWW; clear hWW
 obtain ⟨h1, h2, h3, h4⟩ := H2.out
 clear H2
 refine wp_region_still_tail 34 (by kernel_rfl) (by kernel_rfl) ?_
 obtain ⟨X, hX⟩ : ∃ X, X = W.drew := ⟨_, rfl⟩
 change wpStill _ _ W.drew (fun a' => wpList _ _ _ _ a' W.drew) _ _
 rw [← hX]
 obtain ⟨c0, c1, c2, c3, c4, c5⟩ := row6 (show X.heap[B]? = _ by rw [hX]; exact h1)
 obtain ⟨d0, d1, d2, d3, d4, d5⟩ := row6 (show X.heap[B + 1]? = _ by rw [hX]; exact h2)
 have HXX := Lib.hid hX
 clear hX h1 h2 h3 h4
 simp only [List.take_succ_cons, List.take_zero, List.drop_succ_cons, List.drop_zero]
 repeat still_step
 still_call ((cmp_int _ _ _).mono fun _ _ ⟨h1, h2⟩ => ⟨h1, h2.symm⟩)
 repeat still_step
 still_call ((cmp_int _ _ _).mono fun _ _ ⟨h1, h2⟩ => ⟨h1, h2.symm⟩)
 repeat still_step
 still_call ((cmp_int _ _ _).mono fun _ _ ⟨h1, h2⟩ => ⟨h1, h2.symm⟩)
 repeat still_step
 still_call ((cmp_int _ _ _).mono fun _ _ ⟨h1, h2⟩ => ⟨h1, h2.symm⟩)
 repeat still_step
 still_call ((cmp_int _ _ _).mono fun _ _ ⟨h1, h2⟩ => ⟨h1, h2.symm⟩)
 repeat still_step
 still_call ((cmp_str _ _ _).mono fun _ _ ⟨h1, h2⟩ => ⟨h1, h2.symm⟩)
 repeat still_step
 refine wpStill_nil ?_
 go_wp2_with fail
 refine (HOR.out _ _ _ ?_).mono ?_
 ·intro j hj
  have hj6 : j < 6 := hj
  have hcase : j = 0 ∨ j = 1 ∨ j = 2 ∨ j = 3 ∨ j = 4 ∨ j = 5 := by omega
  rcases hcase with rfl | rfl | rfl | rfl | rfl | rfl <;> (simp [scL]; try go_simp)
 rintro e w' ⟨rfl, rfl⟩
 go_wp2
 go_ret
 exact ⟨ret_int HE.out.symm, _, _, _, by rw [HXX.out, HWW.out]⟩
end Go.Proofs.YtinijleelhbpoaaGreat

/- The order of scans is one; lists in it, each scan once. No program. -/
namespace Go.Proofs.YtinijleelhbpoaaGreat
open Go.RowKit Go.Sort
/-- what compares as an order does -/
structure Cmp3 (c : Sc → Sc → Int) : Prop where
 neg : ∀ a b, c b a = - c a b
 tr : ∀ a b d, c a b ≤ 0 → c b d ≤ 0 → c a d ≤ 0 ∧ (c a d = 0 → c a b = 0 ∧ c b d = 0)
def lexC (c c' : Sc → Sc → Int) (a b : Sc) : Int := if c a b = 0 then c' a b else c a b
theorem Cmp3.lex {c c' : Sc → Sc → Int} (h : Cmp3 c) (h' : Cmp3 c') : Cmp3 (lexC c c') := by
 refine ⟨fun a b => ?_, fun a b d h1 h2 => ?_⟩
 ·have := h.neg a b
  have := h'.neg a b
  unfold lexC
  by_cases e : c a b = 0
  ·rw [if_pos e, if_pos (by omega)]; omega
  ·rw [if_neg e, if_neg (by omega)]; omega
 ·unfold lexC at h1 h2 ⊢
  have hn1 := h.neg a b; have hn2 := h.neg b d; have hn3 := h.neg a d
  by_cases e1 : c a b = 0
  ·by_cases e2 : c b d = 0
   ·rw [if_pos e1] at h1; rw [if_pos e2] at h2
    have t1 := h.tr a b d (by omega) (by omega)
    have t2 := h.tr d b a (by omega) (by omega)
    have e3 : c a d = 0 := by have := h.neg d a; omega
    rw [if_pos e3, if_pos e1, if_pos e2]
    exact h'.tr a b d h1 h2
   ·rw [if_pos e1] at h1; rw [if_neg e2] at h2
    have t1 := h.tr a b d (by omega) (by omega)
    have e3 : c a d ≠ 0 := fun e => e2 (t1.2 e).2
    rw [if_neg e3, if_pos e1, if_neg e2]
    exact ⟨t1.1, fun e => absurd e e3⟩
  ·rw [if_neg e1] at h1
   have h2' : c b d ≤ 0 := by
    by_cases e2 : c b d = 0
    ·omega
    ·rw [if_neg e2] at h2; exact h2
   have t1 := h.tr a b d h1 h2'
   have e3 : c a d ≠ 0 := fun e => e1 (t1.2 e).1
   rw [if_neg e3, if_neg e1]
   exact ⟨t1.1, fun e => absurd e e3⟩
theorem cmpI3 (f : Sc → Int) : Cmp3 (fun a b => cmpI (f a) (f b)) := by
 refine ⟨fun a b => ?_, fun a b d h1 h2 => ?_⟩
 ·rcases cmpI_cases (f a) (f b) with ⟨_, e⟩ | ⟨_, e⟩ | ⟨_, e⟩ <;> rcases cmpI_cases (f b) (f a) with ⟨_, e'⟩ | ⟨_, e'⟩ | ⟨_, e'⟩ <;> omega
 ·rcases cmpI_cases (f a) (f b) with ⟨_, e⟩ | ⟨_, e⟩ | ⟨_, e⟩ <;> rcases cmpI_cases (f b) (f d) with ⟨_, e'⟩ | ⟨_, e'⟩ | ⟨_, e'⟩ <;> rcases cmpI_cases (f a) (f d) with ⟨_, e''⟩ | ⟨_, e''⟩ | ⟨_, e''⟩ <;> omega
theorem cmpS3 : Cmp3 (fun a b => cmpS a.p b.p) := by
 refine ⟨fun a b => cmpS_neg a.p b.p, fun a b d h1 h2 => ⟨cmpS_trans _ _ _ h1 h2, fun e => ?_⟩⟩
 have e' := (cmpS_zero _ _).1 e
 have h3 : cmpS d.p a.p ≤ 0 := by rw [cmpS_neg a.p d.p]; omega
 have h4 := cmpS_trans _ _ _ h2 h3
 have h5 := cmpS_trans _ _ _ h3 h1
 have := cmpS_neg a.p b.p
 have := cmpS_neg b.p d.p
 constructor <;> omega
def cmp6 : Sc → Sc → Int := lexC (fun a b => cmpI a.a b.a) (lexC (fun a b => cmpI a.h b.h) (lexC (fun a b => cmpI a.k b.k) (lexC (fun a b => cmpI a.d b.d) (lexC (fun a b => cmpI a.g b.g) (fun a b => cmpS a.p b.p)))))
theorem cmp6_eq (a b : Sc) : cmpSc a b = cmp6 a b := by
 have hz : ∀ x : Int, (if x = 0 then 0 else x) = x := fun x => by split <;> omega
 show orL (scL a b) = _
 unfold scL cmp6 lexC orL orL orL orL orL orL orL
 rw [hz]
theorem cmp6_ord : Cmp3 cmp6 := (cmpI3 _).lex ((cmpI3 _).lex ((cmpI3 _).lex ((cmpI3 _).lex ((cmpI3 _).lex cmpS3))))
theorem cmpSc_neg (a b : Sc) : cmpSc b a = - cmpSc a b := by rw [cmp6_eq, cmp6_eq]; exact cmp6_ord.neg a b
theorem cmpSc_tr (a b d : Sc) (h1 : cmpSc a b ≤ 0) (h2 : cmpSc b d ≤ 0) : cmpSc a d ≤ 0 ∧ (cmpSc a d = 0 → cmpSc a b = 0 ∧ cmpSc b d = 0) := by
 simp only [cmp6_eq] at *; exact cmp6_ord.tr a b d h1 h2
theorem cmpI_zero {a b : Int} (h : cmpI a b = 0) : a = b := by rcases cmpI_cases a b with ⟨_, e⟩ | ⟨e, _⟩ | ⟨_, e⟩ <;> omega
theorem toList_inj {p q : ByteArray} (h : p.toList = q.toList) : p = q := by
 rw [ByteArray.toList_eq, ByteArray.toList_eq] at h
 obtain ⟨⟨a⟩⟩ := p; obtain ⟨⟨b⟩⟩ := q
 exact congrArg (fun l => (⟨⟨l⟩⟩ : ByteArray)) h
theorem cmpSc_zero {a b : Sc} (h : cmpSc a b = 0) : a = b := by
 rw [cmp6_eq] at h
 unfold cmp6 lexC at h
 by_cases e1 : cmpI a.a b.a = 0
 ·by_cases e2 : cmpI a.h b.h = 0
  ·by_cases e3 : cmpI a.k b.k = 0
   ·by_cases e4 : cmpI a.d b.d = 0
    ·by_cases e5 : cmpI a.g b.g = 0
     ·rw [if_pos e1, if_pos e2, if_pos e3, if_pos e4, if_pos e5] at h
      have h6 := toList_inj ((cmpS_zero _ _).1 h)
      have h1 := cmpI_zero e1; have h2 := cmpI_zero e2; have h3 := cmpI_zero e3; have h4 := cmpI_zero e4; have h5 := cmpI_zero e5
      cases a; cases b
      simp only at h1 h2 h3 h4 h5 h6
      subst h1 h2 h3 h4 h5 h6
      rfl
     ·rw [if_pos e1, if_pos e2, if_pos e3, if_pos e4, if_neg e5] at h; exact absurd h e5
    ·rw [if_pos e1, if_pos e2, if_pos e3, if_neg e4] at h; exact absurd h e4
   ·rw [if_pos e1, if_pos e2, if_neg e3] at h; exact absurd h e3
  ·rw [if_pos e1, if_neg e2] at h; exact absurd h e2
 ·rw [if_neg e1] at h; exact absurd h e1
theorem cmpSc_self (a : Sc) : cmpSc a a = 0 := by have := cmpSc_neg a a; omega
theorem cmpSc_lt_trans {a b d : Sc} (h1 : cmpSc a b < 0) (h2 : cmpSc b d < 0) : cmpSc a d < 0 := by
 have := cmpSc_tr a b d (by omega) (by omega)
 have h3 : cmpSc a d ≠ 0 := fun e => by have := (this.2 e).1; omega
 omega
theorem swoSc : SWO (ltOf cmpSc) :=
 ⟨fun x => by unfold ltOf; rw [cmpSc_self]; rfl, fun x y z h1 h2 => by unfold ltOf at *; simp only [decide_eq_true_eq] at *; exact cmpSc_lt_trans h1 h2, fun x y z h1 h2 => by
  unfold ltOf at *; simp only [decide_eq_false_iff_not] at *
  have a1 := cmpSc_neg x y; have a2 := cmpSc_neg y z; have a3 := cmpSc_neg x z
  have := cmpSc_tr z y x (by omega) (by omega)
  omega⟩
theorem totSc (x y : Sc) (h1 : ltOf cmpSc x y = false) (h2 : ltOf cmpSc y x = false) : x = y := by
 unfold ltOf at *; simp only [decide_eq_false_iff_not] at *
 have := cmpSc_neg x y
 exact cmpSc_zero (by omega)
/-- in strictly ascending order -/
abbrev UpSc (l : List Sc) : Prop := l.Pairwise fun a b => cmpSc a b < 0
theorem up_uniq : ∀ {l m : List Sc}, UpSc l → UpSc m → (∀ y, y ∈ l ↔ y ∈ m) → l = m
 | [], [], _, _, _ => rfl
 | [], b :: m, _, _, h => absurd ((h b).2 (List.mem_cons_self ..)) (by simp)
 | a :: l, [], _, _, h => absurd ((h a).1 (List.mem_cons_self ..)) (by simp)
 | a :: l, b :: m, h1, h2, h => by
  obtain ⟨ha, hl⟩ := List.pairwise_cons.1 h1
  obtain ⟨hb, hm⟩ := List.pairwise_cons.1 h2
  have hab : a = b := by
   rcases List.mem_cons.1 ((h a).1 (List.mem_cons_self ..)) with e | e
   ·exact e
   ·rcases List.mem_cons.1 ((h b).2 (List.mem_cons_self ..)) with e' | e'
    ·exact e'.symm
    ·have := hb a e; have := ha b e'; have := cmpSc_neg a b; omega
  subst hab
  have : l = m := up_uniq hl hm (fun y => by
   have hy := h y
   constructor
   ·intro hyl
    rcases List.mem_cons.1 (hy.1 (List.mem_cons_of_mem _ hyl)) with e | e
    ·have := ha y hyl; rw [e, cmpSc_self] at this; omega
    ·exact e
   ·intro hym
    rcases List.mem_cons.1 (hy.2 (List.mem_cons_of_mem _ hym)) with e | e
    ·have := hb y hym; rw [e, cmpSc_self] at this; omega
    ·exact e)
  rw [this]
/-- a scan put where it belongs -/
theorem up_ins {out : List Sc} {y : Sc} {k : Nat} (hu : UpSc out) (hk : k ≤ out.length) (h1 : ∀ j (_ : j < k) (hj : j < out.length), cmpSc out[j] y < 0) (h2 : ∀ h : k < out.length, 0 < cmpSc out[k] y) : UpSc (out.take k ++ y :: out.drop k) := by
 have hd : ∀ b ∈ out.drop k, cmpSc y b < 0 := fun b hb => by
  obtain ⟨j, hj, rfl⟩ := List.getElem_of_mem hb
  rw [List.length_drop] at hj
  rw [List.getElem_drop]
  have h3 := h2 (by omega)
  have h4 := cmpSc_neg (out[k]'(by omega)) y
  by_cases e : j = 0
  ·subst e; have e2 : out[k + 0]'(by omega) = out[k]'(by omega) := rfl
   rw [e2]; omega
  ·have h5 := List.pairwise_iff_getElem.1 hu k (k + j) (by omega) (by omega) (by omega)
   exact cmpSc_lt_trans (by omega) h5
 refine List.pairwise_append.2 ⟨hu.sublist (List.take_sublist _ _), List.pairwise_cons.2 ⟨hd, hu.sublist (List.drop_sublist _ _)⟩, fun a ha b hb => ?_⟩
 obtain ⟨j, hj, rfl⟩ := List.getElem_of_mem ha
 rw [List.length_take] at hj
 rw [List.getElem_take]
 have h6 := h1 j (by omega) (by omega)
 rcases List.mem_cons.1 hb with e | e
 ·rw [e]; exact h6
 ·exact cmpSc_lt_trans h6 (hd b e)
theorem mem_ins {out : List Sc} {y z : Sc} {k : Nat} : z ∈ out.take k ++ y :: out.drop k ↔ z = y ∨ z ∈ out := by
 have h : z ∈ out ↔ z ∈ out.take k ∨ z ∈ out.drop k := by
  conv => lhs; rw [← List.take_append_drop k out]
  exact List.mem_append
 rw [List.mem_append, List.mem_cons, h]
 constructor
 ·rintro (h | h | h)
  ·exact .inr (.inl h)
  ·exact .inl h
  ·exact .inr (.inr h)
 ·rintro (h | h | h)
  ·exact .inr (.inl h)
  ·exact .inl h
  ·exact .inr (.inr h)
end Go.Proofs.YtinijleelhbpoaaGreat

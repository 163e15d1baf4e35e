/- The order of scans: cmp.Or of any list, both texts of CompareScans. Written by mk/sccmp.py. -/
import Derived.Test.YtamlbiagjipedaaGreatBg
import Derived.Test.YtamlbiagjipedaaGreatCmp
import Derived.Test.YtamlbiagjipedaaGreatBa
import Derived.StillTailTactics
import Derived.BigQuiet
namespace Go.Proofs.YtamlbiagjipedaaGreat
open Go.RowKit
/-- the first one that is not 0 -/
def orL : List Int → Int
  | [] => 0
  | a :: l => if a = 0 then orL l else a
theorem orL_drop {l : List Int} {k : Nat} (hk : k < l.length) : orL (l.drop k) = if l[k] = 0 then orL (l.drop (k + 1)) else l[k] := by
  rw [List.drop_eq_getElem_cons hk]; rfl
set_option maxRecDepth 100000 in
set_option maxHeartbeats 1000000 in
theorem or_list (l : List Int) (g q : Nat) (w : World) (hc : ∀ j (hj : j < l.length), w.cell? ⟨g, j, none⟩ = some (.int .i64 l[j])) (hn : l.length ≤ 1000) :
    Calls Tryz.prog 65 #[.slice (some ⟨g, 0, none⟩) l.length q] w fun e w' => e = .returned (.int .i64 (orL l)) ∧ w = w' := by
  have HC := Lib.hid hc; clear hc
  have HO := Lib.hid (fun (k : Nat) (hk : k < l.length) => orL_drop hk)
  go_enter Tryz.func65, Tryz.ntmps65
  go_wp2
  go_loop [8] (fun i => ∃ j : Nat, j ≤ l.length ∧ i = .int .i64 j ∧ Hid (orL l = orL (l.drop j))) (fun i => l.length - (intOf i).toNat)
  case atStart => exact ⟨0, Nat.zero_le _, rfl, Lib.hid rfl⟩
  case round =>
    obtain ⟨j, hj, rfl, HV⟩ := hrel
    by_cases hlt : (j : Int) < (l.length : Int)
    · have hjn : j < l.length := by omega
      have c0 := HC.out j hjn
      have HS := Lib.hid (HV.out.trans (HO.out j hjn)); clear HV
      obtain ⟨y, hy⟩ : ∃ y, y = l[j] := ⟨_, rfl⟩
      rw [← hy] at c0 HS
      clear hy
      by_cases h : y = 0
      · have HN := Lib.hid (HS.out.trans (if_pos h)); clear HS
        subst h
        go_wp2
        go_round
        case rel => exact ⟨j + 1, by omega, by go_num, HN⟩
        case measure => simp [intOf]; omega
      · have HN := Lib.hid (HS.out.trans (if_neg h)); clear HS
        have hd : (y == 0) = false := beq_eq_false_iff_ne.2 h
        have hd2 : (y != 0) = true := by simp [h]
        clear h
        go_wp2
        go_ret
        exact ⟨ret_int HN.out.symm, rfl⟩
    · obtain rfl : j = l.length := by omega
      have HN := Lib.hid (HV.out.trans (show orL (l.drop l.length) = 0 by rw [List.drop_length]; rfl)); clear HV
      go_wp2
      go_ret
      exact ⟨ret_int HN.out.symm, rfl⟩
/-- by time, thing, kind, day, leg, place -/
def scL (a b : Sc) : List Int := [cmpI a.a b.a, cmpI a.h b.h, cmpI a.k b.k, cmpI a.d b.d, cmpI a.g b.g, cmpS a.p b.p]
def cmpSc (a b : Sc) : Int := orL (scL a b)
set_option maxRecDepth 100000 in
set_option maxHeartbeats 2000000 in
theorem cmp_sc_impl (h a k : Int) (p : ByteArray) (g d h' a' k' : Int) (p' : ByteArray) (g' d' : Int) (w : World) :
    Calls Tryz.prog 18 #[.agg #[.int .i64 h, .int .i64 a, .int .i64 k, .string p, .int .i64 g, .int .i64 d], .agg #[.int .i64 h', .int .i64 a', .int .i64 k', .string p', .int .i64 g', .int .i64 d']] w fun e w' => e = .returned (.int .i64 (cmpSc ⟨h, a, k, p, g, d⟩ ⟨h', a', k', p', g', d'⟩)) ∧ Below w.heap.size w w' := by
  have H2 := Lib.hid (two w (.cells #[.int .i64 h, .int .i64 a, .int .i64 k, .string p, .int .i64 g, .int .i64 d] 34) (.cells #[.int .i64 h', .int .i64 a', .int .i64 k', .string p', .int .i64 g', .int .i64 d'] 34))
  have HOR := Lib.hid (fun g0 q w0 hc => or_list (scL ⟨h, a, k, p, g, d⟩ ⟨h', a', k', p', g', d'⟩) g0 q w0 hc (by simp [scL]))
  have HE := Lib.hid (show cmpSc ⟨h, a, k, p, g, d⟩ ⟨h', a', k', p', g', d'⟩ = orL (scL ⟨h, a, k, p, g, d⟩ ⟨h', a', k', p', g', d'⟩) from rfl)
  generalize cmpSc ⟨h, a, k, p, g, d⟩ ⟨h', a', k', p', g', d'⟩ = R at *
  generalize hB : w.heap.size = B at *
  have HBE := Lib.hid hB
  go_enter Tryz.func18, Tryz.ntmps18
  go_wp2
  clear hB
  generalize (w.alloc (.cells #[.int .i64 h, .int .i64 a, .int .i64 k, .string p, .int .i64 g, .int .i64 d] 34)).alloc (.cells #[.int .i64 h', .int .i64 a', .int .i64 k', .string p', .int .i64 g', .int .i64 d'] 34) = W at *
  obtain ⟨h1, h2, h3, h4⟩ := H2.out
  clear H2
  refine wp_region_still_tail 34 (by kernel_rfl) (by kernel_rfl) ?_
  obtain ⟨X, hX⟩ : ∃ X, X = W.drew := ⟨_, rfl⟩
  change wpStill _ _ W.drew (fun a' => wpList _ _ _ _ a' W.drew) _ _
  rw [← hX]
  obtain ⟨c0, c1, c2, c3, c4, c5⟩ := row6 (show X.heap[B]? = _ by rw [hX]; exact h1)
  obtain ⟨d0, d1, d2, d3, d4, d5⟩ := row6 (show X.heap[B + 1]? = _ by rw [hX]; exact h2)
  have hb' : Below B w X := by rw [hX]; exact h3.drew
  have hzX : X.heap.size = B + 2 := by rw [hX]; exact h4
  clear hX h1 h2 h3 h4
  simp only [List.take_succ_cons, List.take_zero, List.drop_succ_cons, List.drop_zero]
  repeat still_step
  still_call ((cmp_int _ _ _).mono fun _ _ ⟨h1, h2⟩ => ⟨h1, h2.symm⟩)
  repeat still_step
  still_call ((cmp_int _ _ _).mono fun _ _ ⟨h1, h2⟩ => ⟨h1, h2.symm⟩)
  repeat still_step
  still_call ((cmp_int _ _ _).mono fun _ _ ⟨h1, h2⟩ => ⟨h1, h2.symm⟩)
  repeat still_step
  still_call ((cmp_int _ _ _).mono fun _ _ ⟨h1, h2⟩ => ⟨h1, h2.symm⟩)
  repeat still_step
  still_call ((cmp_int _ _ _).mono fun _ _ ⟨h1, h2⟩ => ⟨h1, h2.symm⟩)
  repeat still_step
  still_call ((cmp_str _ _ _).mono fun _ _ ⟨h1, h2⟩ => ⟨h1, h2.symm⟩)
  repeat still_step
  refine wpStill_nil ?_
  have HBX := Lib.hid hb'; clear hb'
  go_wp2_with fail
  refine (HOR.out _ _ _ ?_).mono ?_
  · intro j hj
    have hj6 : j < 6 := hj
    have hcase : j = 0 ∨ j = 1 ∨ j = 2 ∨ j = 3 ∨ j = 4 ∨ j = 5 := by omega
    rcases hcase with rfl | rfl | rfl | rfl | rfl | rfl <;> (simp [scL]; try go_simp)
  rintro e w' ⟨rfl, rfl⟩
  go_wp2
  go_ret
  exact ⟨ret_int HE.out.symm, HBX.out.alloc (by omega) _⟩
theorem row5 {W : World} {B : Nat} {T : TypeId} {v0 v1 v2 v3 v4 : Value} (h : W.heap[B]? = some (.cells #[v0, v1, v2, v3, v4] T (0, 0))) : W.cell? ⟨B, 0, none⟩ = some v0 ∧ W.cell? ⟨B, 1, none⟩ = some v1 ∧ W.cell? ⟨B, 2, none⟩ = some v2 ∧ W.cell? ⟨B, 3, none⟩ = some v3 ∧ W.cell? ⟨B, 4, none⟩ = some v4 := by
  refine ⟨?_, ?_, ?_, ?_, ?_⟩ <;> (rw [cell_of_row W B _ _ _ _ h]; rfl)
theorem four (w : World) (C1 C2 C3 C4 : Obj) : ((((w.alloc C1).alloc C2).alloc C3).alloc C4).heap[w.heap.size]? = some C1 ∧ ((((w.alloc C1).alloc C2).alloc C3).alloc C4).heap[w.heap.size + 1]? = some C2 ∧ ((((w.alloc C1).alloc C2).alloc C3).alloc C4).heap[w.heap.size + 2]? = some C3 ∧ ((((w.alloc C1).alloc C2).alloc C3).alloc C4).heap[w.heap.size + 3]? = some C4 ∧ Below w.heap.size w ((((w.alloc C1).alloc C2).alloc C3).alloc C4) ∧ ((((w.alloc C1).alloc C2).alloc C3).alloc C4).heap.size = w.heap.size + 4 := by
  obtain ⟨h1, h2, h3, h4, h5⟩ := three w C1 C2 C3
  generalize ((w.alloc C1).alloc C2).alloc C3 = V at *
  refine ⟨?_, ?_, ?_, ?_, h4.alloc (by omega) C4, by simp [h5]⟩
  · rw [Below.heap_alloc _ _ _ (by omega)]; exact h1
  · rw [Below.heap_alloc _ _ _ (by omega)]; exact h2
  · rw [Below.heap_alloc _ _ _ (by omega)]; exact h3
  · rw [← h5]; exact heap_alloc_new V C4
theorem scL_get (a b : Sc) : scL a b = [cmpI a.a b.a, cmpI a.h b.h, cmpI a.k b.k, cmpI a.d b.d, cmpI a.g b.g] ++ [cmpS a.p b.p] := rfl
theorem orL_ne {l : List Int} {k : Nat} (hk : k < l.length) (h : l[k] ≠ 0) : orL (l.drop k) = l[k] := by rw [orL_drop hk, if_neg h]
theorem orL_eq {l : List Int} {k : Nat} (hk : k < l.length) (h : l[k] = 0) : orL (l.drop k) = orL (l.drop (k + 1)) := by rw [orL_drop hk, if_pos h]
theorem cmpI_lt' {a b : Int} (h : a < b) : cmpI a b = -1 := by unfold cmpI; rw [if_pos h]
theorem cmpI_gt' {a b : Int} (h : b < a) : cmpI a b = 1 := by unfold cmpI; rw [if_neg (by omega), if_pos h]
theorem cmpI_eq' (a : Int) : cmpI a a = 0 := by unfold cmpI; rw [if_neg (by omega), if_neg (by omega)]
theorem cmpSc_lt {xs ys zs : List Int} {k : Nat} (hz : ∀ j (h1 : j < zs.length) (h2 : j < xs.length) (h3 : j < ys.length), zs[j] = cmpI xs[j] ys[j]) (h1 : k < zs.length) (h2 : k < xs.length) (h3 : k < ys.length) (h : xs[k] < ys[k]) : orL (zs.drop k) = -1 := by
  rw [orL_drop h1, hz k h1 h2 h3, cmpI_lt' h]; rfl
theorem cmpSc_gt {xs ys zs : List Int} {k : Nat} (hz : ∀ j (h1 : j < zs.length) (h2 : j < xs.length) (h3 : j < ys.length), zs[j] = cmpI xs[j] ys[j]) (h1 : k < zs.length) (h2 : k < xs.length) (h3 : k < ys.length) (h : ys[k] < xs[k]) : orL (zs.drop k) = 1 := by
  rw [orL_drop h1, hz k h1 h2 h3, cmpI_gt' h]; rfl
theorem cmpSc_eq {xs ys zs : List Int} {k : Nat} (hz : ∀ j (h1 : j < zs.length) (h2 : j < xs.length) (h3 : j < ys.length), zs[j] = cmpI xs[j] ys[j]) (h1 : k < zs.length) (h2 : k < xs.length) (h3 : k < ys.length) (h : xs[k] = ys[k]) : orL (zs.drop k) = orL (zs.drop (k + 1)) := by
  rw [orL_drop h1, hz k h1 h2 h3, h, cmpI_eq']; rfl
def scI (a : Sc) : List Int := [a.a, a.h, a.k, a.d, a.g]
theorem scL_cmp (a b : Sc) : ∀ j (_h1 : j < (scL a b).length) (_h2 : j < (scI a).length) (_h3 : j < (scI b).length), (scL a b)[j] = cmpI ((scI a)[j]) ((scI b)[j]) := by
  intro j _ h2 _
  have h5 : j < 5 := h2
  have hcase : j = 0 ∨ j = 1 ∨ j = 2 ∨ j = 3 ∨ j = 4 := by omega
  rcases hcase with rfl | rfl | rfl | rfl | rfl <;> rfl
set_option maxRecDepth 100000 in
set_option maxHeartbeats 4000000 in
theorem cmp_sc_spec (h a k : Int) (p : ByteArray) (g d h' a' k' : Int) (p' : ByteArray) (g' d' : Int) (w : World) :
    Calls Tryz.prog 64 #[.agg #[.int .i64 h, .int .i64 a, .int .i64 k, .string p, .int .i64 g, .int .i64 d], .agg #[.int .i64 h', .int .i64 a', .int .i64 k', .string p', .int .i64 g', .int .i64 d']] w fun e w' => e = .returned (.int .i64 (cmpSc ⟨h, a, k, p, g, d⟩ ⟨h', a', k', p', g', d'⟩)) ∧ Below w.heap.size w w' := by
  have HLT := Lib.hid (fun (j : Nat) hh1 hh2 hh3 => cmpSc_lt (k := j) (scL_cmp ⟨h, a, k, p, g, d⟩ ⟨h', a', k', p', g', d'⟩) hh1 hh2 hh3)
  have HGT := Lib.hid (fun (j : Nat) hh1 hh2 hh3 => cmpSc_gt (k := j) (scL_cmp ⟨h, a, k, p, g, d⟩ ⟨h', a', k', p', g', d'⟩) hh1 hh2 hh3)
  have HEQ := Lib.hid (fun (j : Nat) hh1 hh2 hh3 => cmpSc_eq (k := j) (scL_cmp ⟨h, a, k, p, g, d⟩ ⟨h', a', k', p', g', d'⟩) hh1 hh2 hh3)
  have HEND := Lib.hid (show orL ((scL ⟨h, a, k, p, g, d⟩ ⟨h', a', k', p', g', d'⟩).drop 5) = cmpS p p' by show (if cmpS p p' = 0 then 0 else cmpS p p') = cmpS p p'; split <;> simp_all)
  have HST := Lib.hid (show cmpSc ⟨h, a, k, p, g, d⟩ ⟨h', a', k', p', g', d'⟩ = orL ((scL ⟨h, a, k, p, g, d⟩ ⟨h', a', k', p', g', d'⟩).drop 0) from rfl)
  have HLZ := Lib.hid (show (scL ⟨h, a, k, p, g, d⟩ ⟨h', a', k', p', g', d'⟩).length = 6 from rfl)
  generalize scL ⟨h, a, k, p, g, d⟩ ⟨h', a', k', p', g', d'⟩ = zs at *
  generalize cmpSc ⟨h, a, k, p, g, d⟩ ⟨h', a', k', p', g', d'⟩ = R at *
  have H4 := Lib.hid (four w (.cells #[.int .i64 h, .int .i64 a, .int .i64 k, .string p, .int .i64 g, .int .i64 d] 34) (.cells #[.int .i64 h', .int .i64 a', .int .i64 k', .string p', .int .i64 g', .int .i64 d'] 34) (.cells #[.int .i64 a, .int .i64 h, .int .i64 k, .int .i64 d, .int .i64 g] 3) (.cells #[.int .i64 a', .int .i64 h', .int .i64 k', .int .i64 d', .int .i64 g'] 3))
  generalize hB : w.heap.size = B at *
  go_enter Tryz.func64, Tryz.ntmps64
  go_wp2
  clear hB
  generalize (((w.alloc (.cells #[.int .i64 h, .int .i64 a, .int .i64 k, .string p, .int .i64 g, .int .i64 d] 34)).alloc (.cells #[.int .i64 h', .int .i64 a', .int .i64 k', .string p', .int .i64 g', .int .i64 d'] 34)).alloc (.cells #[.int .i64 a, .int .i64 h, .int .i64 k, .int .i64 d, .int .i64 g] 3)).alloc (.cells #[.int .i64 a', .int .i64 h', .int .i64 k', .int .i64 d', .int .i64 g'] 3) = W at *
  obtain ⟨h1, h2, h3, h4, hB0, hz⟩ := H4.out
  clear H4
  have HA := Lib.hid (row6 h1); have HB := Lib.hid (row6 h2); have HX := Lib.hid (row5 h3); have HY := Lib.hid (row5 h4)
  have HB0 := Lib.hid hB0
  clear h1 h2 h3 h4 hB0
  go_loopw [7] (fun i wr => ∃ j : Nat, j ≤ 5 ∧ i = .int .i64 j ∧ Hid (R = orL (zs.drop j)) ∧ Below W.heap.size W wr) (fun i _ => 5 - (intOf i).toNat)
  case atStart => exact ⟨0, by omega, rfl, HST, Below.refl _ _⟩
  case round =>
    obtain ⟨j, hj, rfl, HV, hb⟩ := hrel
    have HBW := Lib.hid (HB0.out.trans (hb.mono (by omega))); clear HB0
    have hW2 : B + 2 < W.heap.size := by omega
    have hW3 : B + 3 < W.heap.size := by omega
    have hW0 : B < W.heap.size := by omega
    have hW1 : B + 1 < W.heap.size := by omega
    have hcase : j = 0 ∨ j = 1 ∨ j = 2 ∨ j = 3 ∨ j = 4 ∨ j = 5 := by omega
    rcases hcase with rfl | rfl | rfl | rfl | rfl | rfl
    · have c0 := (hb.cell (p := ⟨B + 2, 0, none⟩) hW2).trans HX.out.1
      have c1 := (hb.cell (p := ⟨B + 3, 0, none⟩) hW3).trans HY.out.1
      rcases Int.lt_trichotomy a a' with q | q | q
      · have HR := Lib.hid (HV.out.trans (HLT.out 0 (by rw [HLZ.out]; decide) (show 0 < 5 by omega) (show 0 < 5 by omega) q))
        clear HV HLT HGT HEQ HEND HX HY HA HB
        go_wp2_with fail
        go_quiet (fail)
        go_wp2
        go_ret
        exact ⟨ret_int HR.out.symm, by first | exact below_drewN HBW.out _ | exact below_drewN (below_drewN HBW.out _) _⟩
      · have HR := Lib.hid (HV.out.trans (HEQ.out 0 (by rw [HLZ.out]; decide) (show 0 < 5 by omega) (show 0 < 5 by omega) q))
        clear HV HLT HGT HEQ HEND HX HY HA HB
        rw [← q] at c1
        clear q
        go_wp2_with fail
        go_quiet (fail)
        go_wp2
        go_quiet (fail)
        go_wp2
        go_roundw
        case rel => exact ⟨1, by omega, by go_num, HR, below_drewN hb _⟩
        case measure => simp [intOf]
      · have HR := Lib.hid (HV.out.trans (HGT.out 0 (by rw [HLZ.out]; decide) (show 0 < 5 by omega) (show 0 < 5 by omega) q))
        have q2 : ¬ a < a' := by omega
        clear HV HLT HGT HEQ HEND HX HY HA HB
        go_wp2_with fail
        go_quiet (fail)
        go_wp2
        go_quiet (fail)
        go_wp2
        go_ret
        exact ⟨ret_int HR.out.symm, by first | exact below_drewN HBW.out _ | exact below_drewN (below_drewN HBW.out _) _⟩
    · have c0 := (hb.cell (p := ⟨B + 2, 1, none⟩) hW2).trans HX.out.2.1
      have c1 := (hb.cell (p := ⟨B + 3, 1, none⟩) hW3).trans HY.out.2.1
      rcases Int.lt_trichotomy h h' with q | q | q
      · have HR := Lib.hid (HV.out.trans (HLT.out 1 (by rw [HLZ.out]; decide) (show 1 < 5 by omega) (show 1 < 5 by omega) q))
        clear HV HLT HGT HEQ HEND HX HY HA HB
        go_wp2_with fail
        go_quiet (fail)
        go_wp2
        go_ret
        exact ⟨ret_int HR.out.symm, by first | exact below_drewN HBW.out _ | exact below_drewN (below_drewN HBW.out _) _⟩
      · have HR := Lib.hid (HV.out.trans (HEQ.out 1 (by rw [HLZ.out]; decide) (show 1 < 5 by omega) (show 1 < 5 by omega) q))
        clear HV HLT HGT HEQ HEND HX HY HA HB
        rw [← q] at c1
        clear q
        go_wp2_with fail
        go_quiet (fail)
        go_wp2
        go_quiet (fail)
        go_wp2
        go_roundw
        case rel => exact ⟨2, by omega, by go_num, HR, below_drewN hb _⟩
        case measure => simp [intOf]
      · have HR := Lib.hid (HV.out.trans (HGT.out 1 (by rw [HLZ.out]; decide) (show 1 < 5 by omega) (show 1 < 5 by omega) q))
        have q2 : ¬ h < h' := by omega
        clear HV HLT HGT HEQ HEND HX HY HA HB
        go_wp2_with fail
        go_quiet (fail)
        go_wp2
        go_quiet (fail)
        go_wp2
        go_ret
        exact ⟨ret_int HR.out.symm, by first | exact below_drewN HBW.out _ | exact below_drewN (below_drewN HBW.out _) _⟩
    · have c0 := (hb.cell (p := ⟨B + 2, 2, none⟩) hW2).trans HX.out.2.2.1
      have c1 := (hb.cell (p := ⟨B + 3, 2, none⟩) hW3).trans HY.out.2.2.1
      rcases Int.lt_trichotomy k k' with q | q | q
      · have HR := Lib.hid (HV.out.trans (HLT.out 2 (by rw [HLZ.out]; decide) (show 2 < 5 by omega) (show 2 < 5 by omega) q))
        clear HV HLT HGT HEQ HEND HX HY HA HB
        go_wp2_with fail
        go_quiet (fail)
        go_wp2
        go_ret
        exact ⟨ret_int HR.out.symm, by first | exact below_drewN HBW.out _ | exact below_drewN (below_drewN HBW.out _) _⟩
      · have HR := Lib.hid (HV.out.trans (HEQ.out 2 (by rw [HLZ.out]; decide) (show 2 < 5 by omega) (show 2 < 5 by omega) q))
        clear HV HLT HGT HEQ HEND HX HY HA HB
        rw [← q] at c1
        clear q
        go_wp2_with fail
        go_quiet (fail)
        go_wp2
        go_quiet (fail)
        go_wp2
        go_roundw
        case rel => exact ⟨3, by omega, by go_num, HR, below_drewN hb _⟩
        case measure => simp [intOf]
      · have HR := Lib.hid (HV.out.trans (HGT.out 2 (by rw [HLZ.out]; decide) (show 2 < 5 by omega) (show 2 < 5 by omega) q))
        have q2 : ¬ k < k' := by omega
        clear HV HLT HGT HEQ HEND HX HY HA HB
        go_wp2_with fail
        go_quiet (fail)
        go_wp2
        go_quiet (fail)
        go_wp2
        go_ret
        exact ⟨ret_int HR.out.symm, by first | exact below_drewN HBW.out _ | exact below_drewN (below_drewN HBW.out _) _⟩
    · have c0 := (hb.cell (p := ⟨B + 2, 3, none⟩) hW2).trans HX.out.2.2.2.1
      have c1 := (hb.cell (p := ⟨B + 3, 3, none⟩) hW3).trans HY.out.2.2.2.1
      rcases Int.lt_trichotomy d d' with q | q | q
      · have HR := Lib.hid (HV.out.trans (HLT.out 3 (by rw [HLZ.out]; decide) (show 3 < 5 by omega) (show 3 < 5 by omega) q))
        clear HV HLT HGT HEQ HEND HX HY HA HB
        go_wp2_with fail
        go_quiet (fail)
        go_wp2
        go_ret
        exact ⟨ret_int HR.out.symm, by first | exact below_drewN HBW.out _ | exact below_drewN (below_drewN HBW.out _) _⟩
      · have HR := Lib.hid (HV.out.trans (HEQ.out 3 (by rw [HLZ.out]; decide) (show 3 < 5 by omega) (show 3 < 5 by omega) q))
        clear HV HLT HGT HEQ HEND HX HY HA HB
        rw [← q] at c1
        clear q
        go_wp2_with fail
        go_quiet (fail)
        go_wp2
        go_quiet (fail)
        go_wp2
        go_roundw
        case rel => exact ⟨4, by omega, by go_num, HR, below_drewN hb _⟩
        case measure => simp [intOf]
      · have HR := Lib.hid (HV.out.trans (HGT.out 3 (by rw [HLZ.out]; decide) (show 3 < 5 by omega) (show 3 < 5 by omega) q))
        have q2 : ¬ d < d' := by omega
        clear HV HLT HGT HEQ HEND HX HY HA HB
        go_wp2_with fail
        go_quiet (fail)
        go_wp2
        go_quiet (fail)
        go_wp2
        go_ret
        exact ⟨ret_int HR.out.symm, by first | exact below_drewN HBW.out _ | exact below_drewN (below_drewN HBW.out _) _⟩
    · have c0 := (hb.cell (p := ⟨B + 2, 4, none⟩) hW2).trans HX.out.2.2.2.2
      have c1 := (hb.cell (p := ⟨B + 3, 4, none⟩) hW3).trans HY.out.2.2.2.2
      rcases Int.lt_trichotomy g g' with q | q | q
      · have HR := Lib.hid (HV.out.trans (HLT.out 4 (by rw [HLZ.out]; decide) (show 4 < 5 by omega) (show 4 < 5 by omega) q))
        clear HV HLT HGT HEQ HEND HX HY HA HB
        go_wp2_with fail
        go_quiet (fail)
        go_wp2
        go_ret
        exact ⟨ret_int HR.out.symm, by first | exact below_drewN HBW.out _ | exact below_drewN (below_drewN HBW.out _) _⟩
      · have HR := Lib.hid (HV.out.trans (HEQ.out 4 (by rw [HLZ.out]; decide) (show 4 < 5 by omega) (show 4 < 5 by omega) q))
        clear HV HLT HGT HEQ HEND HX HY HA HB
        rw [← q] at c1
        clear q
        go_wp2_with fail
        go_quiet (fail)
        go_wp2
        go_quiet (fail)
        go_wp2
        go_roundw
        case rel => exact ⟨5, by omega, by go_num, HR, below_drewN hb _⟩
        case measure => simp [intOf]
      · have HR := Lib.hid (HV.out.trans (HGT.out 4 (by rw [HLZ.out]; decide) (show 4 < 5 by omega) (show 4 < 5 by omega) q))
        have q2 : ¬ g < g' := by omega
        clear HV HLT HGT HEQ HEND HX HY HA HB
        go_wp2_with fail
        go_quiet (fail)
        go_wp2
        go_quiet (fail)
        go_wp2
        go_ret
        exact ⟨ret_int HR.out.symm, by first | exact below_drewN HBW.out _ | exact below_drewN (below_drewN HBW.out _) _⟩
    · have HR := Lib.hid (HV.out.trans HEND.out)
      have a3 := (hb.cell (p := ⟨B, 3, none⟩) hW0).trans HA.out.2.2.2.1
      have b3 := (hb.cell (p := ⟨B + 1, 3, none⟩) hW1).trans HB.out.2.2.2.1
      clear HV HLT HGT HEQ HEND HX HY HA HB
      cases e1 : Op.bytesLess p.toList p'.toList with
      | true =>
        have HS := Lib.hid (HR.out.trans (show cmpS p p' = -1 by unfold cmpS; rw [if_pos e1]))
        go_wp2
        go_ret
        exact ⟨ret_int HS.out.symm, HBW.out⟩
      | false =>
        cases e2 : Op.bytesLess p'.toList p.toList with
        | true =>
          have e3 : (p.toList == p'.toList) = false := beq_eq_false_iff_ne.2 (fun e => by rw [e, bl_irrefl] at e2; cases e2)
          have e4 : ¬ p.toList = p'.toList := fun e => by rw [e, bl_irrefl] at e2; cases e2
          have HS := Lib.hid (HR.out.trans (show cmpS p p' = 1 by unfold cmpS; rw [if_neg (by rw [e1]; decide), if_neg (fun e => by rw [e, bl_irrefl] at e2; cases e2)]))
          go_wp2
          go_ret
          exact ⟨ret_int HS.out.symm, HBW.out⟩
        | false =>
          have e3 : (p.toList == p'.toList) = true := by rw [bl_total _ _ e1 e2]; exact beq_self_eq_true _
          have HS := Lib.hid (HR.out.trans (show cmpS p p' = 0 by unfold cmpS; rw [if_neg (by rw [e1]; decide), if_pos (bl_total _ _ e1 e2)]))
          go_wp2
          go_ret
          exact ⟨ret_int HS.out.symm, HBW.out⟩
end Go.Proofs.YtamlbiagjipedaaGreat

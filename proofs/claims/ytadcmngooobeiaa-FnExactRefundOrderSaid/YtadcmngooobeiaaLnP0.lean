/- A line put at the end: withLine, l11Post. Written by hand. -/
import Derived.Test.YtadcmngooobeiaaLnOps
import Derived.Test.YtadcmngooobeiaaLnB
import Derived.Deep.RegionHeld3
import Derived.Deep.AppendLies
import Derived.Deep.Cut
namespace Go.Proofs.Ytadcmngooobeiaa
open Go.RowKit
theorem rowL_cap {w : World} {b G c : Nat} {l : List Ln} (h : RowL w b G c l) : l.length ≤ c := by
  rcases h.2 with ⟨e, _⟩ | ⟨_, _, _, e, _, _, h, _⟩
  · cases e
  · cases e; exact h
theorem lnHead {F : FuncId} {args : Array Value} {g : Nat} {l : List Ln} (W : World) (hA : InK 4 lnC W (some ⟨g, 0, none⟩) l) (h : ∀ W', InK 4 lnC W' (some ⟨g, 0, none⟩) l → Calls Try.prog F args W' fun e w' => ∃ G c, e = .returned (.slice (some ⟨G, 0, none⟩) l.length c) ∧ RowL w' W'.heap.size G c l ∧ Below W'.heap.size W' w') : ∀ W', Below W.heap.size W W' →
    Calls Try.prog F args W' fun e w' => ∃ g1 c1, e = .returned (.slice (some ⟨g1, 0, none⟩) l.length c1) ∧ w'.ownsRow W.heap.size 25 4 (.slice (some ⟨g1, 0, none⟩) l.length c1) l.length (l.flatMap lnC) ∧ W.heap.size ≤ g1 ∧ Below W.heap.size W w' ∧ (∀ (b : Nat) (o : Obj), W'.heap[b]? = some o → w'.heap[b]? = some o) := by
  intro W' hb
  refine (h W' (hA.below hb)).mono ?_
  rintro e w' ⟨g1, c1, rfl, hr1, hb1⟩
  have hr1' : RowL w' W.heap.size g1 c1 l := OwnK.mono hr1 hb.size
  refine ⟨g1, c1, rfl, hr1', (World.ownsRow.lt hr1' g1 rfl).1, hb.trans (hb1.mono hb.size), fun b o ho => ?_⟩
  rw [hb1.block b (Array.getElem?_eq_some_iff.1 ho).1, ho]
theorem app_doneL {W u Wc w1 : World} {g1 : Nat} (hb : Below W.heap.size W u) (hc : Below W.heap.size u Wc) (hg : Wc.grownBy w1 (some g1)) (h1 : W.heap.size ≤ g1) : Below W.heap.size W w1 :=
  (hb.trans hc).grown hg (hb.trans hc).size (fun k e => by cases e; exact h1)
theorem push_full {l : List Ln} {x : Ln} (h : 200 ≤ l.length) : pushR l x = (l, 5) := if_pos h
theorem push_bad {l : List Ln} {x : Ln} (h : ¬ 200 ≤ l.length) (h2 : linesB (l ++ [x]) = false) : pushR l x = (l, 1) := by unfold pushR; rw [if_neg h, h2]; rfl
theorem push_ok {l : List Ln} {x : Ln} (h : ¬ 200 ≤ l.length) (h2 : linesB (l ++ [x]) = true) : pushR l x = (l ++ [x], 0) := by unfold pushR; rw [if_neg h, h2]; rfl
theorem push_len (l : List Ln) (x : Ln) (h : l.length ≤ 1048576) : (pushR l x).1.length ≤ 1048576 := by
  unfold pushR; split
  · exact h
  · split
    · simp; omega
    · exact h
set_option maxRecDepth 100000 in
set_option maxHeartbeats 4000000 in
theorem push_impl (xo xk xa xt : Int) (g ca : Nat) (l : List Ln) (w : World) (hA : InK 4 lnC w (some ⟨g, 0, none⟩) l) (hn : l.length ≤ 1048576) :
    Calls Try.prog 67 #[.slice (some ⟨g, 0, none⟩) l.length ca, .agg #[.int .i64 xo, .int .i64 xk, .int .i64 xa, .int .i64 xt]] w fun e w' => ∃ v, e = .returned (.tuple #[v, .int .i64 (pushR l (⟨xo, xk, xa, xt⟩ : Ln)).2]) ∧ OwnKln w' w.heap.size v (pushR l (⟨xo, xk, xa, xt⟩ : Ln)).1 ∧ Below w.heap.size w w' := by
  obtain ⟨i0, hi0, hz0, hz1, hz2⟩ := info_parts ln_info
  have HI0 := Lib.hid (And.intro hi0 (And.intro hz0 (And.intro hz1 hz2)))
  clear hi0 hz0 hz1 hz2
  have hbA := (Below.refl w.heap.size w).alloc (Nat.le_refl _) (.cells #[.int .i64 xo, .int .i64 xk, .int .i64 xa, .int .i64 xt] 25)
  have HX := Lib.hid (Bx.new (T := 25) w [.int .i64 xo, .int .i64 xk, .int .i64 xa, .int .i64 xt])
  have HA := Lib.hid (hA.below hbA)
  have HB := Lib.hid hbA; have HSZ := Lib.hid hbA.size
  clear hA hbA
  have HPF := Lib.hid (fun h => push_full (l := l) (x := (⟨xo, xk, xa, xt⟩ : Ln)) h)
  have HPB := Lib.hid (fun h h2 => push_bad (l := l) (x := (⟨xo, xk, xa, xt⟩ : Ln)) h h2)
  have HPO := Lib.hid (fun h h2 => push_ok (l := l) (x := (⟨xo, xk, xa, xt⟩ : Ln)) h h2)
  generalize pushR l (⟨xo, xk, xa, xt⟩ : Ln) = R at *
  generalize hB : w.heap.size = B at *
  have HBE := Lib.hid hB
  by_cases h2 : 200 ≤ l.length
  · have HV := Lib.hid (HPF.out h2)
    go_enter Try.func67, Try.ntmps67
    go_upto_region 1 with (fail)
    clear hB
    change Hid (Bx 25 (w.alloc (.cells #[.int .i64 xo, .int .i64 xk, .int .i64 xa, .int .i64 xt] 25)) B [.int .i64 xo, .int .i64 xk, .int .i64 xa, .int .i64 xt]) at HX
    generalize w.alloc (.cells #[.int .i64 xo, .int .i64 xk, .int .i64 xa, .int .i64 xt] 25) = V at *
    go_wp2_with fail
    refine (clone_ln g ca l V HA.out hn).mono ?_; rintro e w4 ⟨G, c, rfl, hr, hb⟩
    have HRR := Lib.hid (OwnK.mono hr HSZ.out : OwnKln w4 B (.slice (some ⟨G, 0, none⟩) l.length c) l)
    replace HB := Lib.hid (HB.out.trans (hb.mono HSZ.out)); clear hb hr
    go_wp2
    exact bodyPost_ret (v := .tuple #[.slice (some ⟨G, 0, none⟩) l.length c, .int .i64 5]) (by simp [results, Try.results67, go_sem]) rfl ⟨_, by rw [HV.out], by rw [HV.out]; first | exact HRR.out | (rw [HBE.out]; exact HRR.out), by first | exact HB.out | (rw [HBE.out]; exact HB.out)⟩
  go_enter Try.func67, Try.ntmps67
  go_upto_region 1 with (fail)
  clear hB
  change Hid (Bx 25 (w.alloc (.cells #[.int .i64 xo, .int .i64 xk, .int .i64 xa, .int .i64 xt] 25)) B [.int .i64 xo, .int .i64 xk, .int .i64 xa, .int .i64 xt]) at HX
  generalize w.alloc (.cells #[.int .i64 xo, .int .i64 xk, .int .i64 xa, .int .i64 xt] 25) = V at *
  go_upto_region 3 with (fail)
  have HCP := Lib.hid (lnHead V HA.out (fun W' h => clone_ln g ca l W' h hn))
  have hBV := HX.out.lt
  have cx0 := HX.out.cell 0 _ rfl; have cx1 := HX.out.cell 1 _ rfl; have cx2 := HX.out.cell 2 _ rfl; have cx3 := HX.out.cell 3 _ rfl
  go_region_held3 (fun w' => w'.cell? ⟨B, 0, none⟩ = some (.int .i64 xo) ∧ w'.cell? ⟨B, 1, none⟩ = some (.int .i64 xk) ∧ w'.cell? ⟨B, 2, none⟩ = some (.int .i64 xa) ∧ w'.cell? ⟨B, 3, none⟩ = some (.int .i64 xt))
    (go_keep)
    (first
      | (go_at_call 66; refine (HCP.out _ ?_).mono ?_; (focus (first | exact (Below.refl _ _) | exact (Below.refl _ _).drew | exact ((Below.refl _ _).alloc (Nat.le_refl _) _) | exact ((Below.refl _ _).alloc (Nat.le_refl _) _).drew)); (rintro e u ⟨g1, c1, rfl, ho, hg1, hbW, hkeep⟩; have HO := Lib.hid ho; have HK := Lib.hid hkeep; have cu0 : u.cell? ⟨B, 0, none⟩ = some (.int .i64 xo) := (hbW.cell (p := ⟨B, 0, none⟩) hBV).trans cx0; have cu1 : u.cell? ⟨B, 1, none⟩ = some (.int .i64 xk) := (hbW.cell (p := ⟨B, 1, none⟩) hBV).trans cx1; have cu2 : u.cell? ⟨B, 2, none⟩ = some (.int .i64 xa) := (hbW.cell (p := ⟨B, 2, none⟩) hBV).trans cx2; have cu3 : u.cell? ⟨B, 3, none⟩ = some (.int .i64 xt) := (hbW.cell (p := ⟨B, 3, none⟩) hBV).trans cx3; clear ho hkeep))
      | (refine step_append_own_at _ (by rfl) (.tmp 13) (.tmp 15) 31 (by rfl) V.heap.size 25 i0 (.agg #[.int .i64 0, .int .i64 0, .int .i64 0, .int .i64 0]) 4 32 Try.underlying31 HI0.out.1 HI0.out.2.1 HI0.out.2.2.1 HI0.out.2.2.2 rfl (by omega) (.slice (some ⟨g1, 0, none⟩) l.length c1) l.length (l.flatMap lnC) (by rfl) ?_ ⟨u.heap.size, 0, none⟩ 1 1 (lnC (⟨xo, xk, xa, xt⟩ : Ln)) (by rfl) (by rfl) ?_ (one_ln _) (by unfold maxLen; omega) (by omega) ?_ ?_; (focus (first | exact HO.out.alloc _ | exact (HO.out.alloc _).drew)); (focus (exact World.news_of_block (cs := #[.int .i64 xo, .int .i64 xk, .int .i64 xa, .int .i64 xt]) (t := 25) (fr := (0, 0)) (heap_alloc_new u _))); (focus (have := hbW.size; first | omega | exact this | (simp; omega))); (intro v' w3 hown hgrow hnil _; obtain ⟨g3, c3, rfl, hr3⟩ := RowL.of (n := l.length + 1) (l := l ++ [(⟨xo, xk, xa, xt⟩ : Ln)]) (by rw [List.flatMap_append, List.flatMap_singleton]; exact hown) (by simp) (fun e => by have := (hnil.1 e).1; cases this); have hbW3 := app_doneL hbW ((Below.refl _ _).alloc hbW.size _) hgrow hg1; have HR3 := Lib.hid hr3; have cz0 : w3.cell? ⟨B, 0, none⟩ = some (.int .i64 xo) := (hbW3.cell (p := ⟨B, 0, none⟩) hBV).trans cx0; have cz1 : w3.cell? ⟨B, 1, none⟩ = some (.int .i64 xk) := (hbW3.cell (p := ⟨B, 1, none⟩) hBV).trans cx1; have cz2 : w3.cell? ⟨B, 2, none⟩ = some (.int .i64 xa) := (hbW3.cell (p := ⟨B, 2, none⟩) hBV).trans cx2; have cz3 : w3.cell? ⟨B, 3, none⟩ = some (.int .i64 xt) := (hbW3.cell (p := ⟨B, 3, none⟩) hBV).trans cx3; clear hown hgrow hnil hr3))
      | (refine step_append_own_at _ (by rfl) (.tmp 13) (.tmp 15) 31 (by rfl) V.heap.size 25 i0 (.agg #[.int .i64 0, .int .i64 0, .int .i64 0, .int .i64 0]) 4 32 Try.underlying31 HI0.out.1 HI0.out.2.1 HI0.out.2.2.1 HI0.out.2.2.2 rfl (by omega) (.slice (some ⟨g1, 0, none⟩) l.length c1) l.length (l.flatMap lnC) (by rfl) ?_ ⟨V.heap.size, 0, none⟩ 1 1 (lnC (⟨xo, xk, xa, xt⟩ : Ln)) (by rfl) (by rfl) ?_ (one_ln _) (by unfold maxLen; omega) (by omega) ?_ ?_; (focus (first | exact HO.out | exact HO.out.drew)); (focus (exact World.news_of_block (cs := #[.int .i64 xo, .int .i64 xk, .int .i64 xa, .int .i64 xt]) (t := 25) (fr := (0, 0)) (HK.out _ _ (heap_alloc_new V _)))); (focus (have := hbW.size; first | omega | exact this | (simp; omega))); (intro v' w3 hown hgrow hnil _; obtain ⟨g3, c3, rfl, hr3⟩ := RowL.of (n := l.length + 1) (l := l ++ [(⟨xo, xk, xa, xt⟩ : Ln)]) (by rw [List.flatMap_append, List.flatMap_singleton]; exact hown) (by simp) (fun e => by have := (hnil.1 e).1; cases this); have hbW3 := app_doneL hbW (Below.refl _ _) hgrow hg1; have HR3 := Lib.hid hr3; have cz0 : w3.cell? ⟨B, 0, none⟩ = some (.int .i64 xo) := (hbW3.cell (p := ⟨B, 0, none⟩) hBV).trans cx0; have cz1 : w3.cell? ⟨B, 1, none⟩ = some (.int .i64 xk) := (hbW3.cell (p := ⟨B, 1, none⟩) hBV).trans cx1; have cz2 : w3.cell? ⟨B, 2, none⟩ = some (.int .i64 xa) := (hbW3.cell (p := ⟨B, 2, none⟩) hBV).trans cx2; have cz3 : w3.cell? ⟨B, 3, none⟩ = some (.int .i64 xt) := (hbW3.cell (p := ⟨B, 3, none⟩) hBV).trans cx3; clear hown hgrow hnil hr3))
      | fail)
  all_goals
    replace HA := Lib.hid (HA.out.below hbW3); replace HB := Lib.hid (HB.out.trans (hbW3.mono HSZ.out))
    have HSV := HSZ
    replace HSZ := Lib.hid (Nat.le_trans HSZ.out hbW3.size)
    clear hbW3 hBV cx0 cx1 cx2 cx3 HCP HX
    have HL := Lib.hid (lines_impl (some ⟨g3, 0, none⟩) c3 (l ++ [(⟨xo, xk, xa, xt⟩ : Ln)]) w3 ((show OwnKln w3 V.heap.size (.slice (some ⟨g3, 0, none⟩) (l ++ [(⟨xo, xk, xa, xt⟩ : Ln)]).length c3) (l ++ [(⟨xo, xk, xa, xt⟩ : Ln)]) from HR3.out).ins lnC_len).2 (rowL_cap HR3.out) (by simp; omega))
    have HR4 := Lib.hid (OwnK.mono HR3.out HSV.out : OwnKln w3 B (.slice (some ⟨g3, 0, none⟩) (l ++ [(⟨xo, xk, xa, xt⟩ : Ln)]).length c3) (l ++ [(⟨xo, xk, xa, xt⟩ : Ln)]))
    rw [show (l ++ [(⟨xo, xk, xa, xt⟩ : Ln)]).length = l.length + 1 by simp] at HL HR4
    clear HR3
    cases hq : linesB (l ++ [(⟨xo, xk, xa, xt⟩ : Ln)]) with
    | false =>
      have HV := Lib.hid (HPB.out h2 hq)
      rw [hq] at HL
      go_wp2_with fail
      refine HL.out.mono ?_; rintro e w5 ⟨rfl, hb⟩
      replace HA := Lib.hid (HA.out.below hb); replace HB := Lib.hid (HB.out.trans (hb.mono HSZ.out)); replace HSZ := Lib.hid (Nat.le_trans HSZ.out hb.size); clear hb
      go_wp2_with fail
      refine (clone_ln g ca l w5 HA.out hn).mono ?_; rintro e w4 ⟨G, c, rfl, hr, hb⟩
      have HRR := Lib.hid (OwnK.mono hr HSZ.out : OwnKln w4 B (.slice (some ⟨G, 0, none⟩) l.length c) l)
      replace HB := Lib.hid (HB.out.trans (hb.mono HSZ.out)); clear hb hr
      go_wp2
      exact bodyPost_ret (v := .tuple #[.slice (some ⟨G, 0, none⟩) l.length c, .int .i64 1]) (by simp [results, Try.results67, go_sem]) rfl ⟨_, by rw [HV.out], by rw [HV.out]; first | exact HRR.out | (rw [HBE.out]; exact HRR.out), by first | exact HB.out | (rw [HBE.out]; exact HB.out)⟩
    | true =>
      have HV := Lib.hid (HPO.out h2 hq)
      rw [hq] at HL
      go_wp2_with fail
      refine HL.out.mono ?_; rintro e w5 ⟨rfl, hb⟩
      replace HR4 := Lib.hid (OwnK.below HR4.out hb); replace HB := Lib.hid (HB.out.trans (hb.mono HSZ.out)); clear hb
      go_wp2
      exact bodyPost_ret (v := .tuple #[.slice (some ⟨g3, 0, none⟩) (l.length + 1) c3, .int .i64 0]) (by simp [results, Try.results67, go_sem]) rfl ⟨_, by rw [HV.out], by rw [HV.out]; first | exact HR4.out | (rw [HBE.out]; exact HR4.out), by first | exact HB.out | (rw [HBE.out]; exact HB.out)⟩
set_option maxRecDepth 100000 in
set_option maxHeartbeats 4000000 in
theorem push_spec (xo xk xa xt : Int) (g ca : Nat) (l : List Ln) (w : World) (hA : InK 4 lnC w (some ⟨g, 0, none⟩) l) (hn : l.length ≤ 1048576) :
    Calls Try.prog 65 #[.slice (some ⟨g, 0, none⟩) l.length ca, .agg #[.int .i64 xo, .int .i64 xk, .int .i64 xa, .int .i64 xt]] w fun e w' => ∃ v, e = .returned (.tuple #[v, .int .i64 (pushR l (⟨xo, xk, xa, xt⟩ : Ln)).2]) ∧ OwnKln w' w.heap.size v (pushR l (⟨xo, xk, xa, xt⟩ : Ln)).1 ∧ Below w.heap.size w w' := by
  obtain ⟨i0, hi0, hz0, hz1, hz2⟩ := info_parts ln_info
  have HI0 := Lib.hid (And.intro hi0 (And.intro hz0 (And.intro hz1 hz2)))
  clear hi0 hz0 hz1 hz2
  have hbA := (Below.refl w.heap.size w).alloc (Nat.le_refl _) (.cells #[.int .i64 xo, .int .i64 xk, .int .i64 xa, .int .i64 xt] 25)
  have HX := Lib.hid (Bx.new (T := 25) w [.int .i64 xo, .int .i64 xk, .int .i64 xa, .int .i64 xt])
  have HA := Lib.hid (hA.below hbA)
  have HB := Lib.hid hbA; have HSZ := Lib.hid hbA.size
  clear hA hbA
  have HPF := Lib.hid (fun h => push_full (l := l) (x := (⟨xo, xk, xa, xt⟩ : Ln)) h)
  have HPB := Lib.hid (fun h h2 => push_bad (l := l) (x := (⟨xo, xk, xa, xt⟩ : Ln)) h h2)
  have HPO := Lib.hid (fun h h2 => push_ok (l := l) (x := (⟨xo, xk, xa, xt⟩ : Ln)) h h2)
  generalize pushR l (⟨xo, xk, xa, xt⟩ : Ln) = R at *
  generalize hB : w.heap.size = B at *
  have HBE := Lib.hid hB
  go_enter Try.func65, Try.ntmps65
  go_upto_region 1 with (fail)
  clear hB
  change Hid (Bx 25 (w.alloc (.cells #[.int .i64 xo, .int .i64 xk, .int .i64 xa, .int .i64 xt] 25)) B [.int .i64 xo, .int .i64 xk, .int .i64 xa, .int .i64 xt]) at HX
  generalize w.alloc (.cells #[.int .i64 xo, .int .i64 xk, .int .i64 xa, .int .i64 xt] 25) = V at *
  have HCP := Lib.hid (lnHead V HA.out (fun W' h => copy_l11 g ca l W' h hn))
  have hBV := HX.out.lt
  have cx0 := HX.out.cell 0 _ rfl; have cx1 := HX.out.cell 1 _ rfl; have cx2 := HX.out.cell 2 _ rfl; have cx3 := HX.out.cell 3 _ rfl
  go_region_held3 (fun w' => w'.cell? ⟨B, 0, none⟩ = some (.int .i64 xo) ∧ w'.cell? ⟨B, 1, none⟩ = some (.int .i64 xk) ∧ w'.cell? ⟨B, 2, none⟩ = some (.int .i64 xa) ∧ w'.cell? ⟨B, 3, none⟩ = some (.int .i64 xt))
    (go_keep)
    (first
      | (go_at_call 64; refine (HCP.out _ ?_).mono ?_; (focus (first | exact (Below.refl _ _) | exact (Below.refl _ _).drew | exact ((Below.refl _ _).alloc (Nat.le_refl _) _) | exact ((Below.refl _ _).alloc (Nat.le_refl _) _).drew)); (rintro e u ⟨g1, c1, rfl, ho, hg1, hbW, hkeep⟩; have HO := Lib.hid ho; have HK := Lib.hid hkeep; have cu0 : u.cell? ⟨B, 0, none⟩ = some (.int .i64 xo) := (hbW.cell (p := ⟨B, 0, none⟩) hBV).trans cx0; have cu1 : u.cell? ⟨B, 1, none⟩ = some (.int .i64 xk) := (hbW.cell (p := ⟨B, 1, none⟩) hBV).trans cx1; have cu2 : u.cell? ⟨B, 2, none⟩ = some (.int .i64 xa) := (hbW.cell (p := ⟨B, 2, none⟩) hBV).trans cx2; have cu3 : u.cell? ⟨B, 3, none⟩ = some (.int .i64 xt) := (hbW.cell (p := ⟨B, 3, none⟩) hBV).trans cx3; clear ho hkeep))
      | (refine step_append_own_at _ (by rfl) (.tmp 8) (.tmp 10) 31 (by rfl) V.heap.size 25 i0 (.agg #[.int .i64 0, .int .i64 0, .int .i64 0, .int .i64 0]) 4 32 Try.underlying31 HI0.out.1 HI0.out.2.1 HI0.out.2.2.1 HI0.out.2.2.2 rfl (by omega) (.slice (some ⟨g1, 0, none⟩) l.length c1) l.length (l.flatMap lnC) (by rfl) ?_ ⟨u.heap.size, 0, none⟩ 1 1 (lnC (⟨xo, xk, xa, xt⟩ : Ln)) (by rfl) (by rfl) ?_ (one_ln _) (by unfold maxLen; omega) (by omega) ?_ ?_; (focus (first | exact HO.out.alloc _ | exact (HO.out.alloc _).drew)); (focus (exact World.news_of_block (cs := #[.int .i64 xo, .int .i64 xk, .int .i64 xa, .int .i64 xt]) (t := 25) (fr := (0, 0)) (heap_alloc_new u _))); (focus (have := hbW.size; first | omega | exact this | (simp; omega))); (intro v' w3 hown hgrow hnil _; obtain ⟨g3, c3, rfl, hr3⟩ := RowL.of (n := l.length + 1) (l := l ++ [(⟨xo, xk, xa, xt⟩ : Ln)]) (by rw [List.flatMap_append, List.flatMap_singleton]; exact hown) (by simp) (fun e => by have := (hnil.1 e).1; cases this); have hbW3 := app_doneL hbW ((Below.refl _ _).alloc hbW.size _) hgrow hg1; have HR3 := Lib.hid hr3; have cz0 : w3.cell? ⟨B, 0, none⟩ = some (.int .i64 xo) := (hbW3.cell (p := ⟨B, 0, none⟩) hBV).trans cx0; have cz1 : w3.cell? ⟨B, 1, none⟩ = some (.int .i64 xk) := (hbW3.cell (p := ⟨B, 1, none⟩) hBV).trans cx1; have cz2 : w3.cell? ⟨B, 2, none⟩ = some (.int .i64 xa) := (hbW3.cell (p := ⟨B, 2, none⟩) hBV).trans cx2; have cz3 : w3.cell? ⟨B, 3, none⟩ = some (.int .i64 xt) := (hbW3.cell (p := ⟨B, 3, none⟩) hBV).trans cx3; clear hown hgrow hnil hr3))
      | (refine step_append_own_at _ (by rfl) (.tmp 8) (.tmp 10) 31 (by rfl) V.heap.size 25 i0 (.agg #[.int .i64 0, .int .i64 0, .int .i64 0, .int .i64 0]) 4 32 Try.underlying31 HI0.out.1 HI0.out.2.1 HI0.out.2.2.1 HI0.out.2.2.2 rfl (by omega) (.slice (some ⟨g1, 0, none⟩) l.length c1) l.length (l.flatMap lnC) (by rfl) ?_ ⟨V.heap.size, 0, none⟩ 1 1 (lnC (⟨xo, xk, xa, xt⟩ : Ln)) (by rfl) (by rfl) ?_ (one_ln _) (by unfold maxLen; omega) (by omega) ?_ ?_; (focus (first | exact HO.out | exact HO.out.drew)); (focus (exact World.news_of_block (cs := #[.int .i64 xo, .int .i64 xk, .int .i64 xa, .int .i64 xt]) (t := 25) (fr := (0, 0)) (HK.out _ _ (heap_alloc_new V _)))); (focus (have := hbW.size; first | omega | exact this | (simp; omega))); (intro v' w3 hown hgrow hnil _; obtain ⟨g3, c3, rfl, hr3⟩ := RowL.of (n := l.length + 1) (l := l ++ [(⟨xo, xk, xa, xt⟩ : Ln)]) (by rw [List.flatMap_append, List.flatMap_singleton]; exact hown) (by simp) (fun e => by have := (hnil.1 e).1; cases this); have hbW3 := app_doneL hbW (Below.refl _ _) hgrow hg1; have HR3 := Lib.hid hr3; have cz0 : w3.cell? ⟨B, 0, none⟩ = some (.int .i64 xo) := (hbW3.cell (p := ⟨B, 0, none⟩) hBV).trans cx0; have cz1 : w3.cell? ⟨B, 1, none⟩ = some (.int .i64 xk) := (hbW3.cell (p := ⟨B, 1, none⟩) hBV).trans cx1; have cz2 : w3.cell? ⟨B, 2, none⟩ = some (.int .i64 xa) := (hbW3.cell (p := ⟨B, 2, none⟩) hBV).trans cx2; have cz3 : w3.cell? ⟨B, 3, none⟩ = some (.int .i64 xt) := (hbW3.cell (p := ⟨B, 3, none⟩) hBV).trans cx3; clear hown hgrow hnil hr3))
      | fail)
  all_goals
    replace HA := Lib.hid (HA.out.below hbW3); replace HB := Lib.hid (HB.out.trans (hbW3.mono HSZ.out))
    have HSV := HSZ
    replace HSZ := Lib.hid (Nat.le_trans HSZ.out hbW3.size)
    clear hbW3 hBV cx0 cx1 cx2 cx3 HCP HX
    by_cases h2 : 200 ≤ l.length
    · have HV := Lib.hid (HPF.out h2)
      clear HR3
      go_wp2_with fail
      refine (copy_l11 g ca l w3 HA.out hn).mono ?_; rintro e w4 ⟨G, c, rfl, hr, hb⟩
      have HRR := Lib.hid (OwnK.mono hr HSZ.out : OwnKln w4 B (.slice (some ⟨G, 0, none⟩) l.length c) l)
      replace HB := Lib.hid (HB.out.trans (hb.mono HSZ.out)); clear hb hr
      go_wp2
      exact bodyPost_ret (v := .tuple #[.slice (some ⟨G, 0, none⟩) l.length c, .int .i64 5]) (by simp [results, Try.results65, go_sem]) rfl ⟨_, by rw [HV.out], by rw [HV.out]; first | exact HRR.out | (rw [HBE.out]; exact HRR.out), by first | exact HB.out | (rw [HBE.out]; exact HB.out)⟩
    have HL := Lib.hid (lines_spec (some ⟨g3, 0, none⟩) c3 (l ++ [(⟨xo, xk, xa, xt⟩ : Ln)]) w3 ((show OwnKln w3 V.heap.size (.slice (some ⟨g3, 0, none⟩) (l ++ [(⟨xo, xk, xa, xt⟩ : Ln)]).length c3) (l ++ [(⟨xo, xk, xa, xt⟩ : Ln)]) from HR3.out).ins lnC_len).2 (rowL_cap HR3.out) (by simp; omega))
    have HR4 := Lib.hid (OwnK.mono HR3.out HSV.out : OwnKln w3 B (.slice (some ⟨g3, 0, none⟩) (l ++ [(⟨xo, xk, xa, xt⟩ : Ln)]).length c3) (l ++ [(⟨xo, xk, xa, xt⟩ : Ln)]))
    rw [show (l ++ [(⟨xo, xk, xa, xt⟩ : Ln)]).length = l.length + 1 by simp] at HL HR4
    clear HR3
    cases hq : linesB (l ++ [(⟨xo, xk, xa, xt⟩ : Ln)]) with
    | false =>
      have HV := Lib.hid (HPB.out h2 hq)
      rw [hq] at HL
      go_wp2_with fail
      refine HL.out.mono ?_; rintro e w5 ⟨rfl, hb⟩
      replace HA := Lib.hid (HA.out.below hb); replace HB := Lib.hid (HB.out.trans (hb.mono HSZ.out)); replace HSZ := Lib.hid (Nat.le_trans HSZ.out hb.size); clear hb
      go_wp2_with fail
      refine (copy_l11 g ca l w5 HA.out hn).mono ?_; rintro e w4 ⟨G, c, rfl, hr, hb⟩
      have HRR := Lib.hid (OwnK.mono hr HSZ.out : OwnKln w4 B (.slice (some ⟨G, 0, none⟩) l.length c) l)
      replace HB := Lib.hid (HB.out.trans (hb.mono HSZ.out)); clear hb hr
      go_wp2
      exact bodyPost_ret (v := .tuple #[.slice (some ⟨G, 0, none⟩) l.length c, .int .i64 1]) (by simp [results, Try.results65, go_sem]) rfl ⟨_, by rw [HV.out], by rw [HV.out]; first | exact HRR.out | (rw [HBE.out]; exact HRR.out), by first | exact HB.out | (rw [HBE.out]; exact HB.out)⟩
    | true =>
      have HV := Lib.hid (HPO.out h2 hq)
      rw [hq] at HL
      go_wp2_with fail
      refine HL.out.mono ?_; rintro e w5 ⟨rfl, hb⟩
      replace HR4 := Lib.hid (OwnK.below HR4.out hb); replace HB := Lib.hid (HB.out.trans (hb.mono HSZ.out)); clear hb
      go_wp2
      exact bodyPost_ret (v := .tuple #[.slice (some ⟨g3, 0, none⟩) (l.length + 1) c3, .int .i64 0]) (by simp [results, Try.results65, go_sem]) rfl ⟨_, by rw [HV.out], by rw [HV.out]; first | exact HR4.out | (rw [HBE.out]; exact HR4.out), by first | exact HB.out | (rw [HBE.out]; exact HB.out)⟩
end Go.Proofs.Ytadcmngooobeiaa

/- OpenOrders, the reference. Written by mk/lnos.py. -/
import Derived.Test.YtadcmngooobeiaaLnO
import Derived.Test.YtadcmngooobeiaaLnB
import Derived.Test.YtadcmngooobeiaaCopyI
import Derived.Deep.RegionHeld3
import Derived.Deep.AppendLies
import Derived.WalkKit
import Derived.Lib.SliceRun
namespace Go.Proofs.Ytadcmngooobeiaa
open Go.RowKit
/-- the contract of the copy, in the walk's spelling -/
theorem copy_head (g c k : Nat) (outs : List Int) (W : World) (base : Nat) (hr : RowI W base g c outs) (hk : k ≤ outs.length) (hn : outs.length ≤ 1048576) : ∀ W', Below W.heap.size W W' →
    Calls Try.prog 72 #[.slice (some ⟨g, 0, none⟩) k c] W' fun e w' => ∃ g1 c1, e = .returned (.slice (some ⟨g1, 0, none⟩) k c1) ∧ w'.ownsRow W.heap.size 3 1 (.slice (some ⟨g1, 0, none⟩) k c1) k (intV (outs.take k)) ∧ W.heap.size ≤ g1 ∧ Below W.heap.size W w' ∧ (∀ (b : Nat) (o : Obj), W'.heap[b]? = some o → w'.heap[b]? = some o) := by
  intro W' hb
  have hl : (outs.take k).length = k := by rw [List.length_take]; omega
  have h := copy_ints g c (outs.take k) W' (fun j hj => by
    rw [hl] at hj
    have hc := OwnI.cell hr j (by omega)
    have hg : g < W.heap.size := RowI.lt hr
    refine ⟨g, rfl, Nat.lt_of_lt_of_le hg hb.size, ?_⟩
    rw [hb.cell hg, hc, List.getElem_take]) (by omega)
  rw [hl] at h
  refine h.mono ?_
  rintro e w' ⟨g1, c1, rfl, hr1, hb1⟩
  refine ⟨g1, c1, rfl, RowI.own (OwnI.mono hr1 hb.size) hl, Nat.le_trans hb.size (RowI.low hr1), hb.trans (hb1.mono hb.size), fun b o ho => ?_⟩
  rw [hb1.block b (Array.getElem?_eq_some_iff.1 ho).1, ho]
theorem app_done {W u Wc w1 : World} {g1 : Nat} (hb : Below W.heap.size W u) (hc : Below W.heap.size u Wc) (hg : Wc.grownBy w1 (some g1)) (h1 : W.heap.size ≤ g1) : Below W.heap.size W w1 :=
  (hb.trans hc).grown hg (hb.trans hc).size (fun k e => by cases e; exact h1)
set_option maxRecDepth 100000 in
set_option maxHeartbeats 4000000 in
theorem open_spec (A : Option Addr) (ca : Nat) (l : List Ln) (w : World) (hA : InK 4 lnC w A l) (hc : l.length ≤ ca) (hn : l.length ≤ 1048576) :
    Calls Try.prog 47 #[.slice A l.length ca] w fun e w' => ∃ v, e = .returned v ∧ OwnI w' w.heap.size v (openB l) ∧ Below w.heap.size w w' := by
  obtain ⟨i0, hi0, hz0, hz1, hz2⟩ := info_parts int_info
  have HI0 := Lib.hid (And.intro hi0 (And.intro hz0 (And.intro hz1 hz2)))
  clear hi0 hz0 hz1 hz2
  have hbA := (Below.refl w.heap.size w).alloc (Nat.le_refl _) (.cells #[] 3)
  have HO := Lib.hid (ownI_new w)
  have HLN := Lib.hid (lines_spec A ca l _ (hA.below hbA) hc hn)
  have HB := Lib.hid hbA
  have HSZ := Lib.hid hbA.size
  have HV := Lib.hid (show openB l = (if linesB l = true then asc (opnL l) else []) from rfl)
  have HA := Lib.hid hA
  have HOW := Lib.hid (fun o' W (hb : Below w.heap.size w W) => owed_spec o' A ca l W (HA.out.below hb) hc hn)
  clear hbA hA
  have HOB := Lib.hid (fun (q : linesB l = true) outs (h : opnAt l l.length outs) => opnAt_end q h)
  generalize openB l = R at *
  generalize hB : w.heap.size = B at HO HLN HB HSZ ⊢
  have HBE := Lib.hid hB
  cases q : linesB l with
  | false =>
    replace HV := Lib.hid (HV.out.trans (show _ = [] by rw [q]; rfl))
    rw [q] at HLN
    clear q HOB
    go_enter Try.func47, Try.ntmps47
    go_wp2_with fail
    clear hB
    obtain ⟨V0, hV0⟩ : ∃ V0 : Value, V0 = .slice (some ⟨B, 0, none⟩) 0 0 := ⟨_, rfl⟩
    rw [← hV0] at HO
    rw [← hV0]
    clear hV0
    generalize (w.alloc (.cells #[] 3)) = W0 at *
    refine HLN.out.mono ?_; rintro e w1 ⟨rfl, hb⟩
    replace HO := Lib.hid (OwnI.below HO.out hb)
    replace HB := Lib.hid (HB.out.trans (hb.mono HSZ.out)); clear hb
    go_wp2
    go_ret
    exact ⟨_, rfl, by rw [HV.out]; first | exact HO.out | (rw [HBE.out]; exact HO.out), by first | exact HB.out | (rw [HBE.out]; exact HB.out)⟩
  | true =>
    rw [q] at HLN
    replace HOB := Lib.hid (HOB.out q)
    clear q HV
    go_enter Try.func47, Try.ntmps47
    go_wp2_with fail
    clear hB
    have HO' := Lib.hid (show RowI (w.alloc (.cells #[] 3)) B B 0 [] from HO.out); clear HO
    generalize (w.alloc (.cells #[] 3)) = W0 at *
    refine HLN.out.mono ?_; rintro e w1 ⟨rfl, hb⟩
    have HO := Lib.hid (show RowI w1 B B 0 [] from OwnI.below HO'.out hb); clear HO'
    replace HB := Lib.hid (HB.out.trans (hb.mono HSZ.out)); clear hb HLN HSZ
    go_wp2
    go_loopw [3, 4] (fun v i wr => ∃ (j : Nat) (outs : List Int) (g c : Nat), j ≤ l.length ∧ outs.length ≤ j ∧ i = .int .i64 j ∧ v = .slice (some ⟨g, 0, none⟩) outs.length c ∧ Hid (opnAt l j outs) ∧ Hid (RowI wr B g c outs) ∧ Hid (Below B w wr)) (fun _ i _ => l.length - (intOf i).toNat)
    case atStart => exact ⟨0, [], B, 0, Nat.zero_le _, Nat.le_refl _, rfl, rfl, Lib.hid opnAt_zero, HO, HB⟩
    case round =>
      clear HO HB
      obtain ⟨j, outs, g, c, hj, hlen, rfl, rfl, HS, HR, HB⟩ := hrel
      have hcap : outs.length ≤ c := by
        rcases HR.out.2 with ⟨e, _⟩ | ⟨_, _, _, e, _, _, h, _⟩
        · cases e
        · cases e; exact h
      have hcm : c ≤ 9223372036854775807 := by
        rcases HR.out.2 with ⟨e, _⟩ | ⟨_, _, _, e, _, _, _, h, _⟩
        · cases e
        · cases e; unfold maxLen at h; omega
      by_cases hlt : (j : Int) < (l.length : Int)
      · have hjl : j < l.length := by omega
        have hbw : Below w.heap.size w wr := by rw [HBE.out]; exact HB.out
        obtain ⟨a, rfl, ha, c0, _, _, _⟩ := (HA.out.below hbw).ln j hjl
        obtain ⟨x, hxe⟩ : ∃ x, x = l[j].o := ⟨_, rfl⟩
        have HSK := Lib.hid (fun h => opnAt_skip hjl HS.out h)
        have HIN := Lib.hid (fun k h1 h2 h3 h4 => opnAt_ins (k := k) hjl HS.out h1 h2 h3 h4)
        rw [← hxe] at c0 HSK HIN
        clear hxe HS
        have HU := Lib.hid (fun W (hb : Below wr.heap.size wr W) => HOW.out x W (hbw.trans (hb.mono hbw.size)))
        have HZB := Lib.hid (show B ≤ wr.heap.size by rw [← HBE.out]; exact hbw.size)
        clear hbw
        generalize owedB l x = U at *
        go_wp2
        clear c0
        go_loopw [6] (fun kk wq => ∃ (k : Nat), k ≤ outs.length ∧ kk = .int .i64 k ∧ wq = wr ∧ Hid (∀ i (_ : i < k) (hi : i < outs.length), outs[i] < x)) (fun kk _ => outs.length - (intOf kk).toNat)
        case atStart => exact ⟨0, by omega, rfl, rfl, Lib.hid (fun i h => by omega)⟩
        case round =>
          obtain ⟨k, hk, rfl, hwq, hd⟩ := hrel
          subst hwq
          by_cases hkn : (k : Int) < (outs.length : Int)
          · have hkn' : k < outs.length := by omega
            have hy := HR.out.cell k hkn'
            obtain ⟨y, hye⟩ : ∃ y, y = outs[k] := ⟨_, rfl⟩
            rw [← hye] at hy
            have HY := Lib.hid hye; clear hye
            by_cases hge : y < x
            · go_wp2
              go_roundw
              case rel =>
                refine ⟨k + 1, by omega, by go_num, by first | rfl | trivial, Lib.hid (fun i h hi => ?_)⟩
                by_cases e : i = k
                · subst e; rw [← HY.out]; exact hge
                · exact hd.out i (by omega) hi
              case measure => simp [intOf]; omega
            · have HGE := Lib.hid hge
              have dge : decide (y < x) = false := decide_eq_false hge
              clear hge
              go_wp2_with fail
              refine (HU.out _ (Below.refl _ _)).mono ?_; rintro e W ⟨rfl, hbW0⟩
              have HRW : Hid (RowI W B g c outs) := Lib.hid (OwnI.below HR.out hbW0)
              have HBW := Lib.hid (HB.out.trans (hbW0.mono HZB.out))
              have HZW := Lib.hid (Nat.le_trans HZB.out hbW0.size)
              clear hbW0
              have hyW := HRW.out.cell k hkn'
              rw [← HY.out] at hyW
              clear hy
              have kne : ((k : Int) == (outs.length : Int)) = false := beq_eq_false_iff_ne.2 (by omega)
              by_cases hU : 0 < U
              · have eU : decide (0 < U) = true := decide_eq_true hU
                by_cases hyx : y = x
                · have eyx : (y == x) = true := by simp [hyx]
                  have enx : (y != x) = false := by simp [hyx]
                  have HM := Lib.hid (show x ∈ outs by rw [← hyx, HY.out]; exact List.getElem_mem hkn')
                  clear hyx
                  have HN := Lib.hid (HSK.out (.inr HM.out))
                  go_wp2
                  go_roundw
                  case rel => exact ⟨j + 1, outs, g, c, by omega, by omega, by go_num, rfl, HN, HRW, HBW⟩
                  case measure => simp [intOf]; omega
                · have eyx : (y == x) = false := by simp [hyx]
                  have enx : (y != x) = true := by simp [hyx]
                  have HN := Lib.hid (HIN.out k hU hk (fun i h hi => hd.out i h hi) (fun h => by rw [← HY.out]; have := HGE.out; omega))
                  clear hyx
                  have HCP := Lib.hid (copy_head g c k outs W B HRW.out hk (by omega))
                  have htk : (outs.take k).length = k := by rw [List.length_take]; omega
                  have kc : (k : Int) ≤ (c : Int) := by omega
                  have kn : (k : Int) ≤ (outs.length : Int) := by omega
                  go_wp2_with fail
                  go_region_held3 (fun w' => True)
                    (go_keep)
                    (first
                      | (go_at_call 72; refine (HCP.out _ ?_).mono ?_; (focus (first | exact (Below.refl _ _) | exact (Below.refl _ _).drew | exact ((Below.refl _ _).alloc (Nat.le_refl _) _) | exact ((Below.refl _ _).alloc (Nat.le_refl _) _).drew)); (rintro e u ⟨g1, c1, rfl, ho, hg1, hbW, hkeep⟩; have HO := Lib.hid ho; have HK := Lib.hid hkeep; clear ho hkeep))
                      | (refine step_append_own_at _ (by rfl) (.tmp 58) (.tmp 60) 42 (by rfl) W.heap.size 3 i0 (.int .i64 0) 1 8 Try.underlying42 HI0.out.1 HI0.out.2.1 HI0.out.2.2.1 HI0.out.2.2.2 rfl (by omega) (.slice (some ⟨g1, 0, none⟩) k c1) k (intV (outs.take k)) (by rfl) ?_ ⟨u.heap.size, 0, none⟩ 1 1 (intV [x]) (by rfl) (by rfl) ?_ (one_int [x]) (by unfold maxLen; omega) (by omega) ?_ ?_; (focus (first | exact HO.out.alloc _ | exact (HO.out.alloc _).drew)); (focus (exact World.news_of_block (cs := #[.int .i64 x]) (t := 3) (fr := (0, 0)) (heap_alloc_new u _))); (focus (have := hbW.size; simp; omega)); (intro v' w1 hown hgrow hnil _; obtain ⟨g2, c2, rfl, hr2⟩ := RowI.of (n := k + 1) (l := outs.take k ++ [x]) (by rw [intV_app]; exact hown) (by simp; omega) (fun e => by have := (hnil.1 e).1; cases this); have hbW1 := app_done hbW ((Below.refl _ _).alloc hbW.size _) hgrow hg1; have HR2 := Lib.hid hr2; clear hown hgrow hnil hr2))
                      | (refine step_append_own_at _ (by rfl) (.tmp 58) (.tmp 60) 42 (by rfl) W.heap.size 3 i0 (.int .i64 0) 1 8 Try.underlying42 HI0.out.1 HI0.out.2.1 HI0.out.2.2.1 HI0.out.2.2.2 rfl (by omega) (.slice (some ⟨g1, 0, none⟩) k c1) k (intV (outs.take k)) (by rfl) ?_ ⟨W.heap.size, 0, none⟩ 1 1 (intV [x]) (by rfl) (by rfl) ?_ (one_int [x]) (by unfold maxLen; omega) (by omega) ?_ ?_; (focus (first | exact HO.out | exact HO.out.drew)); (focus (exact World.news_of_block (cs := #[.int .i64 x]) (t := 3) (fr := (0, 0)) (HK.out _ _ (heap_alloc_new W _)))); (focus (have := hbW.size; simp; omega)); (intro v' w1 hown hgrow hnil _; obtain ⟨g2, c2, rfl, hr2⟩ := RowI.of (n := k + 1) (l := outs.take k ++ [x]) (by rw [intV_app]; exact hown) (by simp; omega) (fun e => by have := (hnil.1 e).1; cases this); have hbW1 := app_done hbW (Below.refl _ _) hgrow hg1; have HR2 := Lib.hid hr2; clear hown hgrow hnil hr2))
                      | (refine step_append_own_at _ (by rfl) (.tmp 61) (.tmp 64) 42 (by rfl) W.heap.size 3 i0 (.int .i64 0) 1 8 Try.underlying42 HI0.out.1 HI0.out.2.1 HI0.out.2.2.1 HI0.out.2.2.2 rfl (by omega) (.slice (some ⟨g2, 0, none⟩) (k + 1) c2) (k + 1) (intV (outs.take k ++ [x])) (by rfl) ?_ ⟨g, k, none⟩ (outs.length - k) (c - k) (intV (outs.drop k)) (by rfl) ?_ ?_ (one_int _) (by unfold maxLen; omega) (by omega) ?_ ?_; (focus (first | exact RowI.own HR2.out (by simp; omega) | exact (RowI.own HR2.out (by simp; omega)).drew)); (focus (rw [intV_len, List.length_drop]; omega)); (focus (exact RowI.news (OwnI.below HRW.out hbW1) k)); (focus (have := hbW1.size; simp; omega)); (intro v' w3 hown hgrow hnil _; obtain ⟨g3, c3, rfl, hr3⟩ := RowI.of (n := k + 1 + (outs.length - k)) (l := outs.take k ++ [x] ++ outs.drop k) (by rw [intV_app]; exact hown) (by simp; omega) (fun e => by have := (hnil.1 e).1; cases this); have hbW3 := app_done hbW1 (Below.refl _ _) hgrow (RowI.low HR2.out); have HR3 := Lib.hid hr3; clear hown hgrow hnil hr3))
                      | fail)
                  all_goals
                    go_wp2
                    go_roundw
                    case rel =>
                      have hz3 : (outs.take k ++ x :: outs.drop k).length = k + 1 + (outs.length - k) := by rw [List.length_append, List.length_cons, htk, List.length_drop]; omega
                      refine ⟨j + 1, outs.take k ++ x :: outs.drop k, g3, c3, by omega, by rw [hz3]; omega, by go_num, by rw [hz3], HN, Lib.hid ?_, Lib.hid (HBW.out.trans (hbW3.mono HZW.out))⟩
                      have h3 := OwnI.mono HR3.out HZW.out
                      rw [List.append_assoc] at h3
                      exact h3
                    case measure => simp [intOf]; omega
              · have eU : decide (0 < U) = false := decide_eq_false hU
                have HN := Lib.hid (HSK.out (.inl (by omega)))
                go_wp2
                go_roundw
                case rel => exact ⟨j + 1, outs, g, c, by omega, by omega, by go_num, rfl, HN, HRW, HBW⟩
                case measure => simp [intOf]; omega
          · have hkl : outs.length ≤ k := by omega
            have hke : k = outs.length := by omega
            go_wp2_with fail
            refine (HU.out _ (Below.refl _ _)).mono ?_; rintro e W ⟨rfl, hbW0⟩
            have HRW : Hid (RowI W B g c outs) := Lib.hid (OwnI.below HR.out hbW0)
            have HBW := Lib.hid (HB.out.trans (hbW0.mono HZB.out))
            have HZW := Lib.hid (Nat.le_trans HZB.out hbW0.size)
            clear hbW0
            subst hke
            by_cases hU : 0 < U
            · have eU : decide (0 < U) = true := decide_eq_true hU
              have HN := Lib.hid (HIN.out outs.length hU (Nat.le_refl _) (fun i h hi => hd.out i h hi) (fun h => absurd h (by omega)))
              by_cases hck : outs.length < c
              all_goals
                have HCP := Lib.hid (copy_head g c outs.length outs W B HRW.out hk (by omega))
                have htk : (outs.take outs.length).length = outs.length := by rw [List.length_take]; omega
                have kc : (outs.length : Int) ≤ (c : Int) := by omega
                have kn : (outs.length : Int) ≤ (outs.length : Int) := by omega
                go_wp2_with fail
                go_region_held3 (fun w' => True)
                  (go_keep)
                  (first
                    | (go_at_call 72; refine (HCP.out _ ?_).mono ?_; (focus (first | exact (Below.refl _ _) | exact (Below.refl _ _).drew | exact ((Below.refl _ _).alloc (Nat.le_refl _) _) | exact ((Below.refl _ _).alloc (Nat.le_refl _) _).drew)); (rintro e u ⟨g1, c1, rfl, ho, hg1, hbW, hkeep⟩; have HO := Lib.hid ho; have HK := Lib.hid hkeep; clear ho hkeep))
                    | (refine step_append_own_at _ (by rfl) (.tmp 58) (.tmp 60) 42 (by rfl) W.heap.size 3 i0 (.int .i64 0) 1 8 Try.underlying42 HI0.out.1 HI0.out.2.1 HI0.out.2.2.1 HI0.out.2.2.2 rfl (by omega) (.slice (some ⟨g1, 0, none⟩) outs.length c1) outs.length (intV (outs.take outs.length)) (by rfl) ?_ ⟨u.heap.size, 0, none⟩ 1 1 (intV [x]) (by rfl) (by rfl) ?_ (one_int [x]) (by unfold maxLen; omega) (by omega) ?_ ?_; (focus (first | exact HO.out.alloc _ | exact (HO.out.alloc _).drew)); (focus (exact World.news_of_block (cs := #[.int .i64 x]) (t := 3) (fr := (0, 0)) (heap_alloc_new u _))); (focus (have := hbW.size; simp <;> omega)); (intro v' w1 hown hgrow hnil _; obtain ⟨g2, c2, rfl, hr2⟩ := RowI.of (n := outs.length + 1) (l := outs.take outs.length ++ [x]) (by rw [intV_app]; exact hown) (by simp <;> omega) (fun e => by have := (hnil.1 e).1; cases this); have hbW1 := app_done hbW ((Below.refl _ _).alloc hbW.size _) hgrow hg1; have HR2 := Lib.hid hr2; clear hown hgrow hnil hr2))
                    | (refine step_append_own_at _ (by rfl) (.tmp 58) (.tmp 60) 42 (by rfl) W.heap.size 3 i0 (.int .i64 0) 1 8 Try.underlying42 HI0.out.1 HI0.out.2.1 HI0.out.2.2.1 HI0.out.2.2.2 rfl (by omega) (.slice (some ⟨g1, 0, none⟩) outs.length c1) outs.length (intV (outs.take outs.length)) (by rfl) ?_ ⟨W.heap.size, 0, none⟩ 1 1 (intV [x]) (by rfl) (by rfl) ?_ (one_int [x]) (by unfold maxLen; omega) (by omega) ?_ ?_; (focus (first | exact HO.out | exact HO.out.drew)); (focus (exact World.news_of_block (cs := #[.int .i64 x]) (t := 3) (fr := (0, 0)) (HK.out _ _ (heap_alloc_new W _)))); (focus (have := hbW.size; simp <;> omega)); (intro v' w1 hown hgrow hnil _; obtain ⟨g2, c2, rfl, hr2⟩ := RowI.of (n := outs.length + 1) (l := outs.take outs.length ++ [x]) (by rw [intV_app]; exact hown) (by simp <;> omega) (fun e => by have := (hnil.1 e).1; cases this); have hbW1 := app_done hbW (Below.refl _ _) hgrow hg1; have HR2 := Lib.hid hr2; clear hown hgrow hnil hr2))
                    | (refine step_append_own_at _ (by rfl) (.tmp 61) (.tmp 64) 42 (by rfl) W.heap.size 3 i0 (.int .i64 0) 1 8 Try.underlying42 HI0.out.1 HI0.out.2.1 HI0.out.2.2.1 HI0.out.2.2.2 rfl (by omega) (.slice (some ⟨g2, 0, none⟩) (outs.length + 1) c2) (outs.length + 1) (intV (outs.take outs.length ++ [x])) (by rfl) ?_ ⟨g, outs.length, none⟩ 0 (c - outs.length) (intV (outs.drop outs.length)) (by rfl) ?_ ?_ (one_int _) (by unfold maxLen; omega) (by omega) ?_ ?_; (focus (first | exact RowI.own HR2.out (by simp <;> omega) | exact (RowI.own HR2.out (by simp <;> omega)).drew)); (focus (rw [intV_len, List.length_drop]; try omega)); (focus (exact RowI.news (OwnI.below HRW.out hbW1) outs.length)); (focus (have := hbW1.size; simp <;> omega)); (intro v' w3 hown hgrow hnil _; obtain ⟨g3, c3, rfl, hr3⟩ := RowI.of (n := outs.length + 1) (l := outs.take outs.length ++ [x] ++ outs.drop outs.length) (by rw [intV_app]; exact hown) (by simp <;> omega) (fun e => by have := (hnil.1 e).1; cases this); have hbW3 := app_done hbW1 (Below.refl _ _) hgrow (RowI.low HR2.out); have HR3 := Lib.hid hr3; clear hown hgrow hnil hr3))
                    | (refine step_append_own_at _ (by rfl) (.tmp 61) (.tmp 64) 42 (by rfl) W.heap.size 3 i0 (.int .i64 0) 1 8 Try.underlying42 HI0.out.1 HI0.out.2.1 HI0.out.2.2.1 HI0.out.2.2.2 rfl (by omega) (.slice (some ⟨g2, 0, none⟩) (outs.length + 1) c2) (outs.length + 1) (intV (outs.take outs.length ++ [x])) (by rfl) ?_ ⟨g, 0, none⟩ 0 (c - outs.length) (intV (outs.drop outs.length)) (by rfl) ?_ ?_ (one_int _) (by unfold maxLen; omega) (by omega) ?_ ?_; (focus (first | exact RowI.own HR2.out (by simp <;> omega) | exact (RowI.own HR2.out (by simp <;> omega)).drew)); (focus (rw [intV_len, List.length_drop]; try omega)); (focus (rw [List.drop_eq_nil_of_le hkl]; intro j u hu; simp [intV] at hu)); (focus (have := hbW1.size; simp <;> omega)); (intro v' w3 hown hgrow hnil _; obtain ⟨g3, c3, rfl, hr3⟩ := RowI.of (n := outs.length + 1) (l := outs.take outs.length ++ [x] ++ outs.drop outs.length) (by rw [intV_app]; exact hown) (by simp <;> omega) (fun e => by have := (hnil.1 e).1; cases this); have hbW3 := app_done hbW1 (Below.refl _ _) hgrow (RowI.low HR2.out); have HR3 := Lib.hid hr3; clear hown hgrow hnil hr3))
                    | (refine step_append_own_at _ (by rfl) (.tmp 61) (.tmp 64) 42 (by rfl) W.heap.size 3 i0 (.int .i64 0) 1 8 Try.underlying42 HI0.out.1 HI0.out.2.1 HI0.out.2.2.1 HI0.out.2.2.2 rfl (by omega) (.slice (some ⟨g2, 0, none⟩) (outs.length + 1) c2) (outs.length + 1) (intV (outs.take outs.length ++ [x])) (by rfl) ?_ ⟨g, 0, none⟩ 0 0 (intV (outs.drop outs.length)) (by rfl) ?_ ?_ (one_int _) (by unfold maxLen; omega) (by omega) ?_ ?_; (focus (first | exact RowI.own HR2.out (by simp <;> omega) | exact (RowI.own HR2.out (by simp <;> omega)).drew)); (focus (rw [intV_len, List.length_drop]; try omega)); (focus (rw [List.drop_eq_nil_of_le hkl]; intro j u hu; simp [intV] at hu)); (focus (have := hbW1.size; simp <;> omega)); (intro v' w3 hown hgrow hnil _; obtain ⟨g3, c3, rfl, hr3⟩ := RowI.of (n := outs.length + 1) (l := outs.take outs.length ++ [x] ++ outs.drop outs.length) (by rw [intV_app]; exact hown) (by simp <;> omega) (fun e => by have := (hnil.1 e).1; cases this); have hbW3 := app_done hbW1 (Below.refl _ _) hgrow (RowI.low HR2.out); have HR3 := Lib.hid hr3; clear hown hgrow hnil hr3))
                    | fail)
                all_goals
                  go_wp2
                  go_roundw
                  case rel =>
                    have hz3 : (outs.take outs.length ++ x :: outs.drop outs.length).length = outs.length + 1 := by rw [List.length_append, List.length_cons, htk, List.length_drop]; omega
                    refine ⟨j + 1, outs.take outs.length ++ x :: outs.drop outs.length, g3, c3, by omega, by rw [hz3]; omega, by go_num, by rw [hz3], HN, Lib.hid ?_, Lib.hid (HBW.out.trans (hbW3.mono HZW.out))⟩
                    have h3 := OwnI.mono HR3.out HZW.out
                    rw [List.append_assoc] at h3
                    exact h3
                  case measure => simp [intOf]; omega
            · have eU : decide (0 < U) = false := decide_eq_false hU
              have HN := Lib.hid (HSK.out (.inl (by omega)))
              go_wp2
              go_roundw
              case rel => exact ⟨j + 1, outs, g, c, by omega, by omega, by go_num, rfl, HN, HRW, HBW⟩
              case measure => simp [intOf]; omega
      · obtain rfl : j = l.length := by omega
        have HE := Lib.hid (HOB.out outs HS.out)
        go_wp2
        go_ret
        exact ⟨_, rfl, by rw [← HE.out]; first | exact HR.out | (rw [HBE.out]; exact HR.out), by first | exact HB.out | (rw [HBE.out]; exact HB.out)⟩
end Go.Proofs.Ytadcmngooobeiaa

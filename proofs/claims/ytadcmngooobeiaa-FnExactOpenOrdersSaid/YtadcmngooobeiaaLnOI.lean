/- OpenOrders, the program. Written by hand. -/
import Derived.Test.YtadcmngooobeiaaLnO
import Derived.Test.YtadcmngooobeiaaLnB
import Derived.Test.YtadcmngooobeiaaCopyI
import Derived.Test.YtadcmngooobeiaaShelfX
import Derived.Sort.OwnSortedInts
namespace Go.Proofs.Ytadcmngooobeiaa
open Go.RowKit Go.Shelf Go.Lib Go.Sort
theorem sort_asc {w : World} {base g cap : Nat} {zs : List Int} (h : OwnI w base (.slice (some ⟨g, 0, none⟩) zs.length cap) zs) (hn : zs.length ≤ 17592186044415) :
    Calls Try.prog 73 #[.slice (some ⟨g, 0, none⟩) zs.length cap] w fun e w' => e = .returned (.tuple #[]) ∧ OwnI w' base (.slice (some ⟨g, 0, none⟩) zs.length cap) (asc zs) ∧ w.grownBy w' (some g) := by
  rcases h.2 with ⟨e, _⟩ | ⟨g', c, cur, e, hb, hblk, h1, h2, h3, h4⟩
  · cases e
  cases e
  rw [Nat.mul_one] at h4
  have hH := holds_of_blockI hblk h4
  have hS := Try.slices_Sort_int g 0 cap zs w hH (Array.getElem?_eq_some_iff.1 hblk).1 (by omega)
  refine hS.mono ?_
  rintro e w' ⟨rfl, n, os, rfl⟩
  refine ⟨rfl, ?_, grownBy_sortedI _⟩
  have := ownsRow_sortedI (n := n) (os := os) (ts := asc zs) (ss := zs) (asc_len zs) hb hblk h1 h2 (by rw [h3])
  unfold OwnI
  rw [asc_len]
  exact this
set_option maxRecDepth 100000 in
set_option maxHeartbeats 2000000 in
theorem open_impl (A : Option Addr) (ca : Nat) (l : List Ln) (w : World) (hA : InK 4 lnC w A l) (hc : l.length ≤ ca) (hn : l.length ≤ 1048576) :
    Calls Try.prog 48 #[.slice A l.length ca] w fun e w' => ∃ v, e = .returned v ∧ OwnI w' w.heap.size v (openB l) ∧ Below w.heap.size w w' := by
  obtain ⟨i0, hi0, hz0, hz1, hz2⟩ := info_parts int_info
  have hbA := (Below.refl w.heap.size w).alloc (Nat.le_refl _) (.cells #[] 3)
  have HO := Lib.hid (ownI_new w)
  have HLN := Lib.hid (lines_impl A ca l _ (hA.below hbA) hc hn)
  have HB := Lib.hid hbA
  have HSZ := Lib.hid hbA.size
  have HV := Lib.hid (show openB l = (if linesB l = true then asc (opnL l) else []) from rfl)
  have HA := Lib.hid hA
  clear hbA hA
  generalize openB l = R at *
  generalize hB : w.heap.size = B at HO HLN HB HSZ ⊢
  have HBE := Lib.hid hB
  cases q : linesB l with
  | false =>
    replace HV := Lib.hid (HV.out.trans (show _ = [] by rw [q]; rfl))
    rw [q] at HLN
    clear q
    go_enter Try.func48, Try.ntmps48
    go_wp2_with fail
    clear hB
    obtain ⟨V0, hV0⟩ : ∃ V0 : Value, V0 = .slice (some ⟨B, 0, none⟩) 0 0 := ⟨_, rfl⟩
    rw [← hV0] at HO
    rw [← hV0]
    clear hV0
    generalize (w.alloc (.cells #[] 3)) = W0 at *
    refine HLN.out.mono ?_; rintro e w1 ⟨rfl, hb⟩
    replace HO := Lib.hid (OwnI.below HO.out hb)
    replace HB := Lib.hid (HB.out.trans (hb.mono HSZ.out)); clear hb
    go_wp2
    go_ret
    exact ⟨_, rfl, by rw [HV.out]; first | exact HO.out | (rw [HBE.out]; exact HO.out), by first | exact HB.out | (rw [HBE.out]; exact HB.out)⟩
  | true =>
    replace HV := Lib.hid (HV.out.trans (show _ = asc (opnL l) by rw [q]; rfl))
    rw [q] at HLN
    have HOW := Lib.hid (fun o' W (hb : Below w.heap.size w W) => (show Calls Try.prog 68 #[.slice A l.length ca, .int .i64 o'] W fun e w' => e = .returned (.int .i64 (owedB l o')) ∧ Below W.heap.size W w' by
      rw [show owedB l o' = sumT l o' 1 - sumT l o' 2 by unfold owedB; rw [q]; rfl]
      exact owedU o' A ca l W (HA.out.below hb) q))
    clear q
    have HYE := Lib.hid (fun j (h : j < l.length) (e : opnF l l[j] = true) => filt_yes (p := opnF l) h e)
    have HNO := Lib.hid (fun j (h : j < l.length) (e : opnF l l[j] = false) => filt_no (p := opnF l) h e)
    have HOP := Lib.hid (fun o' k' a' t' => show opnF l ⟨o', k', a', t'⟩ = (decide (k' = 1) && decide (0 < owedB l o')) from rfl)
    have HRS := Lib.hid (show opnL l = ((l.take l.length).filter (opnF l)).map Ln.o by rw [List.take_length]; rfl)
    have HOL := Lib.hid (opnL_len l)
    generalize opnF l = F at *
    generalize opnL l = ZS at *
    go_enter Try.func48, Try.ntmps48
    go_wp2_with fail
    clear hB
    obtain ⟨V0, hV0⟩ : ∃ V0 : Value, V0 = .slice (some ⟨B, 0, none⟩) 0 0 := ⟨_, rfl⟩
    have HN0 := Lib.hid (show V0 ≠ .slice none 0 0 by rw [hV0]; intro h; cases h)
    rw [← hV0] at HO
    rw [← hV0]
    clear hV0
    generalize (w.alloc (.cells #[] 3)) = W0 at *
    refine HLN.out.mono ?_; rintro e w1 ⟨rfl, hb⟩
    replace HO := Lib.hid (OwnI.below HO.out hb)
    replace HB := Lib.hid (HB.out.trans (hb.mono HSZ.out)); clear hb HLN HSZ
    go_wp2
    go_loopw [3, 13] (fun v i wr => ∃ k : Nat, k ≤ l.length ∧ i = .int .i64 k ∧ Hid (OwnI wr B v (((l.take k).filter F).map Ln.o)) ∧ Hid (v ≠ .slice none 0 0) ∧ Hid (Below B w wr)) (fun _ i _ => l.length - (intOf i).toNat)
    case atStart => exact ⟨0, Nat.zero_le _, rfl, HO, HN0, HB⟩
    case round =>
      clear HO HB HN0
      obtain ⟨k, hk, rfl, ho, hnz, hb⟩ := hrel
      have hbz : B ≤ wr.heap.size := by rw [← HBE.out]; exact (show Below w.heap.size w wr by rw [HBE.out]; exact hb.out).size
      by_cases hlt : (k : Int) < (l.length : Int)
      · have hkn : k < l.length := by omega
        have hbw : Below w.heap.size w wr := by rw [HBE.out]; exact hb.out
        obtain ⟨a, rfl, ha, c0, c1, c2, c3⟩ := (HA.out.below hbw).ln k hkn
        have HY := Lib.hid (HYE.out k hkn); have HNN := Lib.hid (HNO.out k hkn)
        have hDl := List.length_filter_le F (l.take k)
        rw [List.length_take] at hDl
        generalize (l.take k).filter F = D at *
        generalize l[k] = y at *
        obtain ⟨yo, yk, ya, yt⟩ := y
        have HOPy := Lib.hid (HOP.out yo yk ya yt)
        dsimp only at c0 c1 c2 c3
        have hbA := (Below.refl wr.heap.size wr).alloc (Nat.le_refl _) (.cells #[.int .i64 yo, .int .i64 yk, .int .i64 ya, .int .i64 yt] 25)
        have FT := Lib.hid (Bx.new (T := 25) wr [.int .i64 yo, .int .i64 yk, .int .i64 ya, .int .i64 yt])
        have HU := Lib.hid (HOW.out yo _ (hbw.trans (hbA.mono hbw.size)))
        have HO1 := Lib.hid (OwnI.below ho.out hbA)
        have HB1 := Lib.hid (hb.out.trans (hbA.mono hbz))
        have HS1 := Lib.hid (Nat.le_trans hbz hbA.size)
        generalize owedB l yo = U at *
        obtain ⟨n, hn'⟩ : ∃ n, n = (D.map Ln.o).length := ⟨_, rfl⟩
        have hnk : n ≤ 1048576 := by rw [hn', List.length_map]; omega
        have HN := Lib.hid hn'.symm
        clear hn' hDl hbA hbw ho hb
        by_cases k1 : yk = 1
        · have ek : (yk == 1) = true := by simp [k1]
          by_cases hU : 0 < U
          · have HD := Lib.hid (show (((l.take (k + 1)).filter F).map Ln.o) = D.map Ln.o ++ [yo] by rw [HY.out (HOPy.out.trans (by rw [decide_eq_true k1, decide_eq_true hU]; rfl)), List.map_append]; rfl)
            have eU : decide (0 < U) = true := decide_eq_true hU
            clear HNN HY HOPy k1 hU
            go_wp2_with fail
            generalize wr.heap.size = G at *
            change Hid (Bx 25 (wr.alloc (.cells #[.int .i64 yo, .int .i64 yk, .int .i64 ya, .int .i64 yt] 25)) G [.int .i64 yo, .int .i64 yk, .int .i64 ya, .int .i64 yt]) at FT
            generalize wr.alloc (.cells #[.int .i64 yo, .int .i64 yk, .int .i64 ya, .int .i64 yt] 25) = V1 at *
            refine HU.out.mono ?_; rintro e w2 ⟨rfl, hb2⟩
            replace FT := Lib.hid (FT.out.below hb2)
            have hlit := (Below.refl w2.heap.size w2).alloc (Nat.le_refl _) (.cells #[.int .i64 yo] 3)
            have HO2 := Lib.hid (OwnI.atN (OwnI.below (OwnI.below HO1.out hb2) hlit) HN.out)
            have HB2 := Lib.hid (HB1.out.trans (hb2.mono HS1.out))
            have hs2 : B ≤ w2.heap.size := Nat.le_trans HS1.out hb2.size
            have HLO := Lib.hid (fun q h => (World.ownsRow.lt HO1.out q h).1)
            clear hlit hb2
            have x0_ := FT.out.cell 0 _ rfl; have x1_ := FT.out.cell 1 _ rfl
            go_wp2_with (at_builtin; refine wpList_append_own _ rfl _ _ 42 rfl B 3 i0 _ 1 8 Try.underlying42 hi0 hz0 hz1 hz2 rfl (by decide) _ n (intV (D.map Ln.o)) rfl HO2.out ⟨w2.heap.size, 0, none⟩ 1 1 (intV [yo]) rfl rfl (enc_news _ _ _) (one_int _) (by unfold maxLen; omega) (by omega) (by simp; omega) ?_; intro v' w5 hown' hgr hnil)
            go_roundw
            case rel => exact ⟨k + 1, by omega, by go_num, Lib.hid (by rw [HD.out]; exact ownI_push hown' HN.out), Lib.hid (fun e => hnz.out (hnil.1 e).1), Lib.hid ((HB2.out.alloc hs2 _).grown hgr (by simp; omega) HLO.out)⟩
            case measure => simp [intOf]; omega
          · have HD := Lib.hid (show (((l.take (k + 1)).filter F).map Ln.o) = D.map Ln.o by rw [HNN.out (HOPy.out.trans (by rw [decide_eq_false hU, Bool.and_false]))])
            have eU : decide (0 < U) = false := decide_eq_false hU
            clear HNN HY HOPy k1 hU
            go_wp2_with fail
            refine HU.out.mono ?_; rintro e w2 ⟨rfl, hb2⟩
            go_wp2
            go_roundw
            case rel => exact ⟨k + 1, by omega, by go_num, Lib.hid (by rw [HD.out]; exact OwnI.below HO1.out hb2), hnz, Lib.hid (HB1.out.trans (hb2.mono HS1.out))⟩
            case measure => simp [intOf]; omega
        · have HD := Lib.hid (show (((l.take (k + 1)).filter F).map Ln.o) = D.map Ln.o by rw [HNN.out (HOPy.out.trans (by rw [decide_eq_false k1, Bool.false_and]))])
          have ek : (yk == 1) = false := by simp [k1]
          clear HNN HY HOPy k1
          go_wp2
          go_roundw
          case rel => exact ⟨k + 1, by omega, by go_num, Lib.hid (by rw [HD.out]; exact HO1.out), hnz, HB1⟩
          case measure => simp [intOf]; omega
      · obtain rfl : k = l.length := by omega
        have ho2 := ho.out
        rw [← HRS.out] at ho2
        obtain ⟨g, c, rfl, hr⟩ := rowI_of ho2 hnz.out
        have HR := Lib.hid hr
        have HSO := Lib.hid (sort_asc hr (by have := HOL.out; omega))
        clear ho ho2 hr
        go_wp2_with fail
        refine HSO.out.mono ?_; rintro e w2 ⟨rfl, ho3, hg3⟩
        have HO3 := Lib.hid ho3
        have HB3 := Lib.hid (hb.out.grown hg3 (by have := hbz; omega) (fun k e => by have e' := Option.some.inj e; have := (World.ownsRow.lt HR.out g rfl).1; omega))
        clear ho3 hg3
        go_wp2
        go_ret
        exact ⟨_, rfl, by rw [HV.out]; first | exact HO3.out | (rw [HBE.out]; exact HO3.out), by first | exact HB3.out | (rw [HBE.out]; exact HB3.out)⟩
end Go.Proofs.Ytadcmngooobeiaa

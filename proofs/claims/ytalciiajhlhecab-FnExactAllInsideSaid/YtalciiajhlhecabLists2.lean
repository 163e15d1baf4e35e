/- The contract of spec.AllInside. -/
import Derived.Test.YtalciiajhlhecabLists
namespace Go.Proofs.Ytalciiajhlhecab
open Go.RowKit
set_option maxRecDepth 100000 in
set_option maxHeartbeats 1000000 in
theorem allin_spec (id : Int) (A : Option Addr) (ca : Nat) (l : List Th) (w : World) (hA : InK 6 thC w A l) (hn : l.length ≤ 1048576) :
    Calls Try.prog 20 #[.slice A l.length ca, .int .i64 id] w fun e w' => ∃ v, e = .returned v ∧ OwnI w' w.heap.size v (allB l id) ∧ Below w.heap.size w w' := by
  obtain ⟨i0, hi0, hz0, hz1, hz2⟩ := info_parts int_info
  have HA := Lib.hid hA; clear hA
  have HT := Lib.hid (fun W h => are_spec A ca l W h hn)
  have HF := Lib.hid (fun W h => find_same id A ca l W h hn)
  have HO0 := Lib.hid (ownI_new w)
  have HB0 := Lib.hid ((Below.refl w.heap.size w).alloc (Nat.le_refl _) (.cells #[] 3))
  have HC := Lib.hid (ask_cases l id)
  cases ht : thsB l with
  | false =>
    have HV := Lib.hid (show allB l id = [] by unfold allB; rw [ask_bad id ht]; rfl)
    rw [ht] at HT
    clear ht HC
    go_enter Try.func20, Try.ntmps20
    go_wp2_with fail
    refine (HT.out _ (HA.out.below HB0.out)).mono ?_; rintro e w1 ⟨rfl, hb1⟩
    have HO := Lib.hid (HO0.out.below hb1)
    go_wp2
    go_ret
    exact ⟨_, rfl, by rw [HV.out]; exact HO.out, HB0.out.trans (hb1.mono HB0.out.size)⟩
  | true =>
    rw [ht] at HT
    by_cases hf : fnd l id < 0
    · have HV := Lib.hid (show allB l id = [] by unfold allB; rw [ask_miss hf]; rfl)
      obtain ⟨F, hF⟩ : ∃ F, F = fnd l id := ⟨_, rfl⟩
      rw [← hF] at HF hf
      clear ht hF HC
      go_enter Try.func20, Try.ntmps20
      go_wp2_with fail
      refine (HT.out _ (HA.out.below HB0.out)).mono ?_; rintro e w1 ⟨rfl, hb1⟩
      have HO := Lib.hid (HO0.out.below hb1)
      have HB1 := Lib.hid (HB0.out.trans (hb1.mono HB0.out.size))
      clear hb1
      go_wp2_with fail
      refine (HF.out _ (HA.out.below HB1.out)).mono ?_; rintro e w2 ⟨rfl, rfl⟩
      go_wp2
      go_ret
      exact ⟨_, rfl, by rw [HV.out]; exact HO.out, HB1.out⟩
    · have HV := Lib.hid (show allB l id = (l.filter (fun u => arB l u id)).map Th.d by
        rcases HC.out with ⟨h, _⟩ | ⟨k, hk, he, _, ⟨h2, _⟩ | ⟨_, ha⟩⟩
        · exact absurd h hf
        · rw [ht] at h2; cases h2
        · exact all_some ha)
      have hl40 := (ths_of ht).len
      have HR := Lib.hid (fun k (hk : k < l.length) W h => around_l5 l[k].d id k A ca l W h (ths_of ht) hk ((ths_of ht).lis.at_ hk))
      have hfd : decide (fnd l id < 0) = false := decide_eq_false hf
      obtain ⟨F, hF⟩ : ∃ F, F = fnd l id := ⟨_, rfl⟩
      rw [← hF] at HF hf hfd
      clear ht hF HC hf
      go_enter Try.func20, Try.ntmps20
      go_wp2_with fail
      refine (HT.out _ (HA.out.below HB0.out)).mono ?_; rintro e w1 ⟨rfl, hb1⟩
      have HO := Lib.hid (HO0.out.below hb1)
      have HB1 := Lib.hid (HB0.out.trans (hb1.mono HB0.out.size))
      clear hb1
      go_wp2_with fail
      refine (HF.out _ (HA.out.below HB1.out)).mono ?_; rintro e w2 ⟨rfl, rfl⟩
      generalize hB : w.heap.size = B at *
      have HBE := Lib.hid hB; clear hB
      obtain ⟨V0, hV0⟩ : ∃ V0 : Value, V0 = .slice (some ⟨B, 0, none⟩) 0 0 := ⟨_, rfl⟩
      rw [← hV0] at HO
      go_wp2
      rw [← hV0]
      clear hV0 hfd HO0 HB0 HT HF
      go_loopw [5, 6] (fun v i wr => ∃ k : Nat, k ≤ l.length ∧ i = .int .i64 k ∧ OwnI wr B v (((l.take k).filter (fun u => arB l u id)).map Th.d) ∧ Below B w wr) (fun _ i _ => l.length - (intOf i).toNat)
      case atStart => exact ⟨0, Nat.zero_le _, rfl, HO.out, HB1.out⟩
      case round =>
        clear HO HB1
        obtain ⟨k, hk, rfl, ho, hb⟩ := hrel
        have hbz : B ≤ wr.heap.size := by rw [← HBE.out]; exact hb.size
        by_cases hlt : (k : Int) < (l.length : Int)
        · have hkn : k < l.length := by omega
          have HAW := Lib.hid (HA.out.below (show Below w.heap.size w wr by rw [HBE.out]; exact hb))
          obtain ⟨g, rfl, hg, c0, z1, z2, c3, z4, z5⟩ := HAW.out.th k hkn
          clear z1 z2 c3 z4 z5
          have HRk := Lib.hid (HR.out k hkn wr HAW.out)
          have HYE := Lib.hid (fil_take_yes (l := l) (p := fun u => arB l u id) hkn)
          have HNO := Lib.hid (fil_take_no (l := l) (p := fun u => arB l u id) hkn)
          have hDl := List.length_filter_le (fun u : Th => arB l u id) (l.take k)
          rw [List.length_take] at hDl
          generalize (l.take k).filter (fun u => arB l u id) = D at *
          generalize arB l l[k] id = q at *
          generalize l[k] = y at *
          have HOO := Lib.hid ho
          obtain ⟨n, hn'⟩ : ∃ n, n = (D.map Th.d).length := ⟨_, rfl⟩
          have hnk : n ≤ 40 := by rw [hn', List.length_map]; omega
          have HN := Lib.hid hn'.symm
          unfold OwnI at ho
          rw [← hn'] at ho
          clear hn' hDl
          go_wp2_with fail
          refine HRk.out.mono ?_; rintro e w3 ⟨rfl, rfl⟩
          cases q with
          | true =>
            have HD := Lib.hid (show (((l.take (k + 1)).filter (fun u => arB l u id)).map Th.d) = D.map Th.d ++ [y.d] by rw [HYE.out rfl]; simp)
            clear HNO HYE
            go_wp2_with (at_builtin; refine wpList_append_own _ rfl _ _ 27 rfl B 3 i0 _ 1 8 Try.underlying27 hi0 hz0 hz1 hz2 rfl (by decide) _ n (intV (D.map Th.d)) rfl (ho.alloc _) ⟨w3.heap.size, 0, none⟩ 1 1 (intV [y.d]) rfl rfl (int_news _ _) (one_int _) (by unfold maxLen; omega) (by omega) (by simp; omega) ?_; intro v' w5 hown' hgr hnil)
            go_roundw
            case rel => exact ⟨k + 1, by omega, by go_num, by rw [HD.out]; exact ownI_push hown' HN.out, (hb.alloc hbz _).grown hgr (by simp; omega) (fun q h => (World.ownsRow.lt HOO.out q h).1)⟩
            case measure => simp [intOf]; omega
          | false =>
            have HD := Lib.hid (HNO.out rfl)
            clear HNO HYE
            go_wp2
            go_roundw
            case rel => exact ⟨k + 1, by omega, by go_num, by rw [HD.out]; exact HOO.out, hb⟩
            case measure => simp [intOf]; omega
        · obtain rfl : k = l.length := by omega
          have HOO := Lib.hid ho; clear ho
          go_wp2
          go_ret
          exact ⟨_, rfl, by have h := HOO.out; rw [List.take_length] at h; rw [HBE.out, HV.out]; exact h, by rw [HBE.out]; exact hb⟩
end Go.Proofs.Ytalciiajhlhecab

/- Contracts of idsOf, and of InsideOf and AllInside, both texts. -/
import Derived.Test.YtalciiajhlhecabAsk3
import Derived.Test.YtalciiajhlhecabCopyI
namespace Go.Proofs.Ytalciiajhlhecab
open Go.RowKit
theorem ins_some {l : List Th} {id : Int} {t : Th} (h : ask l id = some t) : insB l id = (l.filter (fun u => u.n == id)).map Th.d := by
  unfold insB; rw [h]; obtain ⟨_, _, hd, _⟩ := ask_some h; subst hd; rfl
theorem all_some {l : List Th} {id : Int} {t : Th} (h : ask l id = some t) : allB l id = (l.filter (fun u => arB l u id)).map Th.d := by
  unfold allB; rw [h]; obtain ⟨_, _, hd, _⟩ := ask_some h; subst hd; rfl
set_option maxRecDepth 100000 in
set_option maxHeartbeats 1000000 in
theorem ids_of (A : Option Addr) (ca : Nat) (l : List Th) (w : World) (hA : InK 6 thC w A l) (hn : l.length ≤ 1048576) :
    Calls Try.prog 59 #[.slice A l.length ca] w fun e w' => (∃ v, e = .returned v ∧ OwnI w' w.heap.size v (l.map Th.d)) ∧ Below w.heap.size w w' := by
  have HA := Lib.hid hA; clear hA
  have hmk := make_ints l.length (by omega)
  have h0 := heap_alloc_new w (.cells (madeCells #[.int .i64 0] l.length) 3)
  have hb0 := (Below.refl w.heap.size w).alloc (Nat.le_refl _) (.cells (madeCells #[.int .i64 0] l.length) 3)
  rw [made_one] at h0 hb0
  obtain ⟨zs, hzs⟩ : ∃ zs, zs = l.map Th.d := ⟨_, rfl⟩
  have hzl : zs.length = l.length := by rw [hzs]; simp
  have HZ := Lib.hid (fun k (hk : k < l.length) (hk2 : k < zs.length) => show zs[k] = l[k].d by subst hzs; simp)
  rw [← hzs]
  rw [← hzl] at h0
  have HZL := Lib.hid hzl
  clear hzs hzl
  go_enter Try.func59, Try.ntmps59
  go_wp2
  rw [made_one]
  clear hmk
  obtain ⟨g, hg⟩ : ∃ g, g = w.heap.size := ⟨_, rfl⟩
  rw [← hg] at h0 hb0 ⊢
  have hgl : g ≤ w.heap.size := by omega
  have hgu : w.heap.size ≤ g := by omega
  have HG := Lib.hid hg; clear hg
  have HH0 := Lib.hid (show (w.alloc (.cells (List.replicate l.length (Value.int IntKind.i64 0)).toArray 3)).heap[g]? = some (.cells (intV (zs.take 0) ++ List.replicate (zs.length - 0) (Value.int .i64 0)).toArray 3 (0, 0)) from by rw [HZL.out] at h0 ⊢; simpa [intV] using h0)
  clear h0
  generalize w.alloc (.cells (List.replicate l.length (Value.int IntKind.i64 0)).toArray 3) = W at *
  go_loopw [11] (fun i wr => ∃ k : Nat, k ≤ l.length ∧ i = .int .i64 k ∧ wr.heap[g]? = some (.cells (intV (zs.take k) ++ List.replicate (zs.length - k) (Value.int .i64 0)).toArray 3 (0, 0)) ∧ Below g w wr) (fun i _ => l.length - (intOf i).toNat)
  case atStart => exact ⟨0, Nat.zero_le _, rfl, HH0.out, hb0⟩
  case round =>
    clear HH0 hb0
    obtain ⟨k, hk, rfl, hblk, hb⟩ := hrel
    by_cases hlt : (k : Int) < (l.length : Int)
    · have hkn : k < l.length := by omega
      obtain ⟨g', rfl, hg', c0, c1, c2, c3, c4, c5⟩ := (HA.out.below (hb.mono hgu)).th k hkn
      have HZk := Lib.hid (HZ.out k hkn (by rw [HZL.out]; exact hkn))
      have hgw : g < wr.heap.size := (Array.getElem?_eq_some_iff.1 hblk).1
      have hS1 := ints_made wr zs k hblk (by have := HZL.out; omega)
      rw [HZk.out] at hS1
      have HS0 := Lib.hid ((Below.heap_alloc _ (.cells (thL l[k]) 51) g (Array.getElem?_eq_some_iff.1 hS1).1).trans hS1)
      have HBA := Lib.hid ((hb.setCell (p := ⟨g, k, none⟩) (Nat.le_refl _) (.int .i64 l[k].d)).alloc (Nat.le_of_lt (Array.getElem?_eq_some_iff.1 hS1).1) (.cells (thL l[k]) 51))
      have hd : wr.cell? ⟨g, k, none⟩ = some (Value.int .i64 0) := by
        rw [cell_of_row wr g k _ _ _ hblk]
        have hl : (intV (zs.take k)).length = k := by rw [intV_len, List.length_take]; have := HZL.out; omega
        rw [List.getElem?_toArray, List.getElem?_append_right (by omega), hl, List.getElem?_replicate, if_pos (by have := HZL.out; omega)]
      have hf : wr.frozen? ⟨g, k, none⟩ = false := frozen_of_row wr g k _ _ hblk
      clear hblk hS1 hb HZk
      generalize l[k] = y at *
      go_wp2
      go_roundw
      case rel => exact ⟨k + 1, by omega, by go_num, HS0.out, HBA.out⟩
      case measure => simp [intOf]; omega
    · obtain rfl : k = l.length := by omega
      have HB := Lib.hid hblk; clear hblk
      go_wp2
      go_ret
      refine ⟨⟨_, rfl, ⟨by simp [intV], .inr ⟨g, l.length, (intV zs).toArray, by rw [HZL.out]; rfl, by omega, ?_, by rw [HZL.out]; exact Nat.le_refl _, by unfold maxLen; omega, by rw [← HZL.out]; simp [intV], ?_⟩⟩⟩, by rw [← HG.out]; exact hb⟩
      · have h := HB.out
        rw [← HZL.out, List.take_length, Nat.sub_self] at h
        simpa using h
      · exact List.take_of_length_le (by simp [intV])
set_option maxRecDepth 100000 in
set_option maxHeartbeats 1000000 in
theorem inside_impl (id : Int) (A : Option Addr) (ca : Nat) (l : List Th) (w : World) (hA : InK 6 thC w A l) (hn : l.length ≤ 1048576) :
    Calls Try.prog 21 #[.slice A l.length ca, .int .i64 id] w fun e w' => ∃ v, e = .returned v ∧ OwnI w' w.heap.size v (insB l id) ∧ Below w.heap.size w w' := by
  have HA := Lib.hid hA; clear hA
  cases ha : ask l id with
  | none =>
    have HT := Lib.hid (fun W h => thing_none id A ca l W h hn ha)
    have HV := Lib.hid (show insB l id = [] by unfold insB; rw [ha]; rfl)
    clear ha
    go_enter Try.func21, Try.ntmps21
    go_wp2_with fail
    refine (HT.out w HA.out).mono ?_; rintro e w1 ⟨rfl, hb1⟩
    have hbz := hb1.size
    have HBX := Lib.hid (hb1.alloc hbz (.cells #[.int .i64 0, .int .i64 0, .int .i64 0, .int .i64 0, .bool false, .bool false] 51))
    clear hb1
    have HO : Hid (OwnI ((w1.alloc (.cells #[.int .i64 0, .int .i64 0, .int .i64 0, .int .i64 0, .bool false, .bool false] 51)).alloc (.cells #[] 3)) (w1.heap.size + 1) (.slice (some ⟨w1.heap.size + 1, 0, none⟩) 0 0) []) := Lib.hid (by
      have e : (w1.alloc (.cells #[.int .i64 0, .int .i64 0, .int .i64 0, .int .i64 0, .bool false, .bool false] 51)).heap.size = w1.heap.size + 1 := by simp
      rw [← e]; exact ownI_new _)
    go_wp2
    go_ret
    exact ⟨_, rfl, by rw [HV.out]; exact OwnI.mono HO.out (by omega), HBX.out.alloc HBX.out.size _⟩
  | some t =>
    have HT := Lib.hid (fun W h => thing_some id t A ca l W h hn ha)
    have HV := Lib.hid (ins_some ha)
    have HC := Lib.hid (fun W h => directly_in id A ca l W h hn)
    have HD := Lib.hid (fun A' ca' W h hn' => ids_of A' ca' (l.filter (fun u => u.n == id)) W h hn')
    have hfl := List.length_filter_le (fun u : Th => u.n == id) l
    generalize l.filter (fun u => u.n == id) = D at *
    clear ha
    go_enter Try.func21, Try.ntmps21
    go_wp2_with fail
    refine (HT.out w HA.out).mono ?_; rintro e w1 ⟨rfl, hb1⟩
    have hbz := hb1.size
    have HBX := Lib.hid (hb1.alloc hbz (.cells (thL t) 51))
    clear hb1
    go_wp2_with fail
    refine (HC.out _ (HA.out.below HBX.out)).mono ?_; rintro e w2 ⟨⟨v, rfl, hv⟩, hb2⟩
    obtain ⟨VA, vc, rfl⟩ := hv.opens
    have HI := Lib.hid (hv.ins thC_len).2
    have HB2 := Lib.hid (HBX.out.trans (hb2.mono HBX.out.size))
    clear hv hb2
    go_wp2_with fail
    refine (HD.out VA vc w2 HI.out (by omega)).mono ?_; rintro e w3 ⟨⟨v, rfl, hv⟩, hb3⟩
    have HO := Lib.hid (OwnI.mono hv HB2.out.size)
    clear hv
    go_wp2
    go_ret
    exact ⟨_, rfl, by rw [HV.out]; exact HO.out, HB2.out.trans (hb3.mono HB2.out.size)⟩
set_option maxRecDepth 100000 in
set_option maxHeartbeats 1000000 in
theorem inside_spec (id : Int) (A : Option Addr) (ca : Nat) (l : List Th) (w : World) (hA : InK 6 thC w A l) (hn : l.length ≤ 1048576) :
    Calls Try.prog 32 #[.slice A l.length ca, .int .i64 id] w fun e w' => ∃ v, e = .returned v ∧ OwnI w' w.heap.size v (insB l id) ∧ Below w.heap.size w w' := by
  obtain ⟨i0, hi0, hz0, hz1, hz2⟩ := info_parts int_info
  have HA := Lib.hid hA; clear hA
  have HT := Lib.hid (fun W h => are_spec A ca l W h hn)
  have HF := Lib.hid (fun W h => find_same id A ca l W h hn)
  have HO0 := Lib.hid (ownI_new w)
  have HB0 := Lib.hid ((Below.refl w.heap.size w).alloc (Nat.le_refl _) (.cells #[] 3))
  have HC := Lib.hid (ask_cases l id)
  cases ht : thsB l with
  | false =>
    have HV := Lib.hid (show insB l id = [] by unfold insB; rw [ask_bad id ht]; rfl)
    rw [ht] at HT
    clear ht HC
    go_enter Try.func32, Try.ntmps32
    go_wp2_with fail
    refine (HT.out _ (HA.out.below HB0.out)).mono ?_; rintro e w1 ⟨rfl, hb1⟩
    have HO := Lib.hid (HO0.out.below hb1)
    go_wp2
    go_ret
    exact ⟨_, rfl, by rw [HV.out]; exact HO.out, HB0.out.trans (hb1.mono HB0.out.size)⟩
  | true =>
    rw [ht] at HT
    by_cases hf : fnd l id < 0
    · have HV := Lib.hid (show insB l id = [] by unfold insB; rw [ask_miss hf]; rfl)
      obtain ⟨F, hF⟩ : ∃ F, F = fnd l id := ⟨_, rfl⟩
      rw [← hF] at HF hf
      clear ht hF HC
      go_enter Try.func32, Try.ntmps32
      go_wp2_with fail
      refine (HT.out _ (HA.out.below HB0.out)).mono ?_; rintro e w1 ⟨rfl, hb1⟩
      have HO := Lib.hid (HO0.out.below hb1)
      have HB1 := Lib.hid (HB0.out.trans (hb1.mono HB0.out.size))
      clear hb1
      go_wp2_with fail
      refine (HF.out _ (HA.out.below HB1.out)).mono ?_; rintro e w2 ⟨rfl, rfl⟩
      go_wp2
      go_ret
      exact ⟨_, rfl, by rw [HV.out]; exact HO.out, HB1.out⟩
    · have HV := Lib.hid (show insB l id = (l.filter (fun u => u.n == id)).map Th.d by
        rcases HC.out with ⟨h, _⟩ | ⟨k, hk, he, _, ⟨h2, _⟩ | ⟨_, ha⟩⟩
        · exact absurd h hf
        · rw [ht] at h2; cases h2
        · exact ins_some ha)
      have hl40 := (ths_of ht).len
      have hfd : decide (fnd l id < 0) = false := decide_eq_false hf
      obtain ⟨F, hF⟩ : ∃ F, F = fnd l id := ⟨_, rfl⟩
      rw [← hF] at HF hf hfd
      clear ht hF HC hf
      go_enter Try.func32, Try.ntmps32
      go_wp2_with fail
      refine (HT.out _ (HA.out.below HB0.out)).mono ?_; rintro e w1 ⟨rfl, hb1⟩
      have HO := Lib.hid (HO0.out.below hb1)
      have HB1 := Lib.hid (HB0.out.trans (hb1.mono HB0.out.size))
      clear hb1
      go_wp2_with fail
      refine (HF.out _ (HA.out.below HB1.out)).mono ?_; rintro e w2 ⟨rfl, rfl⟩
      generalize hB : w.heap.size = B at *
      have HBE := Lib.hid hB; clear hB
      obtain ⟨V0, hV0⟩ : ∃ V0 : Value, V0 = .slice (some ⟨B, 0, none⟩) 0 0 := ⟨_, rfl⟩
      rw [← hV0] at HO
      go_wp2
      rw [← hV0]
      clear hV0 hfd HO0 HB0 HT HF
      go_loopw [5, 6] (fun v i wr => ∃ k : Nat, k ≤ l.length ∧ i = .int .i64 k ∧ OwnI wr B v (((l.take k).filter (fun u => u.n == id)).map Th.d) ∧ Below B w wr) (fun _ i _ => l.length - (intOf i).toNat)
      case atStart => exact ⟨0, Nat.zero_le _, rfl, HO.out, HB1.out⟩
      case round =>
        clear HO HB1
        obtain ⟨k, hk, rfl, ho, hb⟩ := hrel
        have hbz : B ≤ wr.heap.size := by rw [← HBE.out]; exact hb.size
        by_cases hlt : (k : Int) < (l.length : Int)
        · have hkn : k < l.length := by omega
          obtain ⟨g, rfl, hg, c0, z1, z2, c3, z4, z5⟩ := (HA.out.below (show Below w.heap.size w wr by rw [HBE.out]; exact hb)).th k hkn
          clear z1 z2 z4 z5
          have HYE := Lib.hid (fil_take_yes (l := l) (p := fun u => u.n == id) hkn)
          have HNO := Lib.hid (fil_take_no (l := l) (p := fun u => u.n == id) hkn)
          have hDl := List.length_filter_le (fun u : Th => u.n == id) (l.take k)
          rw [List.length_take] at hDl
          generalize (l.take k).filter (fun u => u.n == id) = D at *
          generalize l[k] = y at *
          have HOO := Lib.hid ho
          obtain ⟨n, hn'⟩ : ∃ n, n = (D.map Th.d).length := ⟨_, rfl⟩
          have hnk : n ≤ 40 := by rw [hn', List.length_map]; omega
          have HN := Lib.hid hn'.symm
          unfold OwnI at ho
          rw [← hn'] at ho
          clear hn' hDl
          by_cases h1 : y.n = id
          · have hq : (y.n == id) = true := by simpa using h1
            have HD := Lib.hid (show (((l.take (k + 1)).filter (fun u => u.n == id)).map Th.d) = D.map Th.d ++ [y.d] by rw [HYE.out hq]; simp)
            clear h1 HNO HYE
            go_wp2_with (at_builtin; refine wpList_append_own _ rfl _ _ 27 rfl B 3 i0 _ 1 8 Try.underlying27 hi0 hz0 hz1 hz2 rfl (by decide) _ n (intV (D.map Th.d)) rfl (ho.alloc _) ⟨wr.heap.size, 0, none⟩ 1 1 (intV [y.d]) rfl rfl (int_news _ _) (one_int _) (by unfold maxLen; omega) (by omega) (by simp; omega) ?_; intro v' w5 hown' hgr hnil)
            go_roundw
            case rel => exact ⟨k + 1, by omega, by go_num, by rw [HD.out]; exact ownI_push hown' HN.out, (hb.alloc hbz _).grown hgr (by simp; omega) (fun q h => (World.ownsRow.lt HOO.out q h).1)⟩
            case measure => simp [intOf]; omega
          · have hq : (y.n == id) = false := by simpa using h1
            have HD := Lib.hid (HNO.out hq)
            clear h1 HNO HYE
            go_wp2
            go_roundw
            case rel => exact ⟨k + 1, by omega, by go_num, by rw [HD.out]; exact HOO.out, hb⟩
            case measure => simp [intOf]; omega
        · obtain rfl : k = l.length := by omega
          have HOO := Lib.hid ho; clear ho
          go_wp2
          go_ret
          exact ⟨_, rfl, by have h := HOO.out; rw [List.take_length] at h; rw [HBE.out, HV.out]; exact h, by rw [HBE.out]; exact hb⟩
set_option maxRecDepth 100000 in
set_option maxHeartbeats 1000000 in
theorem allin_impl (id : Int) (A : Option Addr) (ca : Nat) (l : List Th) (w : World) (hA : InK 6 thC w A l) (hn : l.length ≤ 1048576) :
    Calls Try.prog 19 #[.slice A l.length ca, .int .i64 id] w fun e w' => ∃ v, e = .returned v ∧ OwnI w' w.heap.size v (allB l id) ∧ Below w.heap.size w w' := by
  obtain ⟨i0, hi0, hz0, hz1, hz2⟩ := info_parts int_info
  have HA := Lib.hid hA; clear hA
  have HO0 := Lib.hid (ownI_new w)
  have HB0 := Lib.hid ((Below.refl w.heap.size w).alloc (Nat.le_refl _) (.cells #[] 3))
  cases ha : ask l id with
  | none =>
    have HT := Lib.hid (fun W h => thing_none id A ca l W h hn ha)
    have HV := Lib.hid (show allB l id = [] by unfold allB; rw [ha]; rfl)
    clear ha
    go_enter Try.func19, Try.ntmps19
    go_wp2_with fail
    refine (HT.out _ (HA.out.below HB0.out)).mono ?_; rintro e w1 ⟨rfl, hb1⟩
    have HO := Lib.hid (HO0.out.below hb1)
    have HB1 := Lib.hid (HB0.out.trans (hb1.mono HB0.out.size))
    have hbz := HB1.out.size
    clear hb1
    go_wp2
    go_ret
    exact ⟨_, rfl, by rw [HV.out]; exact HO.out.below ((Below.refl _ _).alloc (Nat.le_refl _) _), HB1.out.alloc hbz _⟩
  | some t =>
    have HT := Lib.hid (fun W h => thing_some id t A ca l W h hn ha)
    have HV := Lib.hid (all_some ha)
    obtain ⟨hths, z1, z2, z3, z4⟩ := ask_some ha
    clear z1 z2 z3 z4
    have hl40 := hths.len
    have HR := Lib.hid (fun u (hu : u ∈ l) W h => around_impl u A ca l W h hn hths.lis hu)
    have HF := Lib.hid (fun (D : List Th) A' ca' W (h : InK 6 thC W A' D) hn' => find_impl id A' ca' D W h hn')
    have HAR := Lib.hid (fun u => show arB l u id = decide (0 ≤ fnd (aro l 5 u) id) from (fnd_any (aro l 5 u) id).symm)
    clear ha hths
    go_enter Try.func19, Try.ntmps19
    go_wp2_with fail
    refine (HT.out _ (HA.out.below HB0.out)).mono ?_; rintro e w1 ⟨rfl, hb1⟩
    have HB1 := Lib.hid (HB0.out.trans (hb1.mono HB0.out.size))
    have hbz1 := HB1.out.size
    have HO := Lib.hid ((HO0.out.below hb1).below ((Below.refl _ _).alloc (Nat.le_refl _) (.cells (thL t) 51)))
    have HB2 := Lib.hid (HB1.out.alloc hbz1 (.cells (thL t) 51))
    clear hb1 HB1 hbz1
    generalize hB : w.heap.size = B at *
    have HBE := Lib.hid hB; clear hB
    obtain ⟨V0, hV0⟩ : ∃ V0 : Value, V0 = .slice (some ⟨B, 0, none⟩) 0 0 := ⟨_, rfl⟩
    rw [← hV0] at HO
    go_wp2
    rw [← hV0]
    clear hV0 HO0 HB0 HT
    go_loopw [5, 22] (fun v i wr => ∃ k : Nat, k ≤ l.length ∧ i = .int .i64 k ∧ OwnI wr B v (((l.take k).filter (fun u => arB l u id)).map Th.d) ∧ Below B w wr) (fun _ i _ => l.length - (intOf i).toNat)
    case atStart => exact ⟨0, Nat.zero_le _, rfl, HO.out, HB2.out⟩
    case round =>
      clear HO HB2
      obtain ⟨k, hk, rfl, ho, hb⟩ := hrel
      have hbz : B ≤ wr.heap.size := by rw [← HBE.out]; exact hb.size
      by_cases hlt : (k : Int) < (l.length : Int)
      · have hkn : k < l.length := by omega
        have HAW := Lib.hid (HA.out.below (show Below w.heap.size w wr by rw [HBE.out]; exact hb))
        obtain ⟨g, rfl, hg, c0, c1, c2, c3, c4, c5⟩ := HAW.out.th k hkn
        have HYE := Lib.hid (fil_take_yes (l := l) (p := fun u => arB l u id) hkn)
        have HNO := Lib.hid (fil_take_no (l := l) (p := fun u => arB l u id) hkn)
        have HRk := Lib.hid (HR.out l[k] (List.getElem_mem hkn))
        have HARk := Lib.hid (HAR.out l[k])
        have h5 := aro_len l 5 l[k]
        have hDl := List.length_filter_le (fun u : Th => arB l u id) (l.take k)
        rw [List.length_take] at hDl
        generalize (l.take k).filter (fun u => arB l u id) = D at *
        obtain ⟨R, hR⟩ : ∃ R, R = aro l 5 l[k] := ⟨_, rfl⟩
        rw [← hR] at HRk HARk h5
        clear hR
        generalize arB l l[k] id = q at *
        generalize l[k] = y at *
        obtain ⟨n, hn'⟩ : ∃ n, n = (D.map Th.d).length := ⟨_, rfl⟩
        have hnk : n ≤ 40 := by rw [hn', List.length_map]; omega
        have HN := Lib.hid hn'.symm
        have HFk := Lib.hid (HF.out R)
        have HWX := Lib.hid (hb.alloc hbz (.cells (thL y) 51))
        have HOX := Lib.hid (OwnI.below ho ((Below.refl _ _).alloc (Nat.le_refl _) (.cells (thL y) 51)))
        have HX := Lib.hid (BoxT.new wr y)
        clear hn' hDl ho
        go_wp2_with fail
        obtain ⟨W1, hW1⟩ : ∃ W1, W1 = wr.alloc (.cells (thL y) 51) := ⟨_, rfl⟩
        rw [← hW1] at HWX HOX HX ⊢
        have hwz : wr.heap.size < W1.heap.size := by rw [hW1]; simp
        clear hW1 c0 c1 c2 c3 c4 c5
        refine (HRk.out W1 (HA.out.below (by rw [HBE.out]; exact HWX.out))).mono ?_; rintro e w2 ⟨⟨v, rfl, hv⟩, hb2⟩
        obtain ⟨VA, vc, rfl⟩ := hv.opens
        have HI := Lib.hid (hv.ins thC_len).2
        have HW2 := Lib.hid (HWX.out.trans (hb2.mono (by omega)))
        have HO2 := Lib.hid (HOX.out.below hb2)
        have HX2 := Lib.hid (HX.out.below hb2)
        have hsz2 := hb2.size
        clear hv hb2 HWX HOX HX
        go_wp2_with fail
        refine (HFk.out VA vc w2 HI.out (by omega)).mono ?_; rintro e w3 ⟨rfl, hb3⟩
        have HW3 := Lib.hid (HW2.out.trans (hb3.mono (by omega)))
        have HO3 := Lib.hid (HO2.out.below hb3)
        have HX3 := HX2.out.below hb3
        have hsz3 := hb3.size
        clear hb3 HW2 HO2 HX2 HI
        obtain ⟨q0, q1, q2, q3, q4, q5⟩ := HX3.cells
        have hx3 := HX3.lt
        generalize fnd R id = F at *
        cases q with
        | true =>
          have hF : 0 ≤ F := by have := HARk.out; simpa using this.symm
          have HD := Lib.hid (show (((l.take (k + 1)).filter (fun u => arB l u id)).map Th.d) = D.map Th.d ++ [y.d] by rw [HYE.out rfl]; simp)
          have ho3 : w3.ownsRow B 3 1 _ (D.map Th.d).length (intV (D.map Th.d)) := HO3.out
          rw [HN.out] at ho3
          clear HNO HYE HARk HX3
          go_wp2_with (at_builtin; refine wpList_append_own _ rfl _ _ 27 rfl B 3 i0 _ 1 8 Try.underlying27 hi0 hz0 hz1 hz2 rfl (by decide) _ n (intV (D.map Th.d)) rfl (ho3.alloc _) ⟨w3.heap.size, 0, none⟩ 1 1 (intV [y.d]) rfl rfl (int_news _ _) (one_int _) (by unfold maxLen; omega) (by omega) (by simp; omega) ?_; intro v' w5 hown' hgr hnil)
          go_roundw
          case rel => exact ⟨k + 1, by omega, by go_num, by rw [HD.out]; exact ownI_push hown' HN.out, (HW3.out.alloc (by omega) _).grown hgr (by simp; omega) (fun q h => (World.ownsRow.lt HO3.out q h).1)⟩
          case measure => simp [intOf]; omega
        | false =>
          have hF : ¬ 0 ≤ F := by have := HARk.out; simpa using this.symm
          have HD := Lib.hid (HNO.out rfl)
          clear HNO HYE HARk HX3
          go_wp2
          go_roundw
          case rel => exact ⟨k + 1, by omega, by go_num, by rw [HD.out]; exact HO3.out, HW3.out⟩
          case measure => simp [intOf]; omega
      · obtain rfl : k = l.length := by omega
        have HOO := Lib.hid ho; clear ho
        go_wp2
        go_ret
        exact ⟨_, rfl, by have h := HOO.out; rw [List.take_length] at h; rw [HBE.out, HV.out]; exact h, by rw [HBE.out]; exact hb⟩
end Go.Proofs.Ytalciiajhlhecab

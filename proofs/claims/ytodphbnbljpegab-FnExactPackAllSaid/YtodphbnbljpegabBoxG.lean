/- Contracts of l5Gross, l5Load, AreThings: the second text. -/
import Derived.Test.YtodphbnbljpegabBoxO
namespace Go.Proofs.Ytodphbnbljpegab
open Go.RowKit
set_option maxRecDepth 100000 in
set_option maxHeartbeats 1000000 in
theorem gross_l5 (G : Th → Int) (k : Nat) (deep : Int) (A : Option Addr) (ca : Nat) (l : List Th) (w : World) (hA : InK 6 thC w A l) (hn : l.length ≤ 40) (hl : Lis l) (hk : k < l.length) (hd0 : 0 ≤ deep) (hd1 : deep ≤ 5)
    (hG : ∀ u ∈ l.filter (fun u => u.n == l[k].d), ∀ W, InK 6 thC W A l → Calls Try.prog 171 #[.slice A l.length ca, .int .i64 u.d, .int .i64 (deep - 1)] W fun e w' => e = .returned (.int .i64 (G u)) ∧ Below W.heap.size W w')
    (hB : ∀ u ∈ l.filter (fun u => u.n == l[k].d), 0 ≤ G u ∧ G u ≤ 100000000000) :
    Calls Try.prog 171 #[.slice A l.length ca, .int .i64 l[k].d, .int .i64 deep] w fun e w' => e = .returned (.int .i64 (l[k].o + ((l.filter (fun u => u.n == l[k].d)).map G).sum)) ∧ Below w.heap.size w w' := by
  obtain ⟨hb1, _, hb2, hb3, _, _⟩ := hl.bd (List.getElem_mem hk)
  have HF := Lib.hid (find_same l[k].d A ca l w hA (by omega))
  rw [hl.at_ hk] at HF
  have HA := Lib.hid hA; clear hA
  obtain ⟨g, rfl, hg, c0, c1, _, _, _, _⟩ := HA.out.th k hk
  have hki : (k : Int) < (l.length : Int) := by omega
  have hDl := List.length_filter_le (fun u : Th => u.n == l[k].d) l
  have HP := Lib.hid (fun j => part_bd (D := (l.take j).filter (fun u => u.n == l[k].d)) (g := G) (B := 100000000000) (by omega) (by have h := List.length_filter_le (fun u : Th => u.n == l[k].d) (l.take j); rw [List.length_take] at h; omega)
    (fun u hu => hB u (by obtain ⟨h1, h2⟩ := List.mem_filter.1 hu; exact List.mem_filter.2 ⟨List.mem_of_mem_take h1, h2⟩)))
  have HG := Lib.hid (fun i (hi : i < l.length) (e : (l[i].n == l[k].d) = true) => hG l[i] (List.mem_filter.2 ⟨List.getElem_mem hi, e⟩))
  have HYE := Lib.hid (fun i (hi : i < l.length) => fil_take_yes (l := l) (p := fun u => u.n == l[k].d) hi)
  have HNO := Lib.hid (fun i (hi : i < l.length) => fil_take_no (l := l) (p := fun u => u.n == l[k].d) hi)
  have HLEN := Lib.hid (show (l.take l.length).filter (fun u => u.n == l[k].d) = l.filter (fun u => u.n == l[k].d) by rw [List.take_length])
  clear hG hB hDl hl
  obtain ⟨id, hid⟩ : ∃ id, id = l[k].d := ⟨_, rfl⟩
  obtain ⟨s0, hs0⟩ : ∃ s0, s0 = l[k].o := ⟨_, rfl⟩
  rw [← hid] at HF HP HG HYE HNO HLEN c0 ⊢
  rw [← hs0] at c1 hb2 hb3 ⊢
  clear hid hs0 hb1
  have hn0 : ¬ deep < 0 := by omega
  have hk0 : ¬ (k : Int) < 0 := by omega
  go_enter Try.func171, Try.ntmps171
  go_wp2_with fail
  refine HF.out.mono ?_; rintro e w1 ⟨rfl, rfl⟩
  go_wp2
  clear c0 c1
  go_loopw [8, 9] (fun s i wr => ∃ j : Nat, j ≤ l.length ∧ i = .int .i64 j ∧ s = .int .i64 (s0 + (((l.take j).filter (fun u => u.n == id)).map G).sum) ∧ Below w1.heap.size w1 wr) (fun _ i _ => l.length - (intOf i).toNat)
  case atStart => exact ⟨0, Nat.zero_le _, rfl, by simp, Below.refl _ _⟩
  case round =>
    obtain ⟨j, hj, rfl, rfl, hb⟩ := hrel
    have hbz := hb.size
    by_cases hlt : (j : Int) < (l.length : Int)
    · have hjn : j < l.length := by omega
      obtain ⟨g', e', hg', c0, _, _, c3, _, _⟩ := (HA.out.below hb).th j hjn
      cases e'
      by_cases h1 : l[j].n = id
      · have hq : (l[j].n == id) = true := by simpa using h1
        have HGj := Lib.hid (HG.out j hjn hq)
        have HD := Lib.hid (HYE.out j hjn hq)
        have hp := HP.out (j + 1) ((l.take (j + 1)).filter (fun u => u.n == id)).length
        rw [List.take_length, HD.out, List.map_append, List.sum_append] at hp
        have hp0 := HP.out j ((l.take j).filter (fun u => u.n == id)).length
        rw [List.take_length] at hp0
        simp only [List.map_cons, List.map_nil, List.sum_cons, List.sum_nil, Int.add_zero] at hp
        have HS := Lib.hid (show (((l.take (j + 1)).filter (fun u => u.n == id)).map G).sum = (((l.take j).filter (fun u => u.n == id)).map G).sum + G l[j] by rw [HD.out, List.map_append, List.sum_append]; simp)
        clear h1
        generalize (((l.take j).filter (fun u => u.n == id)).map G).sum = S at *
        generalize G l[j] = Gj at *
        have HAr := Lib.hid (HA.out.below hb)
        clear HD
        generalize l[j] = y at *
        go_wp2_with fail
        refine (HGj.out _ HAr.out).mono ?_; rintro e w2 ⟨rfl, hb2'⟩
        have HB2 := Lib.hid (hb.trans (hb2'.mono hbz))
        clear hb2' c0 c3
        go_wp2
        go_roundw
        case rel => exact ⟨j + 1, by omega, by go_num, by rw [HS.out]; go_num, HB2.out⟩
        case measure => simp [intOf]; omega
      · have hq : (l[j].n == id) = false := by simpa using h1
        have HD := Lib.hid (HNO.out j hjn hq)
        have hp0 := HP.out j ((l.take j).filter (fun u => u.n == id)).length
        rw [List.take_length] at hp0
        clear h1
        obtain ⟨y, hy⟩ : ∃ y, y = l[j].n := ⟨_, rfl⟩
        rw [← hy] at c3 hq
        clear hy
        go_wp2
        go_roundw
        case rel => exact ⟨j + 1, by omega, by go_num, by rw [HD.out], hb⟩
        case measure => simp [intOf]; omega
    · obtain rfl : j = l.length := by omega
      have hp0 := HP.out l.length ((l.take l.length).filter (fun u => u.n == id)).length
      rw [List.take_length] at hp0
      have HS := Lib.hid (show (((l.take l.length).filter (fun u => u.n == id)).map G).sum = ((l.filter (fun u => u.n == id)).map G).sum by rw [HLEN.out])
      generalize (((l.take l.length).filter (fun u => u.n == id)).map G).sum = S at *
      go_wp2
      go_ret
      exact ⟨ret_int (by rw [HS.out]), hb⟩
theorem gross_l5_rec (A : Option Addr) (ca : Nat) (l : List Th) (hn : l.length ≤ 40) (hl : Lis l) (hs : ∀ t ∈ l, dep l t ≤ 4) : ∀ (f : Nat) (deep : Int), f ≤ 4 → (f : Int) ≤ deep → deep ≤ 5 → ∀ t ∈ l, 4 ≤ dep l t + f → ∀ w, InK 6 thC w A l →
    Calls Try.prog 171 #[.slice A l.length ca, .int .i64 t.d, .int .i64 deep] w fun e w' => e = .returned (.int .i64 (gr l f t)) ∧ Below w.heap.size w w'
  | 0, deep, _, hd0, hd1, t, ht, hd, w, hA => by
    have e := no_child hl hs ht (by omega)
    obtain ⟨k, hk, rfl⟩ := List.getElem_of_mem ht
    have h := gross_l5 (fun _ => 0) k deep A ca l w hA hn hl hk (by omega) hd1 (by rw [e]; intro u hu; cases hu) (by rw [e]; intro u hu; cases hu)
    rw [e] at h
    simpa [gr] using h
  | f + 1, deep, hf, hd0, hd1, t, ht, hd, w, hA => by
    obtain ⟨k, hk, rfl⟩ := List.getElem_of_mem ht
    exact gross_l5 (gr l f) k deep A ca l w hA hn hl hk (by omega) hd1 (fun u hu W hW => by
      obtain ⟨hu, e⟩ := List.mem_filter.1 hu
      have := child_dep hl hs ht hu (by simpa using e)
      exact gross_l5_rec A ca l hn hl hs f (deep - 1) (by omega) (by omega) (by omega) u hu (by omega) W hW) (fun u hu => by
      have h1 := gr_bd hl hn f u (List.mem_filter.1 hu).1
      have h2 := grM_le (f := f) (by omega)
      omega)
set_option maxRecDepth 100000 in
set_option maxHeartbeats 1000000 in
theorem load_l5 (k : Nat) (A : Option Addr) (ca : Nat) (l : List Th) (w : World) (hA : InK 6 thC w A l) (hn : l.length ≤ 40) (hl : Lis l) (hs : ∀ t ∈ l, dep l t ≤ 4) (hk : k < l.length) :
    Calls Try.prog 119 #[.slice A l.length ca, .int .i64 l[k].d] w fun e w' => e = .returned (.int .i64 (gr l 4 l[k] - l[k].o)) ∧ Below w.heap.size w w' := by
  have HF := Lib.hid (find_same l[k].d A ca l w hA (by omega))
  rw [hl.at_ hk] at HF
  obtain ⟨_, _, ho0, ho1, _, _⟩ := hl.bd (List.getElem_mem hk)
  obtain ⟨hg0, hg1⟩ := gr_bd hl hn 4 l[k] (List.getElem_mem hk)
  have hgm := grM_le (f := 4) (by omega)
  have HGR := Lib.hid (fun W h => gross_l5_rec A ca l hn hl hs 4 5 (by omega) (by omega) (by omega) l[k] (List.getElem_mem hk) (by omega) W h)
  have HA := Lib.hid hA; clear hA hl hs
  have hki : (k : Int) < (l.length : Int) := by omega
  obtain ⟨g, rfl, hg, _, c1, _, _, _, _⟩ := HA.out.th k hk
  have F1 := far_cell hg c1
  generalize gr l 4 l[k] = G at *
  generalize grM 4 = gm at *
  generalize l[k] = y at *
  have HT := Lib.hid (fun x => HGR.out (far w x) (HA.out.below (below_far w x)))
  clear HGR
  generalize y.o = o at *
  generalize y.d = d at *
  have hsub : IntKind.i64.wrap (G - o) = G - o := IntWalk.i64_in _ (by omega)
  go_enter Try.func119, Try.ntmps119
  go_wp2_with fail
  refine HF.out.mono ?_; rintro e w1 ⟨rfl, rfl⟩
  clear c1
  go_wp2_with fail
  refine wp_region_far (by kernel_rfl) (by kernel_rfl) ?_
  repeat (any_goals (first | go_big_quiet_step ((go_at_call 171; with_reducible exact call_far (HT.out _))) | quiet_step ((go_at_call 171; with_reducible exact call_far (HT.out _)))))
  refine wpQuiet_nil ?_; intro w2 hw2
  have hb2 : Below w1.heap.size w1 w2 := by obtain ⟨u, rfl⟩ := hw2; exact below_far w1 u
  clear hw2
  go_wp2
  go_ret
  exact ⟨rfl, hb2⟩
theorem thsB_no {l : List Th} (h : ¬ (l.length ≤ 40 ∧ lisB l = true ∧ shaB l = true ∧ ligB l = true)) : thsB l = false := by
  cases hq : thsB l with
  | false => rfl
  | true =>
    exfalso; apply h
    simp only [thsB, Bool.and_eq_true, decide_eq_true_eq] at hq
    exact ⟨hq.1.1.1, hq.1.1.2, hq.1.2, hq.2⟩
theorem thsB_yes {l : List Th} (h : l.length ≤ 40 ∧ lisB l = true ∧ shaB l = true ∧ ligB l = true) : thsB l = true := by
  simp only [thsB, Bool.and_eq_true, decide_eq_true_eq]
  exact ⟨⟨⟨h.1, h.2.1⟩, h.2.2.1⟩, h.2.2.2⟩
/-- the first thing with the Id of a thing whose elders are smaller -/
theorem fnd_self {l : List Th} {k : Nat} (hk : k < l.length) (h : ∀ j, j < k + 1 → lisAt l j = true) : fnd l l[k].d = (k : Int) := by
  have up : ∀ m i, m ≤ k → i < m → ∀ (h1 : i < l.length) (h2 : m < l.length), (l[i]'h1).d < (l[m]'h2).d := by
    intro m
    induction m with
    | zero => intro i _ h; omega
    | succ m ih =>
      intro i hm hi h1 h2
      have e := ((lisAt_iff h2).1 (h _ (by omega))).2.1 (by omega)
      simp only [Nat.add_sub_cancel] at e
      by_cases q : i = m
      · subst q; exact e
      · have := ih i (by omega) (by omega) h1 (by omega); omega
  exact fnd_hit hk rfl fun j hj => by have := up k j (Nat.le_refl _) hj (by omega) hk; omega
set_option maxRecDepth 100000 in
set_option maxHeartbeats 1000000 in
theorem are_spec (A : Option Addr) (ca : Nat) (l : List Th) (w : World) (hA : InK 6 thC w A l) (hn : l.length ≤ 1048576) :
    Calls Try.prog 65 #[.slice A l.length ca] w fun e w' => e = .returned (.bool (thsB l)) ∧ Below w.heap.size w w' := by
  have HA := Lib.hid hA; clear hA
  by_cases h40 : (40 : Int) < (l.length : Int)
  · have HN := Lib.hid (thsB_no (l := l) (fun h => by omega))
    go_enter Try.func65, Try.ntmps65
    go_wp2
    go_ret
    exact ⟨ret_bool HN.out.symm, Below.refl _ _⟩
  have hl40 : l.length ≤ 40 := by omega
  go_enter Try.func65, Try.ntmps65
  go_wp2
  go_loopw [3] (fun i wr => ∃ k : Nat, k ≤ l.length ∧ i = .int .i64 k ∧ Hid (∀ j, j < k → lisAt l j = true ∧ sdp l 5 (j : Int) ≤ 4) ∧ Below w.heap.size w wr) (fun i _ => l.length - (intOf i).toNat)
  case atStart => exact ⟨0, Nat.zero_le _, rfl, Lib.hid (fun j h => by omega), Below.refl _ _⟩
  case round =>
    obtain ⟨k, hk, rfl, HD, hb⟩ := hrel
    have hbz := hb.size
    by_cases hlt : (k : Int) < (l.length : Int)
    · have hkn : k < l.length := by omega
      have H1 := Lib.hid (one_l5 k A ca l wr (HA.out.below hb) hn hkn)
      cases h1 : lisAt l k with
      | false =>
        rw [h1] at H1
        have HN := Lib.hid (thsB_no (l := l) (fun h => by have := lisB_no hkn h1; rw [h.2.1] at this; cases this))
        clear h1
        go_wp2_with fail
        refine H1.out.mono ?_; rintro e w1 ⟨rfl, hb1⟩
        have hb2 := hb.trans (hb1.mono hbz)
        clear hb1
        go_wp2
        go_ret
        exact ⟨ret_bool HN.out.symm, hb2⟩
      | true =>
        rw [h1] at H1
        have HAL := Lib.hid (show ∀ j, j < k + 1 → lisAt l j = true from fun j hj => by
          by_cases e : j = k
          · subst e; exact h1
          · exact (HD.out j (by omega)).1)
        have hself := fnd_self hkn HAL.out
        have H2 := Lib.hid (fun W h => depth_l5 l[k].d A ca l W h hn)
        rw [hself] at H2
        obtain ⟨g, rfl, hg, c0, _, _, _, _, _⟩ := (HA.out.below hb).th k hkn
        have H5 := sdp_len l 5 (k : Int)
        have HSH := Lib.hid (show 4 < sdp l 5 (k : Int) → thsB l = false from fun h => thsB_no (fun hh => by
          have hli := lis_of hh.2.1
          rw [sdp_aro hli 5 k hkn] at h
          have := sha_of hh.2.2.1 l[k] (List.getElem_mem hkn)
          unfold dep at this; omega))
        have HST := Lib.hid (show sdp l 5 (k : Int) ≤ 4 → ∀ j, j < k + 1 → lisAt l j = true ∧ sdp l 5 (j : Int) ≤ 4 from fun h j hj => by
          by_cases e : j = k
          · subst e; exact ⟨h1, h⟩
          · exact HD.out j (by omega))
        clear h1 hself
        generalize sdp l 5 (k : Int) = S at *
        obtain ⟨y, hy⟩ : ∃ y, y = l[k].d := ⟨_, rfl⟩
        rw [← hy] at H2 c0
        clear hy
        go_wp2_with fail
        refine H1.out.mono ?_; rintro e w1 ⟨rfl, hb1⟩
        have hc0 := (hb1.cell (p := ⟨g, k * 6, none⟩) hg).trans c0
        have hg1 : g < w1.heap.size := by have := hb1.size; omega
        have hb2 := hb.trans (hb1.mono hbz)
        clear hb1 c0
        go_wp2_with fail
        refine (H2.out _ (HA.out.below hb2)).mono ?_; rintro e w2 ⟨rfl, rfl⟩
        by_cases h4 : (4 : Int) < (S : Int)
        · have HN := Lib.hid (HSH.out (by omega))
          go_wp2
          go_ret
          exact ⟨ret_bool HN.out.symm, hb2⟩
        · have HN := Lib.hid (HST.out (by omega))
          go_wp2
          go_roundw
          case rel => exact ⟨k + 1, by omega, by go_num, HN, hb2⟩
          case measure => simp [intOf]; omega
    · obtain rfl : k = l.length := by omega
      have hlB : lisB l = true := lisB_iff.2 (fun i hi => (HD.out i hi).1)
      have hli := lis_of hlB
      have hsB : shaB l = true := shaB_yes (fun i hi => by have := (HD.out i hi).2; rw [sdp_aro hli 5 i hi] at this; exact this)
      have hsh := sha_of hsB
      have HNO := Lib.hid (fun i (hi : i < l.length) (h : l[i].r < gr l 4 l[i] - l[i].o) => thsB_no (l := l) (fun hh => by have := ligB_no (List.getElem_mem hi) h; rw [hh.2.2.2] at this; cases this))
      have HYE := Lib.hid (fun h => thsB_yes (l := l) ⟨hl40, hlB, hsB, ligB_yes h⟩)
      have HLD := Lib.hid (fun i (hi : i < l.length) W h => load_l5 i A ca l W h hl40 hli hsh hi)
      have HIN := Lib.hid (fun i (hi : i < l.length) (h : l[i].x = false) => no_in hli (List.getElem_mem hi) h)
      have hbw := hb
      clear HD hlB hli hsB hsh hb
      go_wp2
      go_loopw [4] (fun i wr => ∃ k : Nat, k ≤ l.length ∧ i = .int .i64 k ∧ Hid (∀ j (hj : j < l.length), j < k → gr l 4 l[j] - l[j].o ≤ l[j].r) ∧ Below w.heap.size w wr) (fun i _ => l.length - (intOf i).toNat)
      case atStart => exact ⟨0, Nat.zero_le _, rfl, Lib.hid (fun j _ h => by omega), hbw⟩
      case round =>
        clear hbw hlt hk hbz
        obtain ⟨k, hk, rfl, HD, hb⟩ := hrel
        have hbz := hb.size
        by_cases hlt : (k : Int) < (l.length : Int)
        · have hkn : k < l.length := by omega
          obtain ⟨g, rfl, hg, c0, _, c2, _, c4, _⟩ := (HA.out.below hb).th k hkn
          have HNk := Lib.hid (HNO.out k hkn)
          have HST := Lib.hid (show gr l 4 l[k] - l[k].o ≤ l[k].r → ∀ j (hj : j < l.length), j < k + 1 → gr l 4 l[j] - l[j].o ≤ l[j].r from fun h j hj hjk => by
            by_cases e : j = k
            · subst e; exact h
            · exact HD.out j hj (by omega))
          have HINk := Lib.hid (HIN.out k hkn)
          have HLk := Lib.hid (fun x => HLD.out k hkn (far wr x) ((HA.out.below hb).below (below_far wr x)))
          have F0 := far_cell hg c0; have F2 := far_cell hg c2; have F4 := far_cell hg c4
          generalize gr l 4 l[k] - l[k].o = S at *
          generalize l[k] = y at *
          obtain ⟨d, o, r, n, x, s⟩ := y
          simp only at HNk HST HINk HLk F0 F2 F4
          clear c0 c2 c4
          cases x with
          | false =>
            have HN := Lib.hid (HST.out (HINk.out rfl))
            go_wp2_with fail
            refine wp_region_far (by kernel_rfl) (by kernel_rfl) ?_
            repeat (any_goals (first | go_big_quiet_step ((go_at_call 119; with_reducible exact call_far (HLk.out _))) | quiet_step ((go_at_call 119; with_reducible exact call_far (HLk.out _)))))
            refine wpQuiet_nil ?_; intro w2 hw2
            have hb2 : Below w.heap.size w w2 := by obtain ⟨u, rfl⟩ := hw2; exact hb.trans ((below_far wr u).mono hbz)
            clear hw2
            go_wp2
            go_roundw
            case rel => exact ⟨k + 1, by omega, by go_num, HN, hb2⟩
            case measure => simp [intOf]; omega
          | true =>
            by_cases hgt : r < S
            · have HN := Lib.hid (HNk.out hgt)
              go_wp2_with fail
              refine wp_region_far (by kernel_rfl) (by kernel_rfl) ?_
              repeat (any_goals (first | go_big_quiet_step ((go_at_call 119; with_reducible exact call_far (HLk.out _))) | quiet_step ((go_at_call 119; with_reducible exact call_far (HLk.out _)))))
              refine wpQuiet_nil ?_; intro w2 hw2
              have hb2 : Below w.heap.size w w2 := by obtain ⟨u, rfl⟩ := hw2; exact hb.trans ((below_far wr u).mono hbz)
              clear hw2
              go_wp2
              go_ret
              exact ⟨ret_bool HN.out.symm, hb2⟩
            · have HN := Lib.hid (HST.out (by omega))
              go_wp2_with fail
              refine wp_region_far (by kernel_rfl) (by kernel_rfl) ?_
              repeat (any_goals (first | go_big_quiet_step ((go_at_call 119; with_reducible exact call_far (HLk.out _))) | quiet_step ((go_at_call 119; with_reducible exact call_far (HLk.out _)))))
              refine wpQuiet_nil ?_; intro w2 hw2
              have hb2 : Below w.heap.size w w2 := by obtain ⟨u, rfl⟩ := hw2; exact hb.trans ((below_far wr u).mono hbz)
              clear hw2
              go_wp2
              go_roundw
              case rel => exact ⟨k + 1, by omega, by go_num, HN, hb2⟩
              case measure => simp [intOf]; omega
        · obtain rfl : k = l.length := by omega
          have HN := Lib.hid (HYE.out (fun i hi => HD.out i hi hi))
          go_wp2
          go_ret
          exact ⟨ret_bool HN.out.symm, hb⟩
end Go.Proofs.Ytodphbnbljpegab

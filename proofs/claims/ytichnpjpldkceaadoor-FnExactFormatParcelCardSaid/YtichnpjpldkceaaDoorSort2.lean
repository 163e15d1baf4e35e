/- The contract of spec.SortSides: each number inserted behind those that are not less. -/
import Derived.Test.YtichnpjpldkceaaDoorInts
import Derived.Deep.RegionHeld3
import Derived.Deep.AppendLies
import Derived.WalkKit
import Derived.Lib.SliceRun
namespace Go.Proofs.YtichnpjpldkceaaDoor
open Go.RowKit
theorem one_int (l : List Int) : ∀ u ∈ intV l, u.oneCell' = true := by
  intro u hu
  obtain ⟨x, _, rfl⟩ := List.mem_map.1 hu; rfl
/-- a slice of the call's own that holds these ints, and is not nil -/
def RowI (w : World) (base g cap : Nat) (l : List Int) : Prop := OwnI w base (.slice (some ⟨g, 0, none⟩) l.length cap) l
theorem rowI_of {w : World} {base : Nat} {v : Value} {l : List Int} (h : OwnI w base v l) (hv : v ≠ .slice none 0 0) : ∃ g cap, v = .slice (some ⟨g, 0, none⟩) l.length cap ∧ RowI w base g cap l := by
  have h0 := h
  rcases h.2 with ⟨e, _⟩ | ⟨g, cap, cur, e, _⟩
  · exact absurd e hv
  · subst e; exact ⟨g, cap, rfl, h0⟩
theorem RowI.lt {w : World} {base g cap : Nat} {l : List Int} (h : RowI w base g cap l) : g < w.heap.size := by
  rcases h.2 with ⟨e, _⟩ | ⟨_, _, _, e, _, h, _⟩
  · cases e
  · cases e; exact (Array.getElem?_eq_some_iff.1 h).1
theorem RowI.low {w : World} {base g cap : Nat} {l : List Int} (h : RowI w base g cap l) : base ≤ g := by
  rcases h.2 with ⟨e, _⟩ | ⟨_, _, _, e, h, _⟩
  · cases e
  · cases e; exact h
/-- what a row owns, its length under another name -/
theorem RowI.own {w : World} {base g cap n : Nat} {l : List Int} (h : RowI w base g cap l) (hn : l.length = n) : w.ownsRow base 3 1 (.slice (some ⟨g, 0, none⟩) n cap) n (intV l) := by
  subst hn; exact h
theorem RowI.of {w : World} {base n : Nat} {v : Value} {l : List Int} (h : w.ownsRow base 3 1 v n (intV l)) (hn : l.length = n) (hv : v ≠ .slice none 0 0) : ∃ g cap, v = .slice (some ⟨g, 0, none⟩) n cap ∧ RowI w base g cap l := by
  subst hn; exact rowI_of h hv
theorem RowI.news {w : World} {base g cap : Nat} {l : List Int} (h : RowI w base g cap l) (k : Nat) : ∀ j u, (intV (l.drop k))[j]? = some u → w.cell? ((⟨g, k, none⟩ : Addr).add j) = some u := by
  intro j u hu
  have hj : k + j < l.length := by
    have := (List.getElem?_eq_some_iff.1 hu).1
    rw [intV_len, List.length_drop] at this; omega
  rw [Addr.add_lit, h.cell (k + j) hj]
  rw [← hu, intV, List.getElem?_map, List.getElem?_drop, List.getElem?_eq_getElem hj]; rfl
theorem IntsIn.news {w : World} {g : Nat} {l : List Int} (h : IntsIn w (some ⟨g, 0, none⟩) l) : ∀ j u, (intV l)[j]? = some u → w.cell? ((⟨g, 0, none⟩ : Addr).add j) = some u := by
  intro j u hu
  have hj : j < l.length := by
    have := (List.getElem?_eq_some_iff.1 hu).1
    rwa [intV_len] at this
  obtain ⟨g', e, _, hc⟩ := h j hj
  cases e
  rw [add_own, hc, ← hu, intV, List.getElem?_map, List.getElem?_eq_getElem hj]; rfl
set_option maxRecDepth 100000 in
set_option maxHeartbeats 400000 in
theorem copy_ints (g cap : Nat) (zs : List Int) (w : World) (hI : IntsIn w (some ⟨g, 0, none⟩) zs) (hn : zs.length ≤ 17592186044415) :
    Calls Tryd.prog 90 #[.slice (some ⟨g, 0, none⟩) zs.length cap] w fun e w' => ∃ g1 c1, e = .returned (.slice (some ⟨g1, 0, none⟩) zs.length c1) ∧ RowI w' w.heap.size g1 c1 zs ∧ Below w.heap.size w w' := by
  obtain ⟨i0, hi0, hz0, hz1, hz2⟩ := info_parts int_info
  have hb0 := (Below.refl w.heap.size w).alloc (Nat.le_refl _) (.cells #[] 3)
  have HN := Lib.hid (hI.below hb0).news; clear hI
  have HB := Lib.hid hb0; clear hb0
  go_enter Tryd.func90, Tryd.ntmps90
  go_wp2_with (at_builtin; refine wpList_append_own _ rfl _ _ 24 rfl w.heap.size 3 i0 (.int .i64 0) 1 8 Tryd.underlying24 hi0 hz0 hz1 hz2 rfl (by decide) _ _ _ rfl (World.ownsRow_made w #[] 0 (Nat.le_refl _) (Nat.zero_le _) rfl) ⟨g, 0, none⟩ zs.length cap (intV zs) rfl ?qc1 ?qc2 ?qc3 ?qc4 ?qc5 ?qc6 ?_)
  case qc1 => rw [intV_len]; omega
  case qc2 => exact HN.out
  case qc3 => exact one_int zs
  case qc4 => unfold maxLen; omega
  case qc5 => omega
  case qc6 => simp
  intro v' w1 hown hgrow hnil
  have ho : OwnI w1 w.heap.size v' zs := by unfold OwnI; simpa using hown
  obtain ⟨g1, c1, rfl, hr⟩ := rowI_of ho hnil
  have HR := Lib.hid hr
  have hb := HB.out.grown hgrow (by simp) (by intro k hk; simp [Value.ownBlock] at hk; omega)
  clear ho hr hown hnil hgrow
  go_wp2
  go_ret
  exact ⟨g1, c1, rfl, HR.out, hb⟩
theorem sortD_step (outs zs : List Int) (x : Int) (k : Nat) (hs : outs = sortD (zs.take outs.length)) (hin : outs.length < zs.length) (hx : x = zs[outs.length]) (h1 : ∀ j (_ : j < k) (hj : j < outs.length), x ≤ outs[j]) (h2 : ∀ h : k < outs.length, outs[k] < x) :
    outs.take k ++ x :: outs.drop k = sortD (zs.take (outs.length + 1)) := by
  rw [List.take_succ_eq_append_getElem hin, ← hx]
  have h := sortD_ins (zs.take outs.length) x k
  rw [← hs] at h
  exact h h1 h2
/-- the contract of the copy, in the walk's spelling -/
theorem copy_head (g c k : Nat) (outs : List Int) (W : World) (base : Nat) (hr : RowI W base g c outs) (hk : k ≤ outs.length) (hn : outs.length ≤ 1048576) : ∀ W', Below W.heap.size W W' →
    Calls Tryd.prog 90 #[.slice (some ⟨g, 0, none⟩) k c] W' fun e w' => ∃ g1 c1, e = .returned (.slice (some ⟨g1, 0, none⟩) k c1) ∧ w'.ownsRow W.heap.size 3 1 (.slice (some ⟨g1, 0, none⟩) k c1) k (intV (outs.take k)) ∧ W.heap.size ≤ g1 ∧ Below W.heap.size W w' ∧ (∀ (b : Nat) (o : Obj), W'.heap[b]? = some o → w'.heap[b]? = some o) := by
  intro W' hb
  have hl : (outs.take k).length = k := by rw [List.length_take]; omega
  have h := copy_ints g c (outs.take k) W' (fun j hj => by
    rw [hl] at hj
    have hc := OwnI.cell hr j (by omega)
    have hg : g < W.heap.size := RowI.lt hr
    refine ⟨g, rfl, Nat.lt_of_lt_of_le hg hb.size, ?_⟩
    rw [hb.cell hg, hc, List.getElem_take]) (by omega)
  rw [hl] at h
  refine h.mono ?_
  rintro e w' ⟨g1, c1, rfl, hr1, hb1⟩
  refine ⟨g1, c1, rfl, RowI.own (OwnI.mono hr1 hb.size) hl, Nat.le_trans hb.size (RowI.low hr1), hb.trans (hb1.mono hb.size), fun b o ho => ?_⟩
  rw [hb1.block b (Array.getElem?_eq_some_iff.1 ho).1, ho]
theorem app_done {W u Wc w1 : World} {g1 : Nat} (hb : Below W.heap.size W u) (hc : Below W.heap.size u Wc) (hg : Wc.grownBy w1 (some g1)) (h1 : W.heap.size ≤ g1) : Below W.heap.size W w1 :=
  (hb.trans hc).grown hg (hb.trans hc).size (fun k e => by cases e; exact h1)
set_option maxRecDepth 100000 in
set_option maxHeartbeats 1000000 in
theorem sort_spec (A : Option Addr) (cap : Nat) (zs : List Int) (w : World) (hI : IntsIn w A zs) (hn : zs.length ≤ 1048576) :
    Calls Tryd.prog 74 #[.slice A zs.length cap] w fun e w' => ∃ v, e = .returned v ∧ OwnI w' w.heap.size v (sortD zs) ∧ Below w.heap.size w w' := by
  have HI := Lib.hid hI; clear hI
  obtain ⟨i0, hi0, hz0, hz1, hz2⟩ := info_parts int_info
  have HI0 := Lib.hid (And.intro hi0 (And.intro hz0 (And.intro hz1 hz2)))
  clear hi0 hz0 hz1 hz2
  have h0 : RowI (w.alloc (.cells #[] 3)) w.heap.size w.heap.size 0 [] := World.ownsRow_made w #[] 0 (Nat.le_refl _) (Nat.zero_le _) rfl
  have H0 := Lib.hid h0; clear h0
  go_enter Tryd.func74, Tryd.ntmps74
  go_wp2
  go_loopw [3, 4] (fun v i wr => ∃ (outs : List Int) (g c : Nat), outs.length ≤ zs.length ∧ i = .int .i64 outs.length ∧ v = .slice (some ⟨g, 0, none⟩) outs.length c ∧ outs = sortD (zs.take outs.length) ∧ RowI wr w.heap.size g c outs ∧ Below w.heap.size w wr) (fun _ i _ => zs.length - (intOf i).toNat)
  case atStart => exact ⟨[], w.heap.size, 0, by simp, rfl, rfl, by simp [sortD_nil], H0.out, (Below.refl _ _).alloc (Nat.le_refl _) _⟩
  case round =>
    obtain ⟨outs, g, c, hlen, rfl, rfl, hs, hrow, hb⟩ := hrel
    have HS := Lib.hid hs; clear hs
    have hcap : outs.length ≤ c := by
      rcases hrow.2 with ⟨e, _⟩ | ⟨_, _, _, e, _, _, h, _⟩
      · cases e
      · cases e; exact h
    have hcm : c ≤ 9223372036854775807 := by
      rcases hrow.2 with ⟨e, _⟩ | ⟨_, _, _, e, _, _, _, h, _⟩
      · cases e
      · cases e; unfold maxLen at h; omega
    by_cases hlt : (outs.length : Int) < (zs.length : Int)
    · have hin : outs.length < zs.length := by omega
      obtain ⟨gl, rfl, hgl, hx⟩ := HI.out outs.length hin
      have hx' : wr.cell? ⟨gl, outs.length, none⟩ = some (.int .i64 zs[outs.length]) := by rw [← hx]; exact hb.cell hgl
      clear hx
      obtain ⟨x, hxe⟩ : ∃ x, x = zs[outs.length] := ⟨_, rfl⟩
      rw [← hxe] at hx'
      have HX := Lib.hid hxe; clear hxe
      have HR := Lib.hid hrow; clear hrow
      have HB := Lib.hid hb; clear hb
      go_wp2
      go_loopw [5] (fun kk wq => ∃ (k q : Nat), k ≤ outs.length ∧ kk = .int .i64 k ∧ wq = wr.drewN q ∧ Hid (∀ j (_ : j < k) (hj : j < outs.length), x ≤ outs[j])) (fun kk _ => outs.length - (intOf kk).toNat)
      case atStart => exact ⟨0, 0, by omega, rfl, rfl, Lib.hid (fun j h => by omega)⟩
      case round =>
        obtain ⟨k, q, hk, rfl, rfl, hd⟩ := hrel
        by_cases hkn : (k : Int) < (outs.length : Int)
        · have hkn' : k < outs.length := by omega
          have hy := HR.out.cell k hkn'
          obtain ⟨y, hye⟩ : ∃ y, y = outs[k] := ⟨_, rfl⟩
          rw [← hye] at hy
          have HY := Lib.hid hye; clear hye
          by_cases hge : x ≤ y
          · go_wp2
            go_quiet (fail)
            go_wp2
            go_roundw
            case rel =>
              refine ⟨k + 1, q + nq, by omega, by go_num, by simp [World.drewN], Lib.hid (fun j h hj => ?_)⟩
              by_cases e : j = k
              · subst e; rw [← HY.out]; exact hge
              · exact hd.out j (by omega) hj
            case measure => simp [intOf]; omega
          · have HG := Lib.hid (sortD_step outs zs x k HS.out hin HX.out hd.out (fun h => by rw [← HY.out]; omega))
            go_wp2
            go_quiet (fail)
            go_wp2_with fail
            obtain ⟨W, hW⟩ : ∃ W : World, W = (wr.drewN q).drewN nq := ⟨_, rfl⟩
            rw [← hW]
            have bW : Below wr.heap.size wr W := by rw [hW]; exact below_drewN (below_drewN (Below.refl _ _) _) _
            have cx : W.cell? ⟨gl, outs.length, none⟩ = some (.int .i64 x) := by rw [hW]; exact hx'
            have hglW : gl < W.heap.size := by have := HB.out.size; have := bW.size; omega
            have HRW : Hid (RowI W w.heap.size g c outs) := Lib.hid (OwnI.below HR.out bW)
            have HBW := Lib.hid (HB.out.trans (bW.mono HB.out.size))
            have HCP := Lib.hid (copy_head g c k outs W w.heap.size HRW.out hk (by omega))
            have htk : (outs.take k).length = k := by rw [List.length_take]; omega
            have kc : (k : Int) ≤ (c : Int) := by omega
            have kn : (k : Int) ≤ (outs.length : Int) := by omega
            clear hW bW hx'
            go_region_held3 (fun w' => w'.cell? ⟨gl, outs.length, none⟩ = some (.int .i64 x))
              (go_keep)
              (first
                | (go_at_call 90; refine (HCP.out _ ?_).mono ?_; (focus (first | exact (Below.refl _ _) | exact (Below.refl _ _).drew | exact ((Below.refl _ _).alloc (Nat.le_refl _) _) | exact ((Below.refl _ _).alloc (Nat.le_refl _) _).drew)); (rintro e u ⟨g1, c1, rfl, ho, hg1, hbW, hkeep⟩; have HO := Lib.hid ho; have HK := Lib.hid hkeep; have cu : u.cell? ⟨gl, outs.length, none⟩ = some (.int .i64 x) := (hbW.cell (p := ⟨gl, outs.length, none⟩) hglW).trans cx; clear ho hkeep))
                | (refine step_append_own_at _ (by rfl) (.tmp 33) (.tmp 38) 24 (by rfl) W.heap.size 3 i0 (.int .i64 0) 1 8 Tryd.underlying24 HI0.out.1 HI0.out.2.1 HI0.out.2.2.1 HI0.out.2.2.2 rfl (by omega) (.slice (some ⟨g1, 0, none⟩) k c1) k (intV (outs.take k)) (by rfl) ?_ ⟨u.heap.size, 0, none⟩ 1 1 (intV [x]) (by rfl) (by rfl) ?_ (one_int [x]) (by unfold maxLen; omega) (by omega) ?_ ?_; (focus (first | exact HO.out.alloc _ | exact (HO.out.alloc _).drew)); (focus (exact World.news_of_block (cs := #[.int .i64 x]) (t := 3) (fr := (0, 0)) (heap_alloc_new u _))); (focus (have := hbW.size; simp; omega)); (intro v' w1 hown hgrow hnil _; obtain ⟨g2, c2, rfl, hr2⟩ := RowI.of (n := k + 1) (l := outs.take k ++ [x]) (by rw [intV_app]; exact hown) (by simp; omega) (fun e => by have := (hnil.1 e).1; cases this); have hbW1 := app_done hbW ((Below.refl _ _).alloc hbW.size _) hgrow hg1; have HR2 := Lib.hid hr2; have cu1 : w1.cell? ⟨gl, outs.length, none⟩ = some (.int .i64 x) := (hbW1.cell (p := ⟨gl, outs.length, none⟩) hglW).trans cx; clear hown hgrow hnil hr2))
                | (refine step_append_own_at _ (by rfl) (.tmp 33) (.tmp 38) 24 (by rfl) W.heap.size 3 i0 (.int .i64 0) 1 8 Tryd.underlying24 HI0.out.1 HI0.out.2.1 HI0.out.2.2.1 HI0.out.2.2.2 rfl (by omega) (.slice (some ⟨g1, 0, none⟩) k c1) k (intV (outs.take k)) (by rfl) ?_ ⟨W.heap.size, 0, none⟩ 1 1 (intV [x]) (by rfl) (by rfl) ?_ (one_int [x]) (by unfold maxLen; omega) (by omega) ?_ ?_; (focus (first | exact HO.out | exact HO.out.drew)); (focus (exact World.news_of_block (cs := #[.int .i64 x]) (t := 3) (fr := (0, 0)) (HK.out _ _ (heap_alloc_new W _)))); (focus (have := hbW.size; simp; omega)); (intro v' w1 hown hgrow hnil _; obtain ⟨g2, c2, rfl, hr2⟩ := RowI.of (n := k + 1) (l := outs.take k ++ [x]) (by rw [intV_app]; exact hown) (by simp; omega) (fun e => by have := (hnil.1 e).1; cases this); have hbW1 := app_done hbW (Below.refl _ _) hgrow hg1; have HR2 := Lib.hid hr2; have cu1 : w1.cell? ⟨gl, outs.length, none⟩ = some (.int .i64 x) := (hbW1.cell (p := ⟨gl, outs.length, none⟩) hglW).trans cx; clear hown hgrow hnil hr2))
                | (refine step_append_own_at _ (by rfl) (.tmp 39) (.tmp 42) 24 (by rfl) W.heap.size 3 i0 (.int .i64 0) 1 8 Tryd.underlying24 HI0.out.1 HI0.out.2.1 HI0.out.2.2.1 HI0.out.2.2.2 rfl (by omega) (.slice (some ⟨g2, 0, none⟩) (k + 1) c2) (k + 1) (intV (outs.take k ++ [x])) (by rfl) ?_ ⟨g, k, none⟩ (outs.length - k) (c - k) (intV (outs.drop k)) (by rfl) ?_ ?_ (one_int _) (by unfold maxLen; omega) (by omega) ?_ ?_; (focus (first | exact RowI.own HR2.out (by simp; omega) | exact (RowI.own HR2.out (by simp; omega)).drew)); (focus (rw [intV_len, List.length_drop]; omega)); (focus (exact RowI.news (OwnI.below HRW.out hbW1) k)); (focus (have := hbW1.size; simp; omega)); (intro v' w3 hown hgrow hnil _; obtain ⟨g3, c3, rfl, hr3⟩ := RowI.of (n := k + 1 + (outs.length - k)) (l := outs.take k ++ [x] ++ outs.drop k) (by rw [intV_app]; exact hown) (by simp; omega) (fun e => by have := (hnil.1 e).1; cases this); have hbW3 := app_done hbW1 (Below.refl _ _) hgrow (RowI.low HR2.out); have HR3 := Lib.hid hr3; have cu3 : w3.cell? ⟨gl, outs.length, none⟩ = some (.int .i64 x) := (hbW3.cell (p := ⟨gl, outs.length, none⟩) hglW).trans cx; clear hown hgrow hnil hr3)))
            all_goals
              go_wp2
              go_roundw
              case rel =>
                have hz3 : (sortD (zs.take (outs.length + 1))).length = outs.length + 1 := by rw [sortD_len, List.length_take]; omega
                refine ⟨sortD (zs.take (outs.length + 1)), g3, c3, by omega, by rw [hz3]; rfl, by rw [hz3, show k + 1 + (outs.length - k) = outs.length + 1 from by omega], by rw [hz3], ?_, HBW.out.trans (hbW3.mono HBW.out.size)⟩
                have h3 := OwnI.mono HR3.out HBW.out.size
                rw [List.append_assoc] at h3
                rw [← HG.out]
                exact h3
              case measure => simp [intOf]; omega
        · have hkd : decide (k < outs.length) = false := by simp; omega
          have HG := Lib.hid (sortD_step outs zs x k HS.out hin HX.out hd.out (fun h => by omega))
          have hkl : outs.length ≤ k := by omega
          by_cases hck : k < c
          all_goals
            go_wp2
            go_quiet (fail)
            go_wp2
            go_wp2_with fail
            obtain ⟨W, hW⟩ : ∃ W : World, W = (wr.drewN q).drewN nq := ⟨_, rfl⟩
            rw [← hW]
            have bW : Below wr.heap.size wr W := by rw [hW]; exact below_drewN (below_drewN (Below.refl _ _) _) _
            have cx : W.cell? ⟨gl, outs.length, none⟩ = some (.int .i64 x) := by rw [hW]; exact hx'
            have hglW : gl < W.heap.size := by have := HB.out.size; have := bW.size; omega
            have HRW : Hid (RowI W w.heap.size g c outs) := Lib.hid (OwnI.below HR.out bW)
            have HBW := Lib.hid (HB.out.trans (bW.mono HB.out.size))
            have HCP := Lib.hid (copy_head g c k outs W w.heap.size HRW.out hk (by omega))
            have htk : (outs.take k).length = k := by rw [List.length_take]; omega
            have kc : (k : Int) ≤ (c : Int) := by omega
            have kn : (k : Int) ≤ (outs.length : Int) := by omega
            clear hW bW hx'
            go_region_held3 (fun w' => w'.cell? ⟨gl, outs.length, none⟩ = some (.int .i64 x))
              (go_keep)
              (first
                | (go_at_call 90; refine (HCP.out _ ?_).mono ?_; (focus (first | exact (Below.refl _ _) | exact (Below.refl _ _).drew | exact ((Below.refl _ _).alloc (Nat.le_refl _) _) | exact ((Below.refl _ _).alloc (Nat.le_refl _) _).drew)); (rintro e u ⟨g1, c1, rfl, ho, hg1, hbW, hkeep⟩; have HO := Lib.hid ho; have HK := Lib.hid hkeep; have cu : u.cell? ⟨gl, outs.length, none⟩ = some (.int .i64 x) := (hbW.cell (p := ⟨gl, outs.length, none⟩) hglW).trans cx; clear ho hkeep))
                | (refine step_append_own_at _ (by rfl) (.tmp 33) (.tmp 38) 24 (by rfl) W.heap.size 3 i0 (.int .i64 0) 1 8 Tryd.underlying24 HI0.out.1 HI0.out.2.1 HI0.out.2.2.1 HI0.out.2.2.2 rfl (by omega) (.slice (some ⟨g1, 0, none⟩) k c1) k (intV (outs.take k)) (by rfl) ?_ ⟨u.heap.size, 0, none⟩ 1 1 (intV [x]) (by rfl) (by rfl) ?_ (one_int [x]) (by unfold maxLen; omega) (by omega) ?_ ?_; (focus (first | exact HO.out.alloc _ | exact (HO.out.alloc _).drew)); (focus (exact World.news_of_block (cs := #[.int .i64 x]) (t := 3) (fr := (0, 0)) (heap_alloc_new u _))); (focus (have := hbW.size; simp; omega)); (intro v' w1 hown hgrow hnil _; obtain ⟨g2, c2, rfl, hr2⟩ := RowI.of (n := k + 1) (l := outs.take k ++ [x]) (by rw [intV_app]; exact hown) (by simp; omega) (fun e => by have := (hnil.1 e).1; cases this); have hbW1 := app_done hbW ((Below.refl _ _).alloc hbW.size _) hgrow hg1; have HR2 := Lib.hid hr2; have cu1 : w1.cell? ⟨gl, outs.length, none⟩ = some (.int .i64 x) := (hbW1.cell (p := ⟨gl, outs.length, none⟩) hglW).trans cx; clear hown hgrow hnil hr2))
                | (refine step_append_own_at _ (by rfl) (.tmp 33) (.tmp 38) 24 (by rfl) W.heap.size 3 i0 (.int .i64 0) 1 8 Tryd.underlying24 HI0.out.1 HI0.out.2.1 HI0.out.2.2.1 HI0.out.2.2.2 rfl (by omega) (.slice (some ⟨g1, 0, none⟩) k c1) k (intV (outs.take k)) (by rfl) ?_ ⟨W.heap.size, 0, none⟩ 1 1 (intV [x]) (by rfl) (by rfl) ?_ (one_int [x]) (by unfold maxLen; omega) (by omega) ?_ ?_; (focus (first | exact HO.out | exact HO.out.drew)); (focus (exact World.news_of_block (cs := #[.int .i64 x]) (t := 3) (fr := (0, 0)) (HK.out _ _ (heap_alloc_new W _)))); (focus (have := hbW.size; simp; omega)); (intro v' w1 hown hgrow hnil _; obtain ⟨g2, c2, rfl, hr2⟩ := RowI.of (n := k + 1) (l := outs.take k ++ [x]) (by rw [intV_app]; exact hown) (by simp; omega) (fun e => by have := (hnil.1 e).1; cases this); have hbW1 := app_done hbW (Below.refl _ _) hgrow hg1; have HR2 := Lib.hid hr2; have cu1 : w1.cell? ⟨gl, outs.length, none⟩ = some (.int .i64 x) := (hbW1.cell (p := ⟨gl, outs.length, none⟩) hglW).trans cx; clear hown hgrow hnil hr2))
                | (refine step_append_own_at _ (by rfl) (.tmp 39) (.tmp 42) 24 (by rfl) W.heap.size 3 i0 (.int .i64 0) 1 8 Tryd.underlying24 HI0.out.1 HI0.out.2.1 HI0.out.2.2.1 HI0.out.2.2.2 rfl (by omega) (.slice (some ⟨g2, 0, none⟩) (k + 1) c2) (k + 1) (intV (outs.take k ++ [x])) (by rfl) ?_ ⟨g, k, none⟩ 0 (c - k) (intV (outs.drop k)) (by rfl) ?_ ?_ (one_int _) (by unfold maxLen; omega) (by omega) ?_ ?_; (focus (first | exact RowI.own HR2.out (by simp; omega) | exact (RowI.own HR2.out (by simp; omega)).drew)); (focus (rw [intV_len, List.length_drop]; omega)); (focus (exact RowI.news (OwnI.below HRW.out hbW1) k)); (focus (have := hbW1.size; simp; omega)); (intro v' w3 hown hgrow hnil _; obtain ⟨g3, c3, rfl, hr3⟩ := RowI.of (n := k + 1) (l := outs.take k ++ [x] ++ outs.drop k) (by rw [intV_app]; exact hown) (by simp; omega) (fun e => by have := (hnil.1 e).1; cases this); have hbW3 := app_done hbW1 (Below.refl _ _) hgrow (RowI.low HR2.out); have HR3 := Lib.hid hr3; have cu3 : w3.cell? ⟨gl, outs.length, none⟩ = some (.int .i64 x) := (hbW3.cell (p := ⟨gl, outs.length, none⟩) hglW).trans cx; clear hown hgrow hnil hr3))
                | (refine step_append_own_at _ (by rfl) (.tmp 39) (.tmp 42) 24 (by rfl) W.heap.size 3 i0 (.int .i64 0) 1 8 Tryd.underlying24 HI0.out.1 HI0.out.2.1 HI0.out.2.2.1 HI0.out.2.2.2 rfl (by omega) (.slice (some ⟨g2, 0, none⟩) (k + 1) c2) (k + 1) (intV (outs.take k ++ [x])) (by rfl) ?_ ⟨g, 0, none⟩ 0 (c - k) (intV (outs.drop k)) (by rfl) ?_ ?_ (one_int _) (by unfold maxLen; omega) (by omega) ?_ ?_; (focus (first | exact RowI.own HR2.out (by simp; omega) | exact (RowI.own HR2.out (by simp; omega)).drew)); (focus (rw [intV_len, List.length_drop]; omega)); (focus (rw [List.drop_eq_nil_of_le hkl]; intro j u hu; simp [intV] at hu)); (focus (have := hbW1.size; simp; omega)); (intro v' w3 hown hgrow hnil _; obtain ⟨g3, c3, rfl, hr3⟩ := RowI.of (n := k + 1) (l := outs.take k ++ [x] ++ outs.drop k) (by rw [intV_app]; exact hown) (by simp; omega) (fun e => by have := (hnil.1 e).1; cases this); have hbW3 := app_done hbW1 (Below.refl _ _) hgrow (RowI.low HR2.out); have HR3 := Lib.hid hr3; have cu3 : w3.cell? ⟨gl, outs.length, none⟩ = some (.int .i64 x) := (hbW3.cell (p := ⟨gl, outs.length, none⟩) hglW).trans cx; clear hown hgrow hnil hr3))
                | (refine step_append_own_at _ (by rfl) (.tmp 39) (.tmp 42) 24 (by rfl) W.heap.size 3 i0 (.int .i64 0) 1 8 Tryd.underlying24 HI0.out.1 HI0.out.2.1 HI0.out.2.2.1 HI0.out.2.2.2 rfl (by omega) (.slice (some ⟨g2, 0, none⟩) (k + 1) c2) (k + 1) (intV (outs.take k ++ [x])) (by rfl) ?_ ⟨g, 0, none⟩ 0 0 (intV (outs.drop k)) (by rfl) ?_ ?_ (one_int _) (by unfold maxLen; omega) (by omega) ?_ ?_; (focus (first | exact RowI.own HR2.out (by simp; omega) | exact (RowI.own HR2.out (by simp; omega)).drew)); (focus (rw [intV_len, List.length_drop]; omega)); (focus (rw [List.drop_eq_nil_of_le hkl]; intro j u hu; simp [intV] at hu)); (focus (have := hbW1.size; simp; omega)); (intro v' w3 hown hgrow hnil _; obtain ⟨g3, c3, rfl, hr3⟩ := RowI.of (n := k + 1) (l := outs.take k ++ [x] ++ outs.drop k) (by rw [intV_app]; exact hown) (by simp; omega) (fun e => by have := (hnil.1 e).1; cases this); have hbW3 := app_done hbW1 (Below.refl _ _) hgrow (RowI.low HR2.out); have HR3 := Lib.hid hr3; have cu3 : w3.cell? ⟨gl, outs.length, none⟩ = some (.int .i64 x) := (hbW3.cell (p := ⟨gl, outs.length, none⟩) hglW).trans cx; clear hown hgrow hnil hr3)))
            all_goals
              go_wp2
              go_roundw
              case rel =>
                have hz3 : (sortD (zs.take (outs.length + 1))).length = outs.length + 1 := by rw [sortD_len, List.length_take]; omega
                refine ⟨sortD (zs.take (outs.length + 1)), g3, c3, by omega, by rw [hz3]; rfl, by rw [hz3, show k + 1 = outs.length + 1 from by omega], by rw [hz3], ?_, HBW.out.trans (hbW3.mono HBW.out.size)⟩
                have h3 := OwnI.mono HR3.out HBW.out.size
                rw [List.append_assoc] at h3
                rw [← HG.out]
                exact h3
              case measure => simp [intOf]; omega
    · have HE := Lib.hid (show outs = sortD zs by
        have h := HS.out
        rw [List.take_of_length_le (by omega)] at h
        exact h)
      have HR := Lib.hid hrow; clear hrow
      go_wp2
      go_ret
      exact ⟨_, rfl, by rw [← HE.out]; exact HR.out, hb⟩
end Go.Proofs.YtichnpjpldkceaaDoor

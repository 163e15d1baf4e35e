/- The contract of spec.PlacesOf. -/
import Derived.Test.YtadcmngooobeiabGreatBe
import Derived.Deep.RegionHeld3
import Derived.Deep.AppendLies
import Derived.Lib.SliceRun
namespace Go.Proofs.YtadcmngooobeiabGreat
open Go.RowKit
theorem flat_at : ∀ (l : List Lg) (i j : Nat) (hj : j < l.length), (i = 2 * j → (flatS l)[i]? = some l[j].f) ∧ (i = 2 * j + 1 → (flatS l)[i]? = some l[j].t)
  | [], _, _, hj => by simp at hj
  | r :: l, i, 0, _ => by
    refine ⟨fun e => ?_, fun e => ?_⟩ <;> subst e <;> rfl
  | r :: l, i, j + 1, hj => by
    have h := flat_at l (i - 2) j (by simpa using hj)
    have e : flatS (r :: l) = r.f :: r.t :: flatS l := rfl
    refine ⟨fun ei => ?_, fun ei => ?_⟩
    · have h1 := h.1 (by omega)
      rw [e, show i = (i - 2) + 2 by omega]
      simpa using h1
    · have h1 := h.2 (by omega)
      rw [e, show i = (i - 2) + 2 by omega]
      simpa using h1
/-- the places of the first texts -/
def plK (l : List Lg) (i : Nat) : List ByteArray := ofL (placesL (lists ((flatS l).take i)))
theorem plK_all (l : List Lg) (i : Nat) (h : 2 * l.length ≤ i) : plK l i = placesB l := by
  unfold plK placesB
  rw [List.take_of_length_le (by rw [flatS_len]; exact h)]
theorem plK_succ (l : List Lg) (i : Nat) (p : ByteArray) (h : (flatS l)[i]? = some p) : plK l (i + 1) = ofL (insU p.data.toList (lists (plK l i))) := by
  unfold plK
  rw [lists_ofL, List.take_add_one, h]
  simp only [Option.toList_some]
  rw [lists_app, ← placesL_snoc]; rfl
theorem plK_len (l : List Lg) (i : Nat) : (plK l i).length ≤ i := by
  unfold plK
  rw [ofL_len]
  refine Nat.le_trans (pl_len _) ?_
  rw [lists_len, List.length_take]
  exact Nat.min_le_left _ _
/-- a slice of the call's own that holds these texts, and is not nil -/
def RowS (w : World) (base g cap : Nat) (l : List ByteArray) : Prop := OwnStr w base (.slice (some ⟨g, 0, none⟩) l.length cap) l
theorem rowS_of {w : World} {base : Nat} {v : Value} {l : List ByteArray} (h : OwnStr w base v l) (hv : v ≠ .slice none 0 0) : ∃ g cap, v = .slice (some ⟨g, 0, none⟩) l.length cap ∧ RowS w base g cap l := by
  have h0 := h
  rcases h.2 with ⟨e, _⟩ | ⟨g, cap, cur, e, _⟩
  · exact absurd e hv
  · subst e; exact ⟨g, cap, rfl, h0⟩
theorem RowS.lt {w : World} {base g cap : Nat} {l : List ByteArray} (h : RowS w base g cap l) : base ≤ g ∧ g < w.heap.size := by
  rcases h.2 with ⟨e, _⟩ | ⟨_, _, _, e, h1, h, _⟩
  · cases e
  · cases e; exact ⟨h1, (Array.getElem?_eq_some_iff.1 h).1⟩
theorem RowS.cap {w : World} {base g cap : Nat} {l : List ByteArray} (h : RowS w base g cap l) : l.length ≤ cap ∧ cap ≤ 9223372036854775807 := by
  rcases h.2 with ⟨e, _⟩ | ⟨_, _, _, e, _, _, h1, h2, _⟩
  · cases e
  · cases e; unfold maxLen at h2; omega
theorem RowS.cell {w : World} {base g cap : Nat} {l : List ByteArray} (h : RowS w base g cap l) (k : Nat) (hk : k < l.length) : w.cell? ⟨g, k, none⟩ = some (.string l[k]) := by
  rw [World.ownsRow.cellAt (w := w) (base := base) (e := 9) (size := 1) h k (by omega)]
  simp [strV, hk]
theorem RowS.news {w : World} {base g cap : Nat} {l : List ByteArray} (h : RowS w base g cap l) (k : Nat) : ∀ j u, (strV (l.drop k))[j]? = some u → w.cell? ((⟨g, k, none⟩ : Addr).add j) = some u := by
  intro j u hu
  have hj : k + j < l.length := by
    have := (List.getElem?_eq_some_iff.1 hu).1
    rw [strV_len, List.length_drop] at this; omega
  rw [Addr.add_lit, h.cell (k + j) hj]
  rw [← hu, strV, List.getElem?_map, List.getElem?_drop, List.getElem?_eq_getElem hj]; rfl
theorem RowS.own {w : World} {base g cap n : Nat} {l : List ByteArray} (h : RowS w base g cap l) (hn : l.length = n) : w.ownsRow base 9 1 (.slice (some ⟨g, 0, none⟩) n cap) n (strV l) := by
  subst hn; exact h
theorem RowS.of {w : World} {base n : Nat} {v : Value} {l : List ByteArray} (h : w.ownsRow base 9 1 v n (strV l)) (hn : l.length = n) (hv : v ≠ .slice none 0 0) : ∃ g cap, v = .slice (some ⟨g, 0, none⟩) n cap ∧ RowS w base g cap l := by
  subst hn; exact rowS_of h hv
theorem RowS.below {w w' : World} {base g cap : Nat} {l : List ByteArray} (h : RowS w base g cap l) (hb : Below w.heap.size w w') : RowS w' base g cap l := own_below h hb
theorem one_strs (l : List ByteArray) : ∀ u ∈ strV l, u.oneCell' = true := by
  intro u hu
  obtain ⟨x, _, rfl⟩ := List.mem_map.1 hu; rfl
theorem own_mono {w : World} {base base' : Nat} {v : Value} {l : List ByteArray} (h : OwnStr w base v l) (hb : base' ≤ base) : OwnStr w base' v l := by
  refine ⟨h.1, ?_⟩
  rcases h.2 with ⟨a, b⟩ | ⟨g, cap, cur, a, b, c⟩
  · exact .inl ⟨a, b⟩
  · exact .inr ⟨g, cap, cur, a, Nat.le_trans hb b, c⟩
theorem lists_get (l : List ByteArray) (j : Nat) (h : j < (lists l).length) : (lists l)[j] = (l[j]'(by rw [lists_len] at h; exact h)).data.toList := by simp [lists]
theorem ofL_mid (a b : List (List UInt8)) (p : List UInt8) : ofL (a ++ p :: b) = ofL a ++ ⟨p.toArray⟩ :: ofL b := by simp [ofL]
theorem ins_new {outs : List ByteArray} {p : ByteArray} {k : Nat} (hk : k ≤ outs.length) (h1 : ∀ j (_ : j < k) (hj : j < outs.length), Op.bytesLess outs[j].toList p.toList = true)
    (h2 : ∀ h : k < outs.length, Op.bytesLess outs[k].toList p.toList = false ∧ outs[k].toList ≠ p.toList) : ofL (insU p.data.toList (lists outs)) = outs.take k ++ p :: outs.drop k := by
  rw [ins_at p.data.toList (lists outs) k (by rw [lists_len]; exact hk) (fun j hj hjk => by rw [lists_get, ← ByteArray.toList_eq, ← ByteArray.toList_eq]; exact h1 j hjk _)
    (fun h => by rw [lists_get, ← ByteArray.toList_eq, ← ByteArray.toList_eq]; exact (h2 _).1)]
  rw [if_neg (fun ⟨h, e⟩ => by
    rw [lists_get, ← ByteArray.toList_eq, ← ByteArray.toList_eq] at e
    exact (h2 (by rw [lists_len] at h; exact h)).2 e), ofL_mid]
  have e1 : ofL ((lists outs).take k) = outs.take k := by rw [show (lists outs).take k = lists (outs.take k) by simp [lists], ofL_lists]
  have e2 : ofL ((lists outs).drop k) = outs.drop k := by rw [show (lists outs).drop k = lists (outs.drop k) by simp [lists], ofL_lists]
  rw [e1, e2]
theorem ins_old {outs : List ByteArray} {p : ByteArray} {k : Nat} (hk : k < outs.length) (h1 : ∀ j (_ : j < k) (hj : j < outs.length), Op.bytesLess outs[j].toList p.toList = true)
    (h2 : Op.bytesLess outs[k].toList p.toList = false) (h3 : outs[k].toList = p.toList) : ofL (insU p.data.toList (lists outs)) = outs := by
  rw [ins_at p.data.toList (lists outs) k (by rw [lists_len]; omega) (fun j hj hjk => by rw [lists_get, ← ByteArray.toList_eq, ← ByteArray.toList_eq]; exact h1 j hjk _)
    (fun h => by rw [lists_get, ← ByteArray.toList_eq, ← ByteArray.toList_eq]; exact h2)]
  rw [if_pos ⟨by rw [lists_len]; exact hk, by rw [lists_get, ← ByteArray.toList_eq, ← ByteArray.toList_eq]; exact h3⟩, ofL_lists]
set_option maxRecDepth 100000 in
set_option maxHeartbeats 4000000 in
theorem places_spec (A : Option Addr) (ca : Nat) (l : List Lg) (D : Option Addr) (cd m : Nat) (x : Int) (w : World) (hA : InK 6 lgC w A l) (hn : l.length ≤ 1048576) :
    Calls Tryz.prog 92 #[.agg #[.slice A l.length ca, .slice D m cd, .int .i64 x]] w fun e w' => (∃ v, e = .returned v ∧ OwnStr w' w.heap.size v (placesB l)) ∧ Below w.heap.size w w' := by
  obtain ⟨i0, hi0, hz0, hz1, hz2⟩ := info_parts str_info
  have HI0 := Lib.hid (And.intro hi0 (And.intro hz0 (And.intro hz1 hz2)))
  clear hi0 hz0 hz1 hz2
  have hB := Box3.new (T := 36) (v0 := .slice A l.length ca) (v1 := .slice D m cd) (v2 := .int .i64 x) w
  have hb0 := (Below.refl w.heap.size w).alloc (Nat.le_refl _) (.cells #[.slice A l.length ca, .slice D m cd, .int .i64 x] 36)
  have H0 := Lib.hid (And.intro hB (And.intro hb0 (hA.below hb0))); clear hB hb0 hA
  go_enter Tryz.func92, Tryz.ntmps92
  go_wp2
  have hBW : w.heap.size < (w.alloc (.cells #[.slice A l.length ca, .slice D m cd, .int .i64 x] 36)).heap.size := by simp
  have hWs : w.heap.size + 1 = (w.alloc (.cells #[.slice A l.length ca, .slice D m cd, .int .i64 x] 36)).heap.size := by simp
  rw [hWs]
  generalize hB : w.heap.size = B at *
  have HBE := Lib.hid hB; clear hB hWs
  generalize w.alloc (.cells #[.slice A l.length ca, .slice D m cd, .int .i64 x] 36) = W at *
  have hE0 : RowS (W.alloc (.cells #[] 9)) B W.heap.size 0 [] := World.ownsRow_made W #[] 0 (by omega) (Nat.zero_le _) rfl
  have HE := Lib.hid hE0; clear hE0
  go_loopw [3, 4] (fun v i wr => ∃ (i0' g c : Nat), i0' ≤ 2 * l.length ∧ i = .int .i64 i0' ∧ v = .slice (some ⟨g, 0, none⟩) (plK l i0').length c ∧ RowS wr B g c (plK l i0') ∧ W.heap.size ≤ g ∧ Below W.heap.size W wr) (fun _ i _ => 2 * l.length - (intOf i).toNat)
  case atStart => exact ⟨0, W.heap.size, 0, by omega, rfl, rfl, HE.out, Nat.le_refl _, (Below.refl _ _).alloc (Nat.le_refl _) _⟩
  case round =>
    obtain ⟨i, g, c, hi, rfl, rfl, hrow, hWg, hb⟩ := hrel
    have hlen := plK_len l i
    have hcap := hrow.cap
    obtain ⟨b0, b1, b2⟩ := (H0.out.1.below hb).cells
    have hBr : B < wr.heap.size := Nat.lt_of_lt_of_le hBW hb.size
    by_cases hlt : (i : Int) < 2 * (l.length : Int)
    · have hin : i / 2 < l.length := by omega
      obtain ⟨gl, rfl, hgl, c0, c1, _, _, _, _⟩ := (H0.out.2.2.below hb).lg (i / 2) hin
      have hd : (i : Int) / 2 = ((i / 2 : Nat) : Int) := by omega
      have hFA := flat_at l i (i / 2) hin
      obtain ⟨y, hy⟩ : ∃ y, y = l[i / 2] := ⟨_, rfl⟩
      rw [← hy] at c0 c1 hFA
      clear hy
      have HFA := Lib.hid hFA; clear hFA
      generalize hj : i / 2 = j at *
      have hj2 : i % 2 = 0 ∨ i % 2 = 1 := by omega
      rcases hj2 with hp | hp
      · have hm : (i : Int) % 2 = 0 := by omega
        have HP := Lib.hid (HFA.out.1 (by omega))
        generalize y.f = p at *
        have HS := Lib.hid (plK_succ l i p HP.out)
        clear HFA
        have hb' := hb
        have HB := Lib.hid hb; clear hb hb'
        generalize plK l i = outs at *
        have HR := Lib.hid hrow; clear hrow
        obtain ⟨hc1, hc2⟩ := hcap
        go_wp2
        go_loopw [6] (fun kk wq => ∃ (k q : Nat), k ≤ outs.length ∧ kk = .int .i64 k ∧ wq = wr.drewN q ∧ Hid (∀ j (_ : j < k) (hj : j < outs.length), Op.bytesLess outs[j].toList p.toList = true)) (fun kk _ => outs.length - (intOf kk).toNat)
        case atStart => exact ⟨0, 0, by omega, rfl, rfl, Lib.hid (fun j h => by omega)⟩
        case round =>
          obtain ⟨k, q, hk, rfl, rfl, hdn⟩ := hrel
          by_cases hkn : (k : Int) < (outs.length : Int)
          · have hkn' : k < outs.length := by omega
            have hy := HR.out.cell k hkn'
            obtain ⟨y', hye⟩ : ∃ y, y = outs[k] := ⟨_, rfl⟩
            rw [← hye] at hy
            have HY := Lib.hid hye; clear hye
            cases hlb : Op.bytesLess y'.toList p.toList with
            | true =>
              go_wp2
              go_roundw
              case rel =>
                refine ⟨k + 1, q, by omega, by go_num, rfl, Lib.hid (fun j h hj => ?_)⟩
                by_cases e : j = k
                · subst e; rw [← HY.out]; exact hlb
                · exact hdn.out j (by omega) hj
              case measure => simp [intOf]; omega
            | false =>
              have hkl : ((k : Int) == (outs.length : Int)) = false := by simp; omega
              by_cases he : y'.toList = p.toList
              · have hne : (y'.toList == p.toList) = true := by simpa using he
                have HG := Lib.hid (HS.out.trans (ins_old hkn' hdn.out (by rw [← HY.out]; exact hlb) (by rw [← HY.out]; exact he)))
                clear he
                go_wp2
                go_roundw
                case rel => exact ⟨i + 1, g, c, by omega, by go_num, by rw [HG.out], by rw [HG.out]; exact HR.out, hWg, below_drewN HB.out q⟩
                case measure => simp [intOf]; omega
              · have hne : (y'.toList == p.toList) = false := by simpa using he
                have HG := Lib.hid (HS.out.trans (ins_new hk hdn.out (fun h => by rw [← HY.out]; exact ⟨hlb, he⟩)))
                clear he
                go_wp2_with fail
                obtain ⟨V, hV⟩ : ∃ V : World, V = wr.drewN q := ⟨_, rfl⟩
                rw [← hV]
                have bV : Below wr.heap.size wr V := by rw [hV]; exact below_drewN (Below.refl _ _) _
                have hBV : B < V.heap.size := Nat.lt_of_lt_of_le hBr bV.size
                obtain ⟨SL, hSL⟩ : ∃ SL, SL = Value.slice (some ⟨gl, 0, none⟩) l.length ca := ⟨_, rfl⟩
                have cx : V.cell? ⟨B, 0, none⟩ = some SL := by rw [hSL]; exact (bV.cell (p := ⟨B, 0, none⟩) hBr).trans b0
                have HRV := Lib.hid (RowS.below HR.out bV)
                have HBV := Lib.hid (HB.out.trans (bV.mono HB.out.size))
                have htk : (outs.take k).length = k := by rw [List.length_take]; omega
                have kc : (k : Int) ≤ (c : Int) := by omega
                have hck : ¬ c = k := by omega
                have kn : (k : Int) ≤ (outs.length : Int) := by omega
                have hlo : outs.length ≤ 2097152 := by omega
                have E0 := Lib.hid (World.ownsRow_made (base := V.heap.size) (e := 9) (size := 1) V #[] 0 (Nat.le_refl _) (Nat.zero_le _) rfl)
                have E1 := Lib.hid (show ((V.alloc (.cells #[.string p] 9)).alloc (.cells #[] 9)).ownsRow V.heap.size 9 1 (.slice (some ⟨V.heap.size + 1, 0, none⟩) 0 0) 0 [] from by
                  have h := World.ownsRow_made (base := V.heap.size) (e := 9) (size := 1) (V.alloc (.cells #[.string p] 9)) #[] 0 (by simp) (Nat.zero_le _) rfl
                  rw [show (V.alloc (.cells #[.string p] 9)).heap.size = V.heap.size + 1 by simp] at h
                  exact h)
                have S2 := Lib.hid (show ((V.alloc (.cells #[] 9)).alloc (.cells #[.string p] 9)).heap[V.heap.size + 1]? = some (.cells #[.string p] 9) from by
                  have h := heap_alloc_new (V.alloc (.cells #[] 9)) (.cells #[.string p] 9)
                  rw [show (V.alloc (.cells #[] 9)).heap.size = V.heap.size + 1 by simp] at h
                  exact h)
                have S3 := Lib.hid (show ((V.alloc (.cells #[.string p] 9)).alloc (.cells #[] 9)).heap[V.heap.size]? = some (.cells #[.string p] 9) from by
                  rw [((Below.refl _ _).alloc (Nat.le_refl _) (.cells #[] 9)).block V.heap.size (by simp)]
                  exact heap_alloc_new V _)
                have E1b := Lib.hid ((Below.refl V.heap.size V).alloc (Nat.le_refl _) (.cells #[] 9))
                have E2b := Lib.hid (((Below.refl V.heap.size V).alloc (Nat.le_refl _) (.cells #[] 9)).alloc (by simp) (.cells #[.string p] 9))
                have E3b := Lib.hid (((Below.refl V.heap.size V).alloc (Nat.le_refl _) (.cells #[.string p] 9)).alloc (by simp) (.cells #[] 9))
                have HRT := Lib.hid (show ∀ U, Below V.heap.size V U → ∀ j u, (strV (outs.take k))[j]? = some u → U.cell? ((⟨g, 0, none⟩ : Addr).add j) = some u from fun U hU j u hu => by
                  have h := (HRV.out.below hU).news 0
                  rw [List.drop_zero] at h
                  refine h j u ?_
                  have hj := (List.getElem?_eq_some_iff.1 hu).1
                  rw [strV_len, htk] at hj
                  rw [← hu, strV, strV, List.getElem?_map, List.getElem?_map, List.getElem?_take_of_lt hj])
                clear hV bV
                go_region_held3 (fun w' => w'.cell? ⟨B, 0, none⟩ = some SL)
                  (go_keep)
                  (first
                    | (refine step_append_own_at _ (by rfl) (.tmp 59) (.tmp 62) 131 (by rfl) V.heap.size 9 i0 (.string ⟨#[]⟩) 1 16 Tryz.underlying131 HI0.out.1 HI0.out.2.1 HI0.out.2.2.1 HI0.out.2.2.2 rfl (by omega) (.slice (some ⟨V.heap.size, 0, none⟩) 0 0) 0 [] (by rfl) ?_ ⟨g, 0, none⟩ k c (strV (outs.take k)) (by rfl) ?_ ?_ (one_strs _) (by unfold maxLen; omega) (by omega) ?_ ?_; (focus (first | exact (E0.out.alloc _) | exact (E0.out.alloc _).drew)); (focus (rw [strV_len, htk, Nat.mul_one])); (focus (exact HRT.out _ (by first | exact E1b.out | exact E1b.out.drew | exact E2b.out | exact E2b.out.drew | exact E3b.out | exact E3b.out.drew))); (focus (simp; try omega)); (intro v' w1 hown hgrow hnil _; have HKS := Lib.hid ((hgrow.block (V.heap.size + 1) (by simp; try omega) (fun e => by have e2 : V.heap.size + 1 = V.heap.size := Option.some.inj e; omega)).trans S2.out); obtain ⟨g1, c1, rfl, hr1⟩ := RowS.of (n := k) (l := outs.take k) (by simpa using hown) htk (fun e => by have := (hnil.1 e).1; cases this); have hbW1 := Below.grown (by first | exact E1b.out | exact E1b.out.drew | exact E2b.out | exact E2b.out.drew | exact E3b.out | exact E3b.out.drew) hgrow (by simp; try omega) (by intro k' e; cases e; first | exact Nat.le_refl _ | exact Nat.le_succ _); have HR1 := Lib.hid hr1; have cu : w1.cell? ⟨B, 0, none⟩ = some SL := (hbW1.cell (p := ⟨B, 0, none⟩) hBV).trans cx; clear hown hgrow hnil hr1))
                    | (refine step_append_own_at _ (by rfl) (.tmp 59) (.tmp 62) 131 (by rfl) V.heap.size 9 i0 (.string ⟨#[]⟩) 1 16 Tryz.underlying131 HI0.out.1 HI0.out.2.1 HI0.out.2.2.1 HI0.out.2.2.2 rfl (by omega) (.slice (some ⟨V.heap.size + 1, 0, none⟩) 0 0) 0 [] (by rfl) ?_ ⟨g, 0, none⟩ k c (strV (outs.take k)) (by rfl) ?_ ?_ (one_strs _) (by unfold maxLen; omega) (by omega) ?_ ?_; (focus (first | exact E1.out | exact E1.out.drew)); (focus (rw [strV_len, htk, Nat.mul_one])); (focus (exact HRT.out _ (by first | exact E1b.out | exact E1b.out.drew | exact E2b.out | exact E2b.out.drew | exact E3b.out | exact E3b.out.drew))); (focus (simp; try omega)); (intro v' w1 hown hgrow hnil _; have HKS := Lib.hid ((hgrow.block V.heap.size (by simp; try omega) (fun e => by have e2 : V.heap.size = V.heap.size + 1 := Option.some.inj e; omega)).trans S3.out); obtain ⟨g1, c1, rfl, hr1⟩ := RowS.of (n := k) (l := outs.take k) (by simpa using hown) htk (fun e => by have := (hnil.1 e).1; cases this); have hbW1 := Below.grown (by first | exact E1b.out | exact E1b.out.drew | exact E2b.out | exact E2b.out.drew | exact E3b.out | exact E3b.out.drew) hgrow (by simp; try omega) (by intro k' e; cases e; first | exact Nat.le_refl _ | exact Nat.le_succ _); have HR1 := Lib.hid hr1; have cu : w1.cell? ⟨B, 0, none⟩ = some SL := (hbW1.cell (p := ⟨B, 0, none⟩) hBV).trans cx; clear hown hgrow hnil hr1))
                    | (refine step_append_own_at _ (by rfl) (.tmp 59) (.tmp 62) 131 (by rfl) V.heap.size 9 i0 (.string ⟨#[]⟩) 1 16 Tryz.underlying131 HI0.out.1 HI0.out.2.1 HI0.out.2.2.1 HI0.out.2.2.2 rfl (by omega) (.slice (some ⟨V.heap.size, 0, none⟩) 0 0) 0 [] (by rfl) ?_ ⟨g, 0, none⟩ k c (strV (outs.take k)) (by rfl) ?_ ?_ (one_strs _) (by unfold maxLen; omega) (by omega) ?_ ?_; (focus (first | exact E0.out | exact E0.out.drew)); (focus (rw [strV_len, htk, Nat.mul_one])); (focus (exact HRT.out _ (by first | exact E1b.out | exact E1b.out.drew | exact E2b.out | exact E2b.out.drew | exact E3b.out | exact E3b.out.drew))); (focus (simp; try omega)); (intro v' w1 hown hgrow hnil _; obtain ⟨g1, c1, rfl, hr1⟩ := RowS.of (n := k) (l := outs.take k) (by simpa using hown) htk (fun e => by have := (hnil.1 e).1; cases this); have hbW1 := Below.grown (by first | exact E1b.out | exact E1b.out.drew | exact E2b.out | exact E2b.out.drew | exact E3b.out | exact E3b.out.drew) hgrow (by simp; try omega) (by intro k' e; cases e; first | exact Nat.le_refl _ | exact Nat.le_succ _); have HR1 := Lib.hid hr1; have cu : w1.cell? ⟨B, 0, none⟩ = some SL := (hbW1.cell (p := ⟨B, 0, none⟩) hBV).trans cx; clear hown hgrow hnil hr1))
                    | (refine step_append_own_at _ (by rfl) (.tmp 63) (.tmp 65) 131 (by rfl) V.heap.size 9 i0 (.string ⟨#[]⟩) 1 16 Tryz.underlying131 HI0.out.1 HI0.out.2.1 HI0.out.2.2.1 HI0.out.2.2.2 rfl (by omega) (.slice (some ⟨g1, 0, none⟩) k c1) k (strV (outs.take k)) (by rfl) ?_ ⟨w1.heap.size, 0, none⟩ 1 1 (strV [p]) (by rfl) (by rfl) ?_ (one_str p) (by unfold maxLen; omega) (by omega) ?_ ?_; (focus (first | exact (HR1.out.own htk).alloc _ | exact ((HR1.out.own htk).alloc _).drew)); (focus (exact World.news_of_block (cs := #[.string p]) (t := 9) (fr := (0, 0)) (heap_alloc_new w1 _))); (focus (have := hbW1.size; simp; try omega)); (intro v' w2 hown hgrow hnil _; obtain ⟨g2, c2, rfl, hr2⟩ := RowS.of (n := k + 1) (l := outs.take k ++ [p]) (by rw [strV_app]; exact hown) (by simp; omega) (fun e => by have := (hnil.1 e).1; cases this); have hbW2 := Below.grown (hbW1.alloc hbW1.size _) hgrow (by have := hbW1.size; simp; try omega) (by intro k' e; cases e; exact HR1.out.lt.1); have HR2 := Lib.hid hr2; have cu2 : w2.cell? ⟨B, 0, none⟩ = some SL := (hbW2.cell (p := ⟨B, 0, none⟩) hBV).trans cx; clear hown hgrow hnil hr2))
                    | (refine step_append_own_at _ (by rfl) (.tmp 63) (.tmp 65) 131 (by rfl) V.heap.size 9 i0 (.string ⟨#[]⟩) 1 16 Tryz.underlying131 HI0.out.1 HI0.out.2.1 HI0.out.2.2.1 HI0.out.2.2.2 rfl (by omega) (.slice (some ⟨g1, 0, none⟩) k c1) k (strV (outs.take k)) (by rfl) ?_ ⟨V.heap.size + 1, 0, none⟩ 1 1 (strV [p]) (by rfl) (by rfl) ?_ (one_str p) (by unfold maxLen; omega) (by omega) ?_ ?_; (focus (first | exact HR1.out.own htk | exact (HR1.out.own htk).drew)); (focus (exact World.news_of_block (cs := #[.string p]) (t := 9) (fr := (0, 0)) HKS.out)); (focus (have := hbW1.size; simp; try omega)); (intro v' w2 hown hgrow hnil _; obtain ⟨g2, c2, rfl, hr2⟩ := RowS.of (n := k + 1) (l := outs.take k ++ [p]) (by rw [strV_app]; exact hown) (by simp; omega) (fun e => by have := (hnil.1 e).1; cases this); have hbW2 := Below.grown (hbW1) hgrow (by have := hbW1.size; simp; try omega) (by intro k' e; cases e; exact HR1.out.lt.1); have HR2 := Lib.hid hr2; have cu2 : w2.cell? ⟨B, 0, none⟩ = some SL := (hbW2.cell (p := ⟨B, 0, none⟩) hBV).trans cx; clear hown hgrow hnil hr2))
                    | (refine step_append_own_at _ (by rfl) (.tmp 63) (.tmp 65) 131 (by rfl) V.heap.size 9 i0 (.string ⟨#[]⟩) 1 16 Tryz.underlying131 HI0.out.1 HI0.out.2.1 HI0.out.2.2.1 HI0.out.2.2.2 rfl (by omega) (.slice (some ⟨g1, 0, none⟩) k c1) k (strV (outs.take k)) (by rfl) ?_ ⟨V.heap.size, 0, none⟩ 1 1 (strV [p]) (by rfl) (by rfl) ?_ (one_str p) (by unfold maxLen; omega) (by omega) ?_ ?_; (focus (first | exact HR1.out.own htk | exact (HR1.out.own htk).drew)); (focus (exact World.news_of_block (cs := #[.string p]) (t := 9) (fr := (0, 0)) HKS.out)); (focus (have := hbW1.size; simp; try omega)); (intro v' w2 hown hgrow hnil _; obtain ⟨g2, c2, rfl, hr2⟩ := RowS.of (n := k + 1) (l := outs.take k ++ [p]) (by rw [strV_app]; exact hown) (by simp; omega) (fun e => by have := (hnil.1 e).1; cases this); have hbW2 := Below.grown (hbW1) hgrow (by have := hbW1.size; simp; try omega) (by intro k' e; cases e; exact HR1.out.lt.1); have HR2 := Lib.hid hr2; have cu2 : w2.cell? ⟨B, 0, none⟩ = some SL := (hbW2.cell (p := ⟨B, 0, none⟩) hBV).trans cx; clear hown hgrow hnil hr2))
                    | (refine step_append_own_at _ (by rfl) (.tmp 66) (.tmp 69) 131 (by rfl) V.heap.size 9 i0 (.string ⟨#[]⟩) 1 16 Tryz.underlying131 HI0.out.1 HI0.out.2.1 HI0.out.2.2.1 HI0.out.2.2.2 rfl (by omega) (.slice (some ⟨g2, 0, none⟩) (k + 1) c2) (k + 1) (strV (outs.take k ++ [p])) (by rfl) ?_ ⟨g, k, none⟩ (outs.length - k) (c - k) (strV (outs.drop k)) (by rfl) ?_ ?_ (one_strs _) (by unfold maxLen; omega) (by omega) ?_ ?_; (focus (first | exact HR2.out.own (by simp; omega) | exact (HR2.out.own (by simp; omega)).drew)); (focus (rw [strV_len, List.length_drop]; omega)); (focus (exact (HRV.out.below hbW2).news k)); (focus (have := hbW2.size; simp; try omega)); (intro v' w3 hown hgrow hnil _; obtain ⟨g3, c3, rfl, hr3⟩ := RowS.of (n := k + 1 + (outs.length - k)) (l := outs.take k ++ [p] ++ outs.drop k) (by rw [strV_app]; exact hown) (by simp; omega) (fun e => by have := (hnil.1 e).1; cases this); have hbW3 := Below.grown hbW2 hgrow hbW2.size (by intro k' e; cases e; exact HR2.out.lt.1); have HR3 := Lib.hid hr3; have cu3 : w3.cell? ⟨B, 0, none⟩ = some SL := (hbW3.cell (p := ⟨B, 0, none⟩) hBV).trans cx; clear hown hgrow hnil hr3)))
                all_goals
                  go_wp2
                  go_roundw
                  case rel =>
                    have hz3 : (outs.take k ++ p :: outs.drop k).length = outs.length + 1 := by simp; omega
                    refine ⟨i + 1, g3, c3, by omega, by go_num, by rw [HG.out, hz3, show k + 1 + (outs.length - k) = outs.length + 1 from by omega], ?_, by have := HR3.out.lt.1; have := HBV.out.size; omega, HBV.out.trans (hbW3.mono HBV.out.size)⟩
                    rw [HG.out]
                    have h3 := HR3.out
                    rw [List.append_assoc] at h3
                    exact own_mono h3 (by have := HBV.out.size; omega)
                  case measure => simp [intOf]; omega
          · have hkl : ((k : Int) == (outs.length : Int)) = true := by simp; omega
            have HG := Lib.hid (HS.out.trans (ins_new hk hdn.out (fun h => absurd h (by omega))))
            by_cases hck : k = c
            · subst hck
              go_wp2_with fail
              obtain ⟨V, hV⟩ : ∃ V : World, V = wr.drewN q := ⟨_, rfl⟩
              rw [← hV]
              have bV : Below wr.heap.size wr V := by rw [hV]; exact below_drewN (Below.refl _ _) _
              have hBV : B < V.heap.size := Nat.lt_of_lt_of_le hBr bV.size
              obtain ⟨SL, hSL⟩ : ∃ SL, SL = Value.slice (some ⟨gl, 0, none⟩) l.length ca := ⟨_, rfl⟩
              have cx : V.cell? ⟨B, 0, none⟩ = some SL := by rw [hSL]; exact (bV.cell (p := ⟨B, 0, none⟩) hBr).trans b0
              have HRV := Lib.hid (RowS.below HR.out bV)
              have HBV := Lib.hid (HB.out.trans (bV.mono HB.out.size))
              have htk : (outs.take k).length = k := by rw [List.length_take]; omega
              have kn : (k : Int) ≤ (outs.length : Int) := by omega
              have hlo : outs.length ≤ 2097152 := by omega
              have E0 := Lib.hid (World.ownsRow_made (base := V.heap.size) (e := 9) (size := 1) V #[] 0 (Nat.le_refl _) (Nat.zero_le _) rfl)
              have E1 := Lib.hid (show ((V.alloc (.cells #[.string p] 9)).alloc (.cells #[] 9)).ownsRow V.heap.size 9 1 (.slice (some ⟨V.heap.size + 1, 0, none⟩) 0 0) 0 [] from by
                have h := World.ownsRow_made (base := V.heap.size) (e := 9) (size := 1) (V.alloc (.cells #[.string p] 9)) #[] 0 (by simp) (Nat.zero_le _) rfl
                rw [show (V.alloc (.cells #[.string p] 9)).heap.size = V.heap.size + 1 by simp] at h
                exact h)
              have S2 := Lib.hid (show ((V.alloc (.cells #[] 9)).alloc (.cells #[.string p] 9)).heap[V.heap.size + 1]? = some (.cells #[.string p] 9) from by
                have h := heap_alloc_new (V.alloc (.cells #[] 9)) (.cells #[.string p] 9)
                rw [show (V.alloc (.cells #[] 9)).heap.size = V.heap.size + 1 by simp] at h
                exact h)
              have S3 := Lib.hid (show ((V.alloc (.cells #[.string p] 9)).alloc (.cells #[] 9)).heap[V.heap.size]? = some (.cells #[.string p] 9) from by
                rw [((Below.refl _ _).alloc (Nat.le_refl _) (.cells #[] 9)).block V.heap.size (by simp)]
                exact heap_alloc_new V _)
              have E1b := Lib.hid ((Below.refl V.heap.size V).alloc (Nat.le_refl _) (.cells #[] 9))
              have E2b := Lib.hid (((Below.refl V.heap.size V).alloc (Nat.le_refl _) (.cells #[] 9)).alloc (by simp) (.cells #[.string p] 9))
              have E3b := Lib.hid (((Below.refl V.heap.size V).alloc (Nat.le_refl _) (.cells #[.string p] 9)).alloc (by simp) (.cells #[] 9))
              have HRT := Lib.hid (show ∀ U, Below V.heap.size V U → ∀ j u, (strV (outs.take k))[j]? = some u → U.cell? ((⟨g, 0, none⟩ : Addr).add j) = some u from fun U hU j u hu => by
                have h := (HRV.out.below hU).news 0
                rw [List.drop_zero] at h
                refine h j u ?_
                have hj := (List.getElem?_eq_some_iff.1 hu).1
                rw [strV_len, htk] at hj
                rw [← hu, strV, strV, List.getElem?_map, List.getElem?_map, List.getElem?_take_of_lt hj])
              clear hV bV
              have hkl' : outs.length ≤ k := by omega
              go_region_held3 (fun w' => w'.cell? ⟨B, 0, none⟩ = some SL)
                (go_keep)
                (first
                  | (refine step_append_own_at _ (by rfl) (.tmp 59) (.tmp 62) 131 (by rfl) V.heap.size 9 i0 (.string ⟨#[]⟩) 1 16 Tryz.underlying131 HI0.out.1 HI0.out.2.1 HI0.out.2.2.1 HI0.out.2.2.2 rfl (by omega) (.slice (some ⟨V.heap.size, 0, none⟩) 0 0) 0 [] (by rfl) ?_ ⟨g, 0, none⟩ k k (strV (outs.take k)) (by rfl) ?_ ?_ (one_strs _) (by unfold maxLen; omega) (by omega) ?_ ?_; (focus (first | exact (E0.out.alloc _) | exact (E0.out.alloc _).drew)); (focus (rw [strV_len, htk, Nat.mul_one])); (focus (exact HRT.out _ (by first | exact E1b.out | exact E1b.out.drew | exact E2b.out | exact E2b.out.drew | exact E3b.out | exact E3b.out.drew))); (focus (simp; try omega)); (intro v' w1 hown hgrow hnil _; have HKS := Lib.hid ((hgrow.block (V.heap.size + 1) (by simp; try omega) (fun e => by have e2 : V.heap.size + 1 = V.heap.size := Option.some.inj e; omega)).trans S2.out); obtain ⟨g1, c1, rfl, hr1⟩ := RowS.of (n := k) (l := outs.take k) (by simpa using hown) htk (fun e => by have := (hnil.1 e).1; cases this); have hbW1 := Below.grown (by first | exact E1b.out | exact E1b.out.drew | exact E2b.out | exact E2b.out.drew | exact E3b.out | exact E3b.out.drew) hgrow (by simp; try omega) (by intro k' e; cases e; first | exact Nat.le_refl _ | exact Nat.le_succ _); have HR1 := Lib.hid hr1; have cu : w1.cell? ⟨B, 0, none⟩ = some SL := (hbW1.cell (p := ⟨B, 0, none⟩) hBV).trans cx; clear hown hgrow hnil hr1))
                  | (refine step_append_own_at _ (by rfl) (.tmp 59) (.tmp 62) 131 (by rfl) V.heap.size 9 i0 (.string ⟨#[]⟩) 1 16 Tryz.underlying131 HI0.out.1 HI0.out.2.1 HI0.out.2.2.1 HI0.out.2.2.2 rfl (by omega) (.slice (some ⟨V.heap.size + 1, 0, none⟩) 0 0) 0 [] (by rfl) ?_ ⟨g, 0, none⟩ k k (strV (outs.take k)) (by rfl) ?_ ?_ (one_strs _) (by unfold maxLen; omega) (by omega) ?_ ?_; (focus (first | exact E1.out | exact E1.out.drew)); (focus (rw [strV_len, htk, Nat.mul_one])); (focus (exact HRT.out _ (by first | exact E1b.out | exact E1b.out.drew | exact E2b.out | exact E2b.out.drew | exact E3b.out | exact E3b.out.drew))); (focus (simp; try omega)); (intro v' w1 hown hgrow hnil _; have HKS := Lib.hid ((hgrow.block V.heap.size (by simp; try omega) (fun e => by have e2 : V.heap.size = V.heap.size + 1 := Option.some.inj e; omega)).trans S3.out); obtain ⟨g1, c1, rfl, hr1⟩ := RowS.of (n := k) (l := outs.take k) (by simpa using hown) htk (fun e => by have := (hnil.1 e).1; cases this); have hbW1 := Below.grown (by first | exact E1b.out | exact E1b.out.drew | exact E2b.out | exact E2b.out.drew | exact E3b.out | exact E3b.out.drew) hgrow (by simp; try omega) (by intro k' e; cases e; first | exact Nat.le_refl _ | exact Nat.le_succ _); have HR1 := Lib.hid hr1; have cu : w1.cell? ⟨B, 0, none⟩ = some SL := (hbW1.cell (p := ⟨B, 0, none⟩) hBV).trans cx; clear hown hgrow hnil hr1))
                  | (refine step_append_own_at _ (by rfl) (.tmp 59) (.tmp 62) 131 (by rfl) V.heap.size 9 i0 (.string ⟨#[]⟩) 1 16 Tryz.underlying131 HI0.out.1 HI0.out.2.1 HI0.out.2.2.1 HI0.out.2.2.2 rfl (by omega) (.slice (some ⟨V.heap.size, 0, none⟩) 0 0) 0 [] (by rfl) ?_ ⟨g, 0, none⟩ k k (strV (outs.take k)) (by rfl) ?_ ?_ (one_strs _) (by unfold maxLen; omega) (by omega) ?_ ?_; (focus (first | exact E0.out | exact E0.out.drew)); (focus (rw [strV_len, htk, Nat.mul_one])); (focus (exact HRT.out _ (by first | exact E1b.out | exact E1b.out.drew | exact E2b.out | exact E2b.out.drew | exact E3b.out | exact E3b.out.drew))); (focus (simp; try omega)); (intro v' w1 hown hgrow hnil _; obtain ⟨g1, c1, rfl, hr1⟩ := RowS.of (n := k) (l := outs.take k) (by simpa using hown) htk (fun e => by have := (hnil.1 e).1; cases this); have hbW1 := Below.grown (by first | exact E1b.out | exact E1b.out.drew | exact E2b.out | exact E2b.out.drew | exact E3b.out | exact E3b.out.drew) hgrow (by simp; try omega) (by intro k' e; cases e; first | exact Nat.le_refl _ | exact Nat.le_succ _); have HR1 := Lib.hid hr1; have cu : w1.cell? ⟨B, 0, none⟩ = some SL := (hbW1.cell (p := ⟨B, 0, none⟩) hBV).trans cx; clear hown hgrow hnil hr1))
                  | (refine step_append_own_at _ (by rfl) (.tmp 63) (.tmp 65) 131 (by rfl) V.heap.size 9 i0 (.string ⟨#[]⟩) 1 16 Tryz.underlying131 HI0.out.1 HI0.out.2.1 HI0.out.2.2.1 HI0.out.2.2.2 rfl (by omega) (.slice (some ⟨g1, 0, none⟩) k c1) k (strV (outs.take k)) (by rfl) ?_ ⟨w1.heap.size, 0, none⟩ 1 1 (strV [p]) (by rfl) (by rfl) ?_ (one_str p) (by unfold maxLen; omega) (by omega) ?_ ?_; (focus (first | exact (HR1.out.own htk).alloc _ | exact ((HR1.out.own htk).alloc _).drew)); (focus (exact World.news_of_block (cs := #[.string p]) (t := 9) (fr := (0, 0)) (heap_alloc_new w1 _))); (focus (have := hbW1.size; simp; try omega)); (intro v' w2 hown hgrow hnil _; obtain ⟨g2, c2, rfl, hr2⟩ := RowS.of (n := k + 1) (l := outs.take k ++ [p]) (by rw [strV_app]; exact hown) (by simp; omega) (fun e => by have := (hnil.1 e).1; cases this); have hbW2 := Below.grown (hbW1.alloc hbW1.size _) hgrow (by have := hbW1.size; simp; try omega) (by intro k' e; cases e; exact HR1.out.lt.1); have HR2 := Lib.hid hr2; have cu2 : w2.cell? ⟨B, 0, none⟩ = some SL := (hbW2.cell (p := ⟨B, 0, none⟩) hBV).trans cx; clear hown hgrow hnil hr2))
                  | (refine step_append_own_at _ (by rfl) (.tmp 63) (.tmp 65) 131 (by rfl) V.heap.size 9 i0 (.string ⟨#[]⟩) 1 16 Tryz.underlying131 HI0.out.1 HI0.out.2.1 HI0.out.2.2.1 HI0.out.2.2.2 rfl (by omega) (.slice (some ⟨g1, 0, none⟩) k c1) k (strV (outs.take k)) (by rfl) ?_ ⟨V.heap.size + 1, 0, none⟩ 1 1 (strV [p]) (by rfl) (by rfl) ?_ (one_str p) (by unfold maxLen; omega) (by omega) ?_ ?_; (focus (first | exact HR1.out.own htk | exact (HR1.out.own htk).drew)); (focus (exact World.news_of_block (cs := #[.string p]) (t := 9) (fr := (0, 0)) HKS.out)); (focus (have := hbW1.size; simp; try omega)); (intro v' w2 hown hgrow hnil _; obtain ⟨g2, c2, rfl, hr2⟩ := RowS.of (n := k + 1) (l := outs.take k ++ [p]) (by rw [strV_app]; exact hown) (by simp; omega) (fun e => by have := (hnil.1 e).1; cases this); have hbW2 := Below.grown (hbW1) hgrow (by have := hbW1.size; simp; try omega) (by intro k' e; cases e; exact HR1.out.lt.1); have HR2 := Lib.hid hr2; have cu2 : w2.cell? ⟨B, 0, none⟩ = some SL := (hbW2.cell (p := ⟨B, 0, none⟩) hBV).trans cx; clear hown hgrow hnil hr2))
                  | (refine step_append_own_at _ (by rfl) (.tmp 63) (.tmp 65) 131 (by rfl) V.heap.size 9 i0 (.string ⟨#[]⟩) 1 16 Tryz.underlying131 HI0.out.1 HI0.out.2.1 HI0.out.2.2.1 HI0.out.2.2.2 rfl (by omega) (.slice (some ⟨g1, 0, none⟩) k c1) k (strV (outs.take k)) (by rfl) ?_ ⟨V.heap.size, 0, none⟩ 1 1 (strV [p]) (by rfl) (by rfl) ?_ (one_str p) (by unfold maxLen; omega) (by omega) ?_ ?_; (focus (first | exact HR1.out.own htk | exact (HR1.out.own htk).drew)); (focus (exact World.news_of_block (cs := #[.string p]) (t := 9) (fr := (0, 0)) HKS.out)); (focus (have := hbW1.size; simp; try omega)); (intro v' w2 hown hgrow hnil _; obtain ⟨g2, c2, rfl, hr2⟩ := RowS.of (n := k + 1) (l := outs.take k ++ [p]) (by rw [strV_app]; exact hown) (by simp; omega) (fun e => by have := (hnil.1 e).1; cases this); have hbW2 := Below.grown (hbW1) hgrow (by have := hbW1.size; simp; try omega) (by intro k' e; cases e; exact HR1.out.lt.1); have HR2 := Lib.hid hr2; have cu2 : w2.cell? ⟨B, 0, none⟩ = some SL := (hbW2.cell (p := ⟨B, 0, none⟩) hBV).trans cx; clear hown hgrow hnil hr2))
                  | (refine step_append_own_at _ (by rfl) (.tmp 66) (.tmp 69) 131 (by rfl) V.heap.size 9 i0 (.string ⟨#[]⟩) 1 16 Tryz.underlying131 HI0.out.1 HI0.out.2.1 HI0.out.2.2.1 HI0.out.2.2.2 rfl (by omega) (.slice (some ⟨g2, 0, none⟩) (k + 1) c2) (k + 1) (strV (outs.take k ++ [p])) (by rfl) ?_ ⟨g, k, none⟩ 0 (k - k) (strV (outs.drop k)) (by rfl) ?_ ?_ (one_strs _) (by unfold maxLen; omega) (by omega) ?_ ?_; (focus (first | exact HR2.out.own (by simp; omega) | exact (HR2.out.own (by simp; omega)).drew)); (focus (rw [strV_len, List.length_drop]; omega)); (focus (exact (HRV.out.below hbW2).news k)); (focus (have := hbW2.size; simp; try omega)); (intro v' w3 hown hgrow hnil _; obtain ⟨g3, c3, rfl, hr3⟩ := RowS.of (n := k + 1 + 0) (l := outs.take k ++ [p] ++ outs.drop k) (by rw [strV_app]; exact hown) (by simp; omega) (fun e => by have := (hnil.1 e).1; cases this); have hbW3 := Below.grown hbW2 hgrow hbW2.size (by intro k' e; cases e; exact HR2.out.lt.1); have HR3 := Lib.hid hr3; have cu3 : w3.cell? ⟨B, 0, none⟩ = some SL := (hbW3.cell (p := ⟨B, 0, none⟩) hBV).trans cx; clear hown hgrow hnil hr3))
                  | (refine step_append_own_at _ (by rfl) (.tmp 66) (.tmp 69) 131 (by rfl) V.heap.size 9 i0 (.string ⟨#[]⟩) 1 16 Tryz.underlying131 HI0.out.1 HI0.out.2.1 HI0.out.2.2.1 HI0.out.2.2.2 rfl (by omega) (.slice (some ⟨g2, 0, none⟩) (k + 1) c2) (k + 1) (strV (outs.take k ++ [p])) (by rfl) ?_ ⟨g, 0, none⟩ 0 (k - k) (strV (outs.drop k)) (by rfl) ?_ ?_ (one_strs _) (by unfold maxLen; omega) (by omega) ?_ ?_; (focus (first | exact HR2.out.own (by simp; omega) | exact (HR2.out.own (by simp; omega)).drew)); (focus (rw [strV_len, List.length_drop]; omega)); (focus (rw [List.drop_eq_nil_of_le hkl']; intro j u hu; simp [strV] at hu)); (focus (have := hbW2.size; simp; try omega)); (intro v' w3 hown hgrow hnil _; obtain ⟨g3, c3, rfl, hr3⟩ := RowS.of (n := k + 1 + 0) (l := outs.take k ++ [p] ++ outs.drop k) (by rw [strV_app]; exact hown) (by simp; omega) (fun e => by have := (hnil.1 e).1; cases this); have hbW3 := Below.grown hbW2 hgrow hbW2.size (by intro k' e; cases e; exact HR2.out.lt.1); have HR3 := Lib.hid hr3; have cu3 : w3.cell? ⟨B, 0, none⟩ = some SL := (hbW3.cell (p := ⟨B, 0, none⟩) hBV).trans cx; clear hown hgrow hnil hr3))
                  | (refine step_append_own_at _ (by rfl) (.tmp 66) (.tmp 69) 131 (by rfl) V.heap.size 9 i0 (.string ⟨#[]⟩) 1 16 Tryz.underlying131 HI0.out.1 HI0.out.2.1 HI0.out.2.2.1 HI0.out.2.2.2 rfl (by omega) (.slice (some ⟨g2, 0, none⟩) (k + 1) c2) (k + 1) (strV (outs.take k ++ [p])) (by rfl) ?_ ⟨g, 0, none⟩ 0 0 (strV (outs.drop k)) (by rfl) ?_ ?_ (one_strs _) (by unfold maxLen; omega) (by omega) ?_ ?_; (focus (first | exact HR2.out.own (by simp; omega) | exact (HR2.out.own (by simp; omega)).drew)); (focus (rw [strV_len, List.length_drop]; omega)); (focus (rw [List.drop_eq_nil_of_le hkl']; intro j u hu; simp [strV] at hu)); (focus (have := hbW2.size; simp; try omega)); (intro v' w3 hown hgrow hnil _; obtain ⟨g3, c3, rfl, hr3⟩ := RowS.of (n := k + 1 + 0) (l := outs.take k ++ [p] ++ outs.drop k) (by rw [strV_app]; exact hown) (by simp; omega) (fun e => by have := (hnil.1 e).1; cases this); have hbW3 := Below.grown hbW2 hgrow hbW2.size (by intro k' e; cases e; exact HR2.out.lt.1); have HR3 := Lib.hid hr3; have cu3 : w3.cell? ⟨B, 0, none⟩ = some SL := (hbW3.cell (p := ⟨B, 0, none⟩) hBV).trans cx; clear hown hgrow hnil hr3)))
              all_goals
                go_wp2
                go_roundw
                case rel =>
                  have hz3 : (outs.take k ++ p :: outs.drop k).length = outs.length + 1 := by simp; omega
                  refine ⟨i + 1, g3, c3, by omega, by go_num, by rw [HG.out, hz3, show k + 1 = outs.length + 1 from by omega], ?_, by have := HR3.out.lt.1; have := HBV.out.size; omega, HBV.out.trans (hbW3.mono HBV.out.size)⟩
                  rw [HG.out]
                  have h3 := HR3.out
                  rw [List.append_assoc] at h3
                  exact own_mono h3 (by have := HBV.out.size; omega)
                case measure => simp [intOf]; omega
            · have hck2 : ¬ c = k := fun e => hck e.symm
              go_wp2_with fail
              obtain ⟨V, hV⟩ : ∃ V : World, V = wr.drewN q := ⟨_, rfl⟩
              rw [← hV]
              have bV : Below wr.heap.size wr V := by rw [hV]; exact below_drewN (Below.refl _ _) _
              have hBV : B < V.heap.size := Nat.lt_of_lt_of_le hBr bV.size
              obtain ⟨SL, hSL⟩ : ∃ SL, SL = Value.slice (some ⟨gl, 0, none⟩) l.length ca := ⟨_, rfl⟩
              have cx : V.cell? ⟨B, 0, none⟩ = some SL := by rw [hSL]; exact (bV.cell (p := ⟨B, 0, none⟩) hBr).trans b0
              have HRV := Lib.hid (RowS.below HR.out bV)
              have HBV := Lib.hid (HB.out.trans (bV.mono HB.out.size))
              have htk : (outs.take k).length = k := by rw [List.length_take]; omega
              have kc : (k : Int) ≤ (c : Int) := by omega
              have kn : (k : Int) ≤ (outs.length : Int) := by omega
              have hlo : outs.length ≤ 2097152 := by omega
              have E0 := Lib.hid (World.ownsRow_made (base := V.heap.size) (e := 9) (size := 1) V #[] 0 (Nat.le_refl _) (Nat.zero_le _) rfl)
              have E1 := Lib.hid (show ((V.alloc (.cells #[.string p] 9)).alloc (.cells #[] 9)).ownsRow V.heap.size 9 1 (.slice (some ⟨V.heap.size + 1, 0, none⟩) 0 0) 0 [] from by
                have h := World.ownsRow_made (base := V.heap.size) (e := 9) (size := 1) (V.alloc (.cells #[.string p] 9)) #[] 0 (by simp) (Nat.zero_le _) rfl
                rw [show (V.alloc (.cells #[.string p] 9)).heap.size = V.heap.size + 1 by simp] at h
                exact h)
              have S2 := Lib.hid (show ((V.alloc (.cells #[] 9)).alloc (.cells #[.string p] 9)).heap[V.heap.size + 1]? = some (.cells #[.string p] 9) from by
                have h := heap_alloc_new (V.alloc (.cells #[] 9)) (.cells #[.string p] 9)
                rw [show (V.alloc (.cells #[] 9)).heap.size = V.heap.size + 1 by simp] at h
                exact h)
              have S3 := Lib.hid (show ((V.alloc (.cells #[.string p] 9)).alloc (.cells #[] 9)).heap[V.heap.size]? = some (.cells #[.string p] 9) from by
                rw [((Below.refl _ _).alloc (Nat.le_refl _) (.cells #[] 9)).block V.heap.size (by simp)]
                exact heap_alloc_new V _)
              have E1b := Lib.hid ((Below.refl V.heap.size V).alloc (Nat.le_refl _) (.cells #[] 9))
              have E2b := Lib.hid (((Below.refl V.heap.size V).alloc (Nat.le_refl _) (.cells #[] 9)).alloc (by simp) (.cells #[.string p] 9))
              have E3b := Lib.hid (((Below.refl V.heap.size V).alloc (Nat.le_refl _) (.cells #[.string p] 9)).alloc (by simp) (.cells #[] 9))
              have HRT := Lib.hid (show ∀ U, Below V.heap.size V U → ∀ j u, (strV (outs.take k))[j]? = some u → U.cell? ((⟨g, 0, none⟩ : Addr).add j) = some u from fun U hU j u hu => by
                have h := (HRV.out.below hU).news 0
                rw [List.drop_zero] at h
                refine h j u ?_
                have hj := (List.getElem?_eq_some_iff.1 hu).1
                rw [strV_len, htk] at hj
                rw [← hu, strV, strV, List.getElem?_map, List.getElem?_map, List.getElem?_take_of_lt hj])
              clear hV bV
              have hkl' : outs.length ≤ k := by omega
              go_region_held3 (fun w' => w'.cell? ⟨B, 0, none⟩ = some SL)
                (go_keep)
                (first
                  | (refine step_append_own_at _ (by rfl) (.tmp 59) (.tmp 62) 131 (by rfl) V.heap.size 9 i0 (.string ⟨#[]⟩) 1 16 Tryz.underlying131 HI0.out.1 HI0.out.2.1 HI0.out.2.2.1 HI0.out.2.2.2 rfl (by omega) (.slice (some ⟨V.heap.size, 0, none⟩) 0 0) 0 [] (by rfl) ?_ ⟨g, 0, none⟩ k c (strV (outs.take k)) (by rfl) ?_ ?_ (one_strs _) (by unfold maxLen; omega) (by omega) ?_ ?_; (focus (first | exact (E0.out.alloc _) | exact (E0.out.alloc _).drew)); (focus (rw [strV_len, htk, Nat.mul_one])); (focus (exact HRT.out _ (by first | exact E1b.out | exact E1b.out.drew | exact E2b.out | exact E2b.out.drew | exact E3b.out | exact E3b.out.drew))); (focus (simp; try omega)); (intro v' w1 hown hgrow hnil _; have HKS := Lib.hid ((hgrow.block (V.heap.size + 1) (by simp; try omega) (fun e => by have e2 : V.heap.size + 1 = V.heap.size := Option.some.inj e; omega)).trans S2.out); obtain ⟨g1, c1, rfl, hr1⟩ := RowS.of (n := k) (l := outs.take k) (by simpa using hown) htk (fun e => by have := (hnil.1 e).1; cases this); have hbW1 := Below.grown (by first | exact E1b.out | exact E1b.out.drew | exact E2b.out | exact E2b.out.drew | exact E3b.out | exact E3b.out.drew) hgrow (by simp; try omega) (by intro k' e; cases e; first | exact Nat.le_refl _ | exact Nat.le_succ _); have HR1 := Lib.hid hr1; have cu : w1.cell? ⟨B, 0, none⟩ = some SL := (hbW1.cell (p := ⟨B, 0, none⟩) hBV).trans cx; clear hown hgrow hnil hr1))
                  | (refine step_append_own_at _ (by rfl) (.tmp 59) (.tmp 62) 131 (by rfl) V.heap.size 9 i0 (.string ⟨#[]⟩) 1 16 Tryz.underlying131 HI0.out.1 HI0.out.2.1 HI0.out.2.2.1 HI0.out.2.2.2 rfl (by omega) (.slice (some ⟨V.heap.size + 1, 0, none⟩) 0 0) 0 [] (by rfl) ?_ ⟨g, 0, none⟩ k c (strV (outs.take k)) (by rfl) ?_ ?_ (one_strs _) (by unfold maxLen; omega) (by omega) ?_ ?_; (focus (first | exact E1.out | exact E1.out.drew)); (focus (rw [strV_len, htk, Nat.mul_one])); (focus (exact HRT.out _ (by first | exact E1b.out | exact E1b.out.drew | exact E2b.out | exact E2b.out.drew | exact E3b.out | exact E3b.out.drew))); (focus (simp; try omega)); (intro v' w1 hown hgrow hnil _; have HKS := Lib.hid ((hgrow.block V.heap.size (by simp; try omega) (fun e => by have e2 : V.heap.size = V.heap.size + 1 := Option.some.inj e; omega)).trans S3.out); obtain ⟨g1, c1, rfl, hr1⟩ := RowS.of (n := k) (l := outs.take k) (by simpa using hown) htk (fun e => by have := (hnil.1 e).1; cases this); have hbW1 := Below.grown (by first | exact E1b.out | exact E1b.out.drew | exact E2b.out | exact E2b.out.drew | exact E3b.out | exact E3b.out.drew) hgrow (by simp; try omega) (by intro k' e; cases e; first | exact Nat.le_refl _ | exact Nat.le_succ _); have HR1 := Lib.hid hr1; have cu : w1.cell? ⟨B, 0, none⟩ = some SL := (hbW1.cell (p := ⟨B, 0, none⟩) hBV).trans cx; clear hown hgrow hnil hr1))
                  | (refine step_append_own_at _ (by rfl) (.tmp 59) (.tmp 62) 131 (by rfl) V.heap.size 9 i0 (.string ⟨#[]⟩) 1 16 Tryz.underlying131 HI0.out.1 HI0.out.2.1 HI0.out.2.2.1 HI0.out.2.2.2 rfl (by omega) (.slice (some ⟨V.heap.size, 0, none⟩) 0 0) 0 [] (by rfl) ?_ ⟨g, 0, none⟩ k c (strV (outs.take k)) (by rfl) ?_ ?_ (one_strs _) (by unfold maxLen; omega) (by omega) ?_ ?_; (focus (first | exact E0.out | exact E0.out.drew)); (focus (rw [strV_len, htk, Nat.mul_one])); (focus (exact HRT.out _ (by first | exact E1b.out | exact E1b.out.drew | exact E2b.out | exact E2b.out.drew | exact E3b.out | exact E3b.out.drew))); (focus (simp; try omega)); (intro v' w1 hown hgrow hnil _; obtain ⟨g1, c1, rfl, hr1⟩ := RowS.of (n := k) (l := outs.take k) (by simpa using hown) htk (fun e => by have := (hnil.1 e).1; cases this); have hbW1 := Below.grown (by first | exact E1b.out | exact E1b.out.drew | exact E2b.out | exact E2b.out.drew | exact E3b.out | exact E3b.out.drew) hgrow (by simp; try omega) (by intro k' e; cases e; first | exact Nat.le_refl _ | exact Nat.le_succ _); have HR1 := Lib.hid hr1; have cu : w1.cell? ⟨B, 0, none⟩ = some SL := (hbW1.cell (p := ⟨B, 0, none⟩) hBV).trans cx; clear hown hgrow hnil hr1))
                  | (refine step_append_own_at _ (by rfl) (.tmp 63) (.tmp 65) 131 (by rfl) V.heap.size 9 i0 (.string ⟨#[]⟩) 1 16 Tryz.underlying131 HI0.out.1 HI0.out.2.1 HI0.out.2.2.1 HI0.out.2.2.2 rfl (by omega) (.slice (some ⟨g1, 0, none⟩) k c1) k (strV (outs.take k)) (by rfl) ?_ ⟨w1.heap.size, 0, none⟩ 1 1 (strV [p]) (by rfl) (by rfl) ?_ (one_str p) (by unfold maxLen; omega) (by omega) ?_ ?_; (focus (first | exact (HR1.out.own htk).alloc _ | exact ((HR1.out.own htk).alloc _).drew)); (focus (exact World.news_of_block (cs := #[.string p]) (t := 9) (fr := (0, 0)) (heap_alloc_new w1 _))); (focus (have := hbW1.size; simp; try omega)); (intro v' w2 hown hgrow hnil _; obtain ⟨g2, c2, rfl, hr2⟩ := RowS.of (n := k + 1) (l := outs.take k ++ [p]) (by rw [strV_app]; exact hown) (by simp; omega) (fun e => by have := (hnil.1 e).1; cases this); have hbW2 := Below.grown (hbW1.alloc hbW1.size _) hgrow (by have := hbW1.size; simp; try omega) (by intro k' e; cases e; exact HR1.out.lt.1); have HR2 := Lib.hid hr2; have cu2 : w2.cell? ⟨B, 0, none⟩ = some SL := (hbW2.cell (p := ⟨B, 0, none⟩) hBV).trans cx; clear hown hgrow hnil hr2))
                  | (refine step_append_own_at _ (by rfl) (.tmp 63) (.tmp 65) 131 (by rfl) V.heap.size 9 i0 (.string ⟨#[]⟩) 1 16 Tryz.underlying131 HI0.out.1 HI0.out.2.1 HI0.out.2.2.1 HI0.out.2.2.2 rfl (by omega) (.slice (some ⟨g1, 0, none⟩) k c1) k (strV (outs.take k)) (by rfl) ?_ ⟨V.heap.size + 1, 0, none⟩ 1 1 (strV [p]) (by rfl) (by rfl) ?_ (one_str p) (by unfold maxLen; omega) (by omega) ?_ ?_; (focus (first | exact HR1.out.own htk | exact (HR1.out.own htk).drew)); (focus (exact World.news_of_block (cs := #[.string p]) (t := 9) (fr := (0, 0)) HKS.out)); (focus (have := hbW1.size; simp; try omega)); (intro v' w2 hown hgrow hnil _; obtain ⟨g2, c2, rfl, hr2⟩ := RowS.of (n := k + 1) (l := outs.take k ++ [p]) (by rw [strV_app]; exact hown) (by simp; omega) (fun e => by have := (hnil.1 e).1; cases this); have hbW2 := Below.grown (hbW1) hgrow (by have := hbW1.size; simp; try omega) (by intro k' e; cases e; exact HR1.out.lt.1); have HR2 := Lib.hid hr2; have cu2 : w2.cell? ⟨B, 0, none⟩ = some SL := (hbW2.cell (p := ⟨B, 0, none⟩) hBV).trans cx; clear hown hgrow hnil hr2))
                  | (refine step_append_own_at _ (by rfl) (.tmp 63) (.tmp 65) 131 (by rfl) V.heap.size 9 i0 (.string ⟨#[]⟩) 1 16 Tryz.underlying131 HI0.out.1 HI0.out.2.1 HI0.out.2.2.1 HI0.out.2.2.2 rfl (by omega) (.slice (some ⟨g1, 0, none⟩) k c1) k (strV (outs.take k)) (by rfl) ?_ ⟨V.heap.size, 0, none⟩ 1 1 (strV [p]) (by rfl) (by rfl) ?_ (one_str p) (by unfold maxLen; omega) (by omega) ?_ ?_; (focus (first | exact HR1.out.own htk | exact (HR1.out.own htk).drew)); (focus (exact World.news_of_block (cs := #[.string p]) (t := 9) (fr := (0, 0)) HKS.out)); (focus (have := hbW1.size; simp; try omega)); (intro v' w2 hown hgrow hnil _; obtain ⟨g2, c2, rfl, hr2⟩ := RowS.of (n := k + 1) (l := outs.take k ++ [p]) (by rw [strV_app]; exact hown) (by simp; omega) (fun e => by have := (hnil.1 e).1; cases this); have hbW2 := Below.grown (hbW1) hgrow (by have := hbW1.size; simp; try omega) (by intro k' e; cases e; exact HR1.out.lt.1); have HR2 := Lib.hid hr2; have cu2 : w2.cell? ⟨B, 0, none⟩ = some SL := (hbW2.cell (p := ⟨B, 0, none⟩) hBV).trans cx; clear hown hgrow hnil hr2))
                  | (refine step_append_own_at _ (by rfl) (.tmp 66) (.tmp 69) 131 (by rfl) V.heap.size 9 i0 (.string ⟨#[]⟩) 1 16 Tryz.underlying131 HI0.out.1 HI0.out.2.1 HI0.out.2.2.1 HI0.out.2.2.2 rfl (by omega) (.slice (some ⟨g2, 0, none⟩) (k + 1) c2) (k + 1) (strV (outs.take k ++ [p])) (by rfl) ?_ ⟨g, k, none⟩ 0 (c - k) (strV (outs.drop k)) (by rfl) ?_ ?_ (one_strs _) (by unfold maxLen; omega) (by omega) ?_ ?_; (focus (first | exact HR2.out.own (by simp; omega) | exact (HR2.out.own (by simp; omega)).drew)); (focus (rw [strV_len, List.length_drop]; omega)); (focus (exact (HRV.out.below hbW2).news k)); (focus (have := hbW2.size; simp; try omega)); (intro v' w3 hown hgrow hnil _; obtain ⟨g3, c3, rfl, hr3⟩ := RowS.of (n := k + 1 + 0) (l := outs.take k ++ [p] ++ outs.drop k) (by rw [strV_app]; exact hown) (by simp; omega) (fun e => by have := (hnil.1 e).1; cases this); have hbW3 := Below.grown hbW2 hgrow hbW2.size (by intro k' e; cases e; exact HR2.out.lt.1); have HR3 := Lib.hid hr3; have cu3 : w3.cell? ⟨B, 0, none⟩ = some SL := (hbW3.cell (p := ⟨B, 0, none⟩) hBV).trans cx; clear hown hgrow hnil hr3))
                  | (refine step_append_own_at _ (by rfl) (.tmp 66) (.tmp 69) 131 (by rfl) V.heap.size 9 i0 (.string ⟨#[]⟩) 1 16 Tryz.underlying131 HI0.out.1 HI0.out.2.1 HI0.out.2.2.1 HI0.out.2.2.2 rfl (by omega) (.slice (some ⟨g2, 0, none⟩) (k + 1) c2) (k + 1) (strV (outs.take k ++ [p])) (by rfl) ?_ ⟨g, 0, none⟩ 0 (c - k) (strV (outs.drop k)) (by rfl) ?_ ?_ (one_strs _) (by unfold maxLen; omega) (by omega) ?_ ?_; (focus (first | exact HR2.out.own (by simp; omega) | exact (HR2.out.own (by simp; omega)).drew)); (focus (rw [strV_len, List.length_drop]; omega)); (focus (rw [List.drop_eq_nil_of_le hkl']; intro j u hu; simp [strV] at hu)); (focus (have := hbW2.size; simp; try omega)); (intro v' w3 hown hgrow hnil _; obtain ⟨g3, c3, rfl, hr3⟩ := RowS.of (n := k + 1 + 0) (l := outs.take k ++ [p] ++ outs.drop k) (by rw [strV_app]; exact hown) (by simp; omega) (fun e => by have := (hnil.1 e).1; cases this); have hbW3 := Below.grown hbW2 hgrow hbW2.size (by intro k' e; cases e; exact HR2.out.lt.1); have HR3 := Lib.hid hr3; have cu3 : w3.cell? ⟨B, 0, none⟩ = some SL := (hbW3.cell (p := ⟨B, 0, none⟩) hBV).trans cx; clear hown hgrow hnil hr3))
                  | (refine step_append_own_at _ (by rfl) (.tmp 66) (.tmp 69) 131 (by rfl) V.heap.size 9 i0 (.string ⟨#[]⟩) 1 16 Tryz.underlying131 HI0.out.1 HI0.out.2.1 HI0.out.2.2.1 HI0.out.2.2.2 rfl (by omega) (.slice (some ⟨g2, 0, none⟩) (k + 1) c2) (k + 1) (strV (outs.take k ++ [p])) (by rfl) ?_ ⟨g, 0, none⟩ 0 0 (strV (outs.drop k)) (by rfl) ?_ ?_ (one_strs _) (by unfold maxLen; omega) (by omega) ?_ ?_; (focus (first | exact HR2.out.own (by simp; omega) | exact (HR2.out.own (by simp; omega)).drew)); (focus (rw [strV_len, List.length_drop]; omega)); (focus (rw [List.drop_eq_nil_of_le hkl']; intro j u hu; simp [strV] at hu)); (focus (have := hbW2.size; simp; try omega)); (intro v' w3 hown hgrow hnil _; obtain ⟨g3, c3, rfl, hr3⟩ := RowS.of (n := k + 1 + 0) (l := outs.take k ++ [p] ++ outs.drop k) (by rw [strV_app]; exact hown) (by simp; omega) (fun e => by have := (hnil.1 e).1; cases this); have hbW3 := Below.grown hbW2 hgrow hbW2.size (by intro k' e; cases e; exact HR2.out.lt.1); have HR3 := Lib.hid hr3; have cu3 : w3.cell? ⟨B, 0, none⟩ = some SL := (hbW3.cell (p := ⟨B, 0, none⟩) hBV).trans cx; clear hown hgrow hnil hr3)))
              all_goals
                go_wp2
                go_roundw
                case rel =>
                  have hz3 : (outs.take k ++ p :: outs.drop k).length = outs.length + 1 := by simp; omega
                  refine ⟨i + 1, g3, c3, by omega, by go_num, by rw [HG.out, hz3, show k + 1 = outs.length + 1 from by omega], ?_, by have := HR3.out.lt.1; have := HBV.out.size; omega, HBV.out.trans (hbW3.mono HBV.out.size)⟩
                  rw [HG.out]
                  have h3 := HR3.out
                  rw [List.append_assoc] at h3
                  exact own_mono h3 (by have := HBV.out.size; omega)
                case measure => simp [intOf]; omega

      · have hm : (i : Int) % 2 = 1 := by omega
        have HP := Lib.hid (HFA.out.2 (by omega))
        generalize y.t = p at *
        have HS := Lib.hid (plK_succ l i p HP.out)
        clear HFA
        have hb' := hb
        have HB := Lib.hid hb; clear hb hb'
        generalize plK l i = outs at *
        have HR := Lib.hid hrow; clear hrow
        obtain ⟨hc1, hc2⟩ := hcap
        go_wp2
        go_loopw [6] (fun kk wq => ∃ (k q : Nat), k ≤ outs.length ∧ kk = .int .i64 k ∧ wq = wr.drewN q ∧ Hid (∀ j (_ : j < k) (hj : j < outs.length), Op.bytesLess outs[j].toList p.toList = true)) (fun kk _ => outs.length - (intOf kk).toNat)
        case atStart => exact ⟨0, 0, by omega, rfl, rfl, Lib.hid (fun j h => by omega)⟩
        case round =>
          obtain ⟨k, q, hk, rfl, rfl, hdn⟩ := hrel
          by_cases hkn : (k : Int) < (outs.length : Int)
          · have hkn' : k < outs.length := by omega
            have hy := HR.out.cell k hkn'
            obtain ⟨y', hye⟩ : ∃ y, y = outs[k] := ⟨_, rfl⟩
            rw [← hye] at hy
            have HY := Lib.hid hye; clear hye
            cases hlb : Op.bytesLess y'.toList p.toList with
            | true =>
              go_wp2
              go_roundw
              case rel =>
                refine ⟨k + 1, q, by omega, by go_num, rfl, Lib.hid (fun j h hj => ?_)⟩
                by_cases e : j = k
                · subst e; rw [← HY.out]; exact hlb
                · exact hdn.out j (by omega) hj
              case measure => simp [intOf]; omega
            | false =>
              have hkl : ((k : Int) == (outs.length : Int)) = false := by simp; omega
              by_cases he : y'.toList = p.toList
              · have hne : (y'.toList == p.toList) = true := by simpa using he
                have HG := Lib.hid (HS.out.trans (ins_old hkn' hdn.out (by rw [← HY.out]; exact hlb) (by rw [← HY.out]; exact he)))
                clear he
                go_wp2
                go_roundw
                case rel => exact ⟨i + 1, g, c, by omega, by go_num, by rw [HG.out], by rw [HG.out]; exact HR.out, hWg, below_drewN HB.out q⟩
                case measure => simp [intOf]; omega
              · have hne : (y'.toList == p.toList) = false := by simpa using he
                have HG := Lib.hid (HS.out.trans (ins_new hk hdn.out (fun h => by rw [← HY.out]; exact ⟨hlb, he⟩)))
                clear he
                go_wp2_with fail
                obtain ⟨V, hV⟩ : ∃ V : World, V = wr.drewN q := ⟨_, rfl⟩
                rw [← hV]
                have bV : Below wr.heap.size wr V := by rw [hV]; exact below_drewN (Below.refl _ _) _
                have hBV : B < V.heap.size := Nat.lt_of_lt_of_le hBr bV.size
                obtain ⟨SL, hSL⟩ : ∃ SL, SL = Value.slice (some ⟨gl, 0, none⟩) l.length ca := ⟨_, rfl⟩
                have cx : V.cell? ⟨B, 0, none⟩ = some SL := by rw [hSL]; exact (bV.cell (p := ⟨B, 0, none⟩) hBr).trans b0
                have HRV := Lib.hid (RowS.below HR.out bV)
                have HBV := Lib.hid (HB.out.trans (bV.mono HB.out.size))
                have htk : (outs.take k).length = k := by rw [List.length_take]; omega
                have kc : (k : Int) ≤ (c : Int) := by omega
                have hck : ¬ c = k := by omega
                have kn : (k : Int) ≤ (outs.length : Int) := by omega
                have hlo : outs.length ≤ 2097152 := by omega
                have E0 := Lib.hid (World.ownsRow_made (base := V.heap.size) (e := 9) (size := 1) V #[] 0 (Nat.le_refl _) (Nat.zero_le _) rfl)
                have E1 := Lib.hid (show ((V.alloc (.cells #[.string p] 9)).alloc (.cells #[] 9)).ownsRow V.heap.size 9 1 (.slice (some ⟨V.heap.size + 1, 0, none⟩) 0 0) 0 [] from by
                  have h := World.ownsRow_made (base := V.heap.size) (e := 9) (size := 1) (V.alloc (.cells #[.string p] 9)) #[] 0 (by simp) (Nat.zero_le _) rfl
                  rw [show (V.alloc (.cells #[.string p] 9)).heap.size = V.heap.size + 1 by simp] at h
                  exact h)
                have S2 := Lib.hid (show ((V.alloc (.cells #[] 9)).alloc (.cells #[.string p] 9)).heap[V.heap.size + 1]? = some (.cells #[.string p] 9) from by
                  have h := heap_alloc_new (V.alloc (.cells #[] 9)) (.cells #[.string p] 9)
                  rw [show (V.alloc (.cells #[] 9)).heap.size = V.heap.size + 1 by simp] at h
                  exact h)
                have S3 := Lib.hid (show ((V.alloc (.cells #[.string p] 9)).alloc (.cells #[] 9)).heap[V.heap.size]? = some (.cells #[.string p] 9) from by
                  rw [((Below.refl _ _).alloc (Nat.le_refl _) (.cells #[] 9)).block V.heap.size (by simp)]
                  exact heap_alloc_new V _)
                have E1b := Lib.hid ((Below.refl V.heap.size V).alloc (Nat.le_refl _) (.cells #[] 9))
                have E2b := Lib.hid (((Below.refl V.heap.size V).alloc (Nat.le_refl _) (.cells #[] 9)).alloc (by simp) (.cells #[.string p] 9))
                have E3b := Lib.hid (((Below.refl V.heap.size V).alloc (Nat.le_refl _) (.cells #[.string p] 9)).alloc (by simp) (.cells #[] 9))
                have HRT := Lib.hid (show ∀ U, Below V.heap.size V U → ∀ j u, (strV (outs.take k))[j]? = some u → U.cell? ((⟨g, 0, none⟩ : Addr).add j) = some u from fun U hU j u hu => by
                  have h := (HRV.out.below hU).news 0
                  rw [List.drop_zero] at h
                  refine h j u ?_
                  have hj := (List.getElem?_eq_some_iff.1 hu).1
                  rw [strV_len, htk] at hj
                  rw [← hu, strV, strV, List.getElem?_map, List.getElem?_map, List.getElem?_take_of_lt hj])
                clear hV bV
                go_region_held3 (fun w' => w'.cell? ⟨B, 0, none⟩ = some SL)
                  (go_keep)
                  (first
                    | (refine step_append_own_at _ (by rfl) (.tmp 59) (.tmp 62) 131 (by rfl) V.heap.size 9 i0 (.string ⟨#[]⟩) 1 16 Tryz.underlying131 HI0.out.1 HI0.out.2.1 HI0.out.2.2.1 HI0.out.2.2.2 rfl (by omega) (.slice (some ⟨V.heap.size, 0, none⟩) 0 0) 0 [] (by rfl) ?_ ⟨g, 0, none⟩ k c (strV (outs.take k)) (by rfl) ?_ ?_ (one_strs _) (by unfold maxLen; omega) (by omega) ?_ ?_; (focus (first | exact (E0.out.alloc _) | exact (E0.out.alloc _).drew)); (focus (rw [strV_len, htk, Nat.mul_one])); (focus (exact HRT.out _ (by first | exact E1b.out | exact E1b.out.drew | exact E2b.out | exact E2b.out.drew | exact E3b.out | exact E3b.out.drew))); (focus (simp; try omega)); (intro v' w1 hown hgrow hnil _; have HKS := Lib.hid ((hgrow.block (V.heap.size + 1) (by simp; try omega) (fun e => by have e2 : V.heap.size + 1 = V.heap.size := Option.some.inj e; omega)).trans S2.out); obtain ⟨g1, c1, rfl, hr1⟩ := RowS.of (n := k) (l := outs.take k) (by simpa using hown) htk (fun e => by have := (hnil.1 e).1; cases this); have hbW1 := Below.grown (by first | exact E1b.out | exact E1b.out.drew | exact E2b.out | exact E2b.out.drew | exact E3b.out | exact E3b.out.drew) hgrow (by simp; try omega) (by intro k' e; cases e; first | exact Nat.le_refl _ | exact Nat.le_succ _); have HR1 := Lib.hid hr1; have cu : w1.cell? ⟨B, 0, none⟩ = some SL := (hbW1.cell (p := ⟨B, 0, none⟩) hBV).trans cx; clear hown hgrow hnil hr1))
                    | (refine step_append_own_at _ (by rfl) (.tmp 59) (.tmp 62) 131 (by rfl) V.heap.size 9 i0 (.string ⟨#[]⟩) 1 16 Tryz.underlying131 HI0.out.1 HI0.out.2.1 HI0.out.2.2.1 HI0.out.2.2.2 rfl (by omega) (.slice (some ⟨V.heap.size + 1, 0, none⟩) 0 0) 0 [] (by rfl) ?_ ⟨g, 0, none⟩ k c (strV (outs.take k)) (by rfl) ?_ ?_ (one_strs _) (by unfold maxLen; omega) (by omega) ?_ ?_; (focus (first | exact E1.out | exact E1.out.drew)); (focus (rw [strV_len, htk, Nat.mul_one])); (focus (exact HRT.out _ (by first | exact E1b.out | exact E1b.out.drew | exact E2b.out | exact E2b.out.drew | exact E3b.out | exact E3b.out.drew))); (focus (simp; try omega)); (intro v' w1 hown hgrow hnil _; have HKS := Lib.hid ((hgrow.block V.heap.size (by simp; try omega) (fun e => by have e2 : V.heap.size = V.heap.size + 1 := Option.some.inj e; omega)).trans S3.out); obtain ⟨g1, c1, rfl, hr1⟩ := RowS.of (n := k) (l := outs.take k) (by simpa using hown) htk (fun e => by have := (hnil.1 e).1; cases this); have hbW1 := Below.grown (by first | exact E1b.out | exact E1b.out.drew | exact E2b.out | exact E2b.out.drew | exact E3b.out | exact E3b.out.drew) hgrow (by simp; try omega) (by intro k' e; cases e; first | exact Nat.le_refl _ | exact Nat.le_succ _); have HR1 := Lib.hid hr1; have cu : w1.cell? ⟨B, 0, none⟩ = some SL := (hbW1.cell (p := ⟨B, 0, none⟩) hBV).trans cx; clear hown hgrow hnil hr1))
                    | (refine step_append_own_at _ (by rfl) (.tmp 59) (.tmp 62) 131 (by rfl) V.heap.size 9 i0 (.string ⟨#[]⟩) 1 16 Tryz.underlying131 HI0.out.1 HI0.out.2.1 HI0.out.2.2.1 HI0.out.2.2.2 rfl (by omega) (.slice (some ⟨V.heap.size, 0, none⟩) 0 0) 0 [] (by rfl) ?_ ⟨g, 0, none⟩ k c (strV (outs.take k)) (by rfl) ?_ ?_ (one_strs _) (by unfold maxLen; omega) (by omega) ?_ ?_; (focus (first | exact E0.out | exact E0.out.drew)); (focus (rw [strV_len, htk, Nat.mul_one])); (focus (exact HRT.out _ (by first | exact E1b.out | exact E1b.out.drew | exact E2b.out | exact E2b.out.drew | exact E3b.out | exact E3b.out.drew))); (focus (simp; try omega)); (intro v' w1 hown hgrow hnil _; obtain ⟨g1, c1, rfl, hr1⟩ := RowS.of (n := k) (l := outs.take k) (by simpa using hown) htk (fun e => by have := (hnil.1 e).1; cases this); have hbW1 := Below.grown (by first | exact E1b.out | exact E1b.out.drew | exact E2b.out | exact E2b.out.drew | exact E3b.out | exact E3b.out.drew) hgrow (by simp; try omega) (by intro k' e; cases e; first | exact Nat.le_refl _ | exact Nat.le_succ _); have HR1 := Lib.hid hr1; have cu : w1.cell? ⟨B, 0, none⟩ = some SL := (hbW1.cell (p := ⟨B, 0, none⟩) hBV).trans cx; clear hown hgrow hnil hr1))
                    | (refine step_append_own_at _ (by rfl) (.tmp 63) (.tmp 65) 131 (by rfl) V.heap.size 9 i0 (.string ⟨#[]⟩) 1 16 Tryz.underlying131 HI0.out.1 HI0.out.2.1 HI0.out.2.2.1 HI0.out.2.2.2 rfl (by omega) (.slice (some ⟨g1, 0, none⟩) k c1) k (strV (outs.take k)) (by rfl) ?_ ⟨w1.heap.size, 0, none⟩ 1 1 (strV [p]) (by rfl) (by rfl) ?_ (one_str p) (by unfold maxLen; omega) (by omega) ?_ ?_; (focus (first | exact (HR1.out.own htk).alloc _ | exact ((HR1.out.own htk).alloc _).drew)); (focus (exact World.news_of_block (cs := #[.string p]) (t := 9) (fr := (0, 0)) (heap_alloc_new w1 _))); (focus (have := hbW1.size; simp; try omega)); (intro v' w2 hown hgrow hnil _; obtain ⟨g2, c2, rfl, hr2⟩ := RowS.of (n := k + 1) (l := outs.take k ++ [p]) (by rw [strV_app]; exact hown) (by simp; omega) (fun e => by have := (hnil.1 e).1; cases this); have hbW2 := Below.grown (hbW1.alloc hbW1.size _) hgrow (by have := hbW1.size; simp; try omega) (by intro k' e; cases e; exact HR1.out.lt.1); have HR2 := Lib.hid hr2; have cu2 : w2.cell? ⟨B, 0, none⟩ = some SL := (hbW2.cell (p := ⟨B, 0, none⟩) hBV).trans cx; clear hown hgrow hnil hr2))
                    | (refine step_append_own_at _ (by rfl) (.tmp 63) (.tmp 65) 131 (by rfl) V.heap.size 9 i0 (.string ⟨#[]⟩) 1 16 Tryz.underlying131 HI0.out.1 HI0.out.2.1 HI0.out.2.2.1 HI0.out.2.2.2 rfl (by omega) (.slice (some ⟨g1, 0, none⟩) k c1) k (strV (outs.take k)) (by rfl) ?_ ⟨V.heap.size + 1, 0, none⟩ 1 1 (strV [p]) (by rfl) (by rfl) ?_ (one_str p) (by unfold maxLen; omega) (by omega) ?_ ?_; (focus (first | exact HR1.out.own htk | exact (HR1.out.own htk).drew)); (focus (exact World.news_of_block (cs := #[.string p]) (t := 9) (fr := (0, 0)) HKS.out)); (focus (have := hbW1.size; simp; try omega)); (intro v' w2 hown hgrow hnil _; obtain ⟨g2, c2, rfl, hr2⟩ := RowS.of (n := k + 1) (l := outs.take k ++ [p]) (by rw [strV_app]; exact hown) (by simp; omega) (fun e => by have := (hnil.1 e).1; cases this); have hbW2 := Below.grown (hbW1) hgrow (by have := hbW1.size; simp; try omega) (by intro k' e; cases e; exact HR1.out.lt.1); have HR2 := Lib.hid hr2; have cu2 : w2.cell? ⟨B, 0, none⟩ = some SL := (hbW2.cell (p := ⟨B, 0, none⟩) hBV).trans cx; clear hown hgrow hnil hr2))
                    | (refine step_append_own_at _ (by rfl) (.tmp 63) (.tmp 65) 131 (by rfl) V.heap.size 9 i0 (.string ⟨#[]⟩) 1 16 Tryz.underlying131 HI0.out.1 HI0.out.2.1 HI0.out.2.2.1 HI0.out.2.2.2 rfl (by omega) (.slice (some ⟨g1, 0, none⟩) k c1) k (strV (outs.take k)) (by rfl) ?_ ⟨V.heap.size, 0, none⟩ 1 1 (strV [p]) (by rfl) (by rfl) ?_ (one_str p) (by unfold maxLen; omega) (by omega) ?_ ?_; (focus (first | exact HR1.out.own htk | exact (HR1.out.own htk).drew)); (focus (exact World.news_of_block (cs := #[.string p]) (t := 9) (fr := (0, 0)) HKS.out)); (focus (have := hbW1.size; simp; try omega)); (intro v' w2 hown hgrow hnil _; obtain ⟨g2, c2, rfl, hr2⟩ := RowS.of (n := k + 1) (l := outs.take k ++ [p]) (by rw [strV_app]; exact hown) (by simp; omega) (fun e => by have := (hnil.1 e).1; cases this); have hbW2 := Below.grown (hbW1) hgrow (by have := hbW1.size; simp; try omega) (by intro k' e; cases e; exact HR1.out.lt.1); have HR2 := Lib.hid hr2; have cu2 : w2.cell? ⟨B, 0, none⟩ = some SL := (hbW2.cell (p := ⟨B, 0, none⟩) hBV).trans cx; clear hown hgrow hnil hr2))
                    | (refine step_append_own_at _ (by rfl) (.tmp 66) (.tmp 69) 131 (by rfl) V.heap.size 9 i0 (.string ⟨#[]⟩) 1 16 Tryz.underlying131 HI0.out.1 HI0.out.2.1 HI0.out.2.2.1 HI0.out.2.2.2 rfl (by omega) (.slice (some ⟨g2, 0, none⟩) (k + 1) c2) (k + 1) (strV (outs.take k ++ [p])) (by rfl) ?_ ⟨g, k, none⟩ (outs.length - k) (c - k) (strV (outs.drop k)) (by rfl) ?_ ?_ (one_strs _) (by unfold maxLen; omega) (by omega) ?_ ?_; (focus (first | exact HR2.out.own (by simp; omega) | exact (HR2.out.own (by simp; omega)).drew)); (focus (rw [strV_len, List.length_drop]; omega)); (focus (exact (HRV.out.below hbW2).news k)); (focus (have := hbW2.size; simp; try omega)); (intro v' w3 hown hgrow hnil _; obtain ⟨g3, c3, rfl, hr3⟩ := RowS.of (n := k + 1 + (outs.length - k)) (l := outs.take k ++ [p] ++ outs.drop k) (by rw [strV_app]; exact hown) (by simp; omega) (fun e => by have := (hnil.1 e).1; cases this); have hbW3 := Below.grown hbW2 hgrow hbW2.size (by intro k' e; cases e; exact HR2.out.lt.1); have HR3 := Lib.hid hr3; have cu3 : w3.cell? ⟨B, 0, none⟩ = some SL := (hbW3.cell (p := ⟨B, 0, none⟩) hBV).trans cx; clear hown hgrow hnil hr3)))
                all_goals
                  go_wp2
                  go_roundw
                  case rel =>
                    have hz3 : (outs.take k ++ p :: outs.drop k).length = outs.length + 1 := by simp; omega
                    refine ⟨i + 1, g3, c3, by omega, by go_num, by rw [HG.out, hz3, show k + 1 + (outs.length - k) = outs.length + 1 from by omega], ?_, by have := HR3.out.lt.1; have := HBV.out.size; omega, HBV.out.trans (hbW3.mono HBV.out.size)⟩
                    rw [HG.out]
                    have h3 := HR3.out
                    rw [List.append_assoc] at h3
                    exact own_mono h3 (by have := HBV.out.size; omega)
                  case measure => simp [intOf]; omega
          · have hkl : ((k : Int) == (outs.length : Int)) = true := by simp; omega
            have HG := Lib.hid (HS.out.trans (ins_new hk hdn.out (fun h => absurd h (by omega))))
            by_cases hck : k = c
            · subst hck
              go_wp2_with fail
              obtain ⟨V, hV⟩ : ∃ V : World, V = wr.drewN q := ⟨_, rfl⟩
              rw [← hV]
              have bV : Below wr.heap.size wr V := by rw [hV]; exact below_drewN (Below.refl _ _) _
              have hBV : B < V.heap.size := Nat.lt_of_lt_of_le hBr bV.size
              obtain ⟨SL, hSL⟩ : ∃ SL, SL = Value.slice (some ⟨gl, 0, none⟩) l.length ca := ⟨_, rfl⟩
              have cx : V.cell? ⟨B, 0, none⟩ = some SL := by rw [hSL]; exact (bV.cell (p := ⟨B, 0, none⟩) hBr).trans b0
              have HRV := Lib.hid (RowS.below HR.out bV)
              have HBV := Lib.hid (HB.out.trans (bV.mono HB.out.size))
              have htk : (outs.take k).length = k := by rw [List.length_take]; omega
              have kn : (k : Int) ≤ (outs.length : Int) := by omega
              have hlo : outs.length ≤ 2097152 := by omega
              have E0 := Lib.hid (World.ownsRow_made (base := V.heap.size) (e := 9) (size := 1) V #[] 0 (Nat.le_refl _) (Nat.zero_le _) rfl)
              have E1 := Lib.hid (show ((V.alloc (.cells #[.string p] 9)).alloc (.cells #[] 9)).ownsRow V.heap.size 9 1 (.slice (some ⟨V.heap.size + 1, 0, none⟩) 0 0) 0 [] from by
                have h := World.ownsRow_made (base := V.heap.size) (e := 9) (size := 1) (V.alloc (.cells #[.string p] 9)) #[] 0 (by simp) (Nat.zero_le _) rfl
                rw [show (V.alloc (.cells #[.string p] 9)).heap.size = V.heap.size + 1 by simp] at h
                exact h)
              have S2 := Lib.hid (show ((V.alloc (.cells #[] 9)).alloc (.cells #[.string p] 9)).heap[V.heap.size + 1]? = some (.cells #[.string p] 9) from by
                have h := heap_alloc_new (V.alloc (.cells #[] 9)) (.cells #[.string p] 9)
                rw [show (V.alloc (.cells #[] 9)).heap.size = V.heap.size + 1 by simp] at h
                exact h)
              have S3 := Lib.hid (show ((V.alloc (.cells #[.string p] 9)).alloc (.cells #[] 9)).heap[V.heap.size]? = some (.cells #[.string p] 9) from by
                rw [((Below.refl _ _).alloc (Nat.le_refl _) (.cells #[] 9)).block V.heap.size (by simp)]
                exact heap_alloc_new V _)
              have E1b := Lib.hid ((Below.refl V.heap.size V).alloc (Nat.le_refl _) (.cells #[] 9))
              have E2b := Lib.hid (((Below.refl V.heap.size V).alloc (Nat.le_refl _) (.cells #[] 9)).alloc (by simp) (.cells #[.string p] 9))
              have E3b := Lib.hid (((Below.refl V.heap.size V).alloc (Nat.le_refl _) (.cells #[.string p] 9)).alloc (by simp) (.cells #[] 9))
              have HRT := Lib.hid (show ∀ U, Below V.heap.size V U → ∀ j u, (strV (outs.take k))[j]? = some u → U.cell? ((⟨g, 0, none⟩ : Addr).add j) = some u from fun U hU j u hu => by
                have h := (HRV.out.below hU).news 0
                rw [List.drop_zero] at h
                refine h j u ?_
                have hj := (List.getElem?_eq_some_iff.1 hu).1
                rw [strV_len, htk] at hj
                rw [← hu, strV, strV, List.getElem?_map, List.getElem?_map, List.getElem?_take_of_lt hj])
              clear hV bV
              have hkl' : outs.length ≤ k := by omega
              go_region_held3 (fun w' => w'.cell? ⟨B, 0, none⟩ = some SL)
                (go_keep)
                (first
                  | (refine step_append_own_at _ (by rfl) (.tmp 59) (.tmp 62) 131 (by rfl) V.heap.size 9 i0 (.string ⟨#[]⟩) 1 16 Tryz.underlying131 HI0.out.1 HI0.out.2.1 HI0.out.2.2.1 HI0.out.2.2.2 rfl (by omega) (.slice (some ⟨V.heap.size, 0, none⟩) 0 0) 0 [] (by rfl) ?_ ⟨g, 0, none⟩ k k (strV (outs.take k)) (by rfl) ?_ ?_ (one_strs _) (by unfold maxLen; omega) (by omega) ?_ ?_; (focus (first | exact (E0.out.alloc _) | exact (E0.out.alloc _).drew)); (focus (rw [strV_len, htk, Nat.mul_one])); (focus (exact HRT.out _ (by first | exact E1b.out | exact E1b.out.drew | exact E2b.out | exact E2b.out.drew | exact E3b.out | exact E3b.out.drew))); (focus (simp; try omega)); (intro v' w1 hown hgrow hnil _; have HKS := Lib.hid ((hgrow.block (V.heap.size + 1) (by simp; try omega) (fun e => by have e2 : V.heap.size + 1 = V.heap.size := Option.some.inj e; omega)).trans S2.out); obtain ⟨g1, c1, rfl, hr1⟩ := RowS.of (n := k) (l := outs.take k) (by simpa using hown) htk (fun e => by have := (hnil.1 e).1; cases this); have hbW1 := Below.grown (by first | exact E1b.out | exact E1b.out.drew | exact E2b.out | exact E2b.out.drew | exact E3b.out | exact E3b.out.drew) hgrow (by simp; try omega) (by intro k' e; cases e; first | exact Nat.le_refl _ | exact Nat.le_succ _); have HR1 := Lib.hid hr1; have cu : w1.cell? ⟨B, 0, none⟩ = some SL := (hbW1.cell (p := ⟨B, 0, none⟩) hBV).trans cx; clear hown hgrow hnil hr1))
                  | (refine step_append_own_at _ (by rfl) (.tmp 59) (.tmp 62) 131 (by rfl) V.heap.size 9 i0 (.string ⟨#[]⟩) 1 16 Tryz.underlying131 HI0.out.1 HI0.out.2.1 HI0.out.2.2.1 HI0.out.2.2.2 rfl (by omega) (.slice (some ⟨V.heap.size + 1, 0, none⟩) 0 0) 0 [] (by rfl) ?_ ⟨g, 0, none⟩ k k (strV (outs.take k)) (by rfl) ?_ ?_ (one_strs _) (by unfold maxLen; omega) (by omega) ?_ ?_; (focus (first | exact E1.out | exact E1.out.drew)); (focus (rw [strV_len, htk, Nat.mul_one])); (focus (exact HRT.out _ (by first | exact E1b.out | exact E1b.out.drew | exact E2b.out | exact E2b.out.drew | exact E3b.out | exact E3b.out.drew))); (focus (simp; try omega)); (intro v' w1 hown hgrow hnil _; have HKS := Lib.hid ((hgrow.block V.heap.size (by simp; try omega) (fun e => by have e2 : V.heap.size = V.heap.size + 1 := Option.some.inj e; omega)).trans S3.out); obtain ⟨g1, c1, rfl, hr1⟩ := RowS.of (n := k) (l := outs.take k) (by simpa using hown) htk (fun e => by have := (hnil.1 e).1; cases this); have hbW1 := Below.grown (by first | exact E1b.out | exact E1b.out.drew | exact E2b.out | exact E2b.out.drew | exact E3b.out | exact E3b.out.drew) hgrow (by simp; try omega) (by intro k' e; cases e; first | exact Nat.le_refl _ | exact Nat.le_succ _); have HR1 := Lib.hid hr1; have cu : w1.cell? ⟨B, 0, none⟩ = some SL := (hbW1.cell (p := ⟨B, 0, none⟩) hBV).trans cx; clear hown hgrow hnil hr1))
                  | (refine step_append_own_at _ (by rfl) (.tmp 59) (.tmp 62) 131 (by rfl) V.heap.size 9 i0 (.string ⟨#[]⟩) 1 16 Tryz.underlying131 HI0.out.1 HI0.out.2.1 HI0.out.2.2.1 HI0.out.2.2.2 rfl (by omega) (.slice (some ⟨V.heap.size, 0, none⟩) 0 0) 0 [] (by rfl) ?_ ⟨g, 0, none⟩ k k (strV (outs.take k)) (by rfl) ?_ ?_ (one_strs _) (by unfold maxLen; omega) (by omega) ?_ ?_; (focus (first | exact E0.out | exact E0.out.drew)); (focus (rw [strV_len, htk, Nat.mul_one])); (focus (exact HRT.out _ (by first | exact E1b.out | exact E1b.out.drew | exact E2b.out | exact E2b.out.drew | exact E3b.out | exact E3b.out.drew))); (focus (simp; try omega)); (intro v' w1 hown hgrow hnil _; obtain ⟨g1, c1, rfl, hr1⟩ := RowS.of (n := k) (l := outs.take k) (by simpa using hown) htk (fun e => by have := (hnil.1 e).1; cases this); have hbW1 := Below.grown (by first | exact E1b.out | exact E1b.out.drew | exact E2b.out | exact E2b.out.drew | exact E3b.out | exact E3b.out.drew) hgrow (by simp; try omega) (by intro k' e; cases e; first | exact Nat.le_refl _ | exact Nat.le_succ _); have HR1 := Lib.hid hr1; have cu : w1.cell? ⟨B, 0, none⟩ = some SL := (hbW1.cell (p := ⟨B, 0, none⟩) hBV).trans cx; clear hown hgrow hnil hr1))
                  | (refine step_append_own_at _ (by rfl) (.tmp 63) (.tmp 65) 131 (by rfl) V.heap.size 9 i0 (.string ⟨#[]⟩) 1 16 Tryz.underlying131 HI0.out.1 HI0.out.2.1 HI0.out.2.2.1 HI0.out.2.2.2 rfl (by omega) (.slice (some ⟨g1, 0, none⟩) k c1) k (strV (outs.take k)) (by rfl) ?_ ⟨w1.heap.size, 0, none⟩ 1 1 (strV [p]) (by rfl) (by rfl) ?_ (one_str p) (by unfold maxLen; omega) (by omega) ?_ ?_; (focus (first | exact (HR1.out.own htk).alloc _ | exact ((HR1.out.own htk).alloc _).drew)); (focus (exact World.news_of_block (cs := #[.string p]) (t := 9) (fr := (0, 0)) (heap_alloc_new w1 _))); (focus (have := hbW1.size; simp; try omega)); (intro v' w2 hown hgrow hnil _; obtain ⟨g2, c2, rfl, hr2⟩ := RowS.of (n := k + 1) (l := outs.take k ++ [p]) (by rw [strV_app]; exact hown) (by simp; omega) (fun e => by have := (hnil.1 e).1; cases this); have hbW2 := Below.grown (hbW1.alloc hbW1.size _) hgrow (by have := hbW1.size; simp; try omega) (by intro k' e; cases e; exact HR1.out.lt.1); have HR2 := Lib.hid hr2; have cu2 : w2.cell? ⟨B, 0, none⟩ = some SL := (hbW2.cell (p := ⟨B, 0, none⟩) hBV).trans cx; clear hown hgrow hnil hr2))
                  | (refine step_append_own_at _ (by rfl) (.tmp 63) (.tmp 65) 131 (by rfl) V.heap.size 9 i0 (.string ⟨#[]⟩) 1 16 Tryz.underlying131 HI0.out.1 HI0.out.2.1 HI0.out.2.2.1 HI0.out.2.2.2 rfl (by omega) (.slice (some ⟨g1, 0, none⟩) k c1) k (strV (outs.take k)) (by rfl) ?_ ⟨V.heap.size + 1, 0, none⟩ 1 1 (strV [p]) (by rfl) (by rfl) ?_ (one_str p) (by unfold maxLen; omega) (by omega) ?_ ?_; (focus (first | exact HR1.out.own htk | exact (HR1.out.own htk).drew)); (focus (exact World.news_of_block (cs := #[.string p]) (t := 9) (fr := (0, 0)) HKS.out)); (focus (have := hbW1.size; simp; try omega)); (intro v' w2 hown hgrow hnil _; obtain ⟨g2, c2, rfl, hr2⟩ := RowS.of (n := k + 1) (l := outs.take k ++ [p]) (by rw [strV_app]; exact hown) (by simp; omega) (fun e => by have := (hnil.1 e).1; cases this); have hbW2 := Below.grown (hbW1) hgrow (by have := hbW1.size; simp; try omega) (by intro k' e; cases e; exact HR1.out.lt.1); have HR2 := Lib.hid hr2; have cu2 : w2.cell? ⟨B, 0, none⟩ = some SL := (hbW2.cell (p := ⟨B, 0, none⟩) hBV).trans cx; clear hown hgrow hnil hr2))
                  | (refine step_append_own_at _ (by rfl) (.tmp 63) (.tmp 65) 131 (by rfl) V.heap.size 9 i0 (.string ⟨#[]⟩) 1 16 Tryz.underlying131 HI0.out.1 HI0.out.2.1 HI0.out.2.2.1 HI0.out.2.2.2 rfl (by omega) (.slice (some ⟨g1, 0, none⟩) k c1) k (strV (outs.take k)) (by rfl) ?_ ⟨V.heap.size, 0, none⟩ 1 1 (strV [p]) (by rfl) (by rfl) ?_ (one_str p) (by unfold maxLen; omega) (by omega) ?_ ?_; (focus (first | exact HR1.out.own htk | exact (HR1.out.own htk).drew)); (focus (exact World.news_of_block (cs := #[.string p]) (t := 9) (fr := (0, 0)) HKS.out)); (focus (have := hbW1.size; simp; try omega)); (intro v' w2 hown hgrow hnil _; obtain ⟨g2, c2, rfl, hr2⟩ := RowS.of (n := k + 1) (l := outs.take k ++ [p]) (by rw [strV_app]; exact hown) (by simp; omega) (fun e => by have := (hnil.1 e).1; cases this); have hbW2 := Below.grown (hbW1) hgrow (by have := hbW1.size; simp; try omega) (by intro k' e; cases e; exact HR1.out.lt.1); have HR2 := Lib.hid hr2; have cu2 : w2.cell? ⟨B, 0, none⟩ = some SL := (hbW2.cell (p := ⟨B, 0, none⟩) hBV).trans cx; clear hown hgrow hnil hr2))
                  | (refine step_append_own_at _ (by rfl) (.tmp 66) (.tmp 69) 131 (by rfl) V.heap.size 9 i0 (.string ⟨#[]⟩) 1 16 Tryz.underlying131 HI0.out.1 HI0.out.2.1 HI0.out.2.2.1 HI0.out.2.2.2 rfl (by omega) (.slice (some ⟨g2, 0, none⟩) (k + 1) c2) (k + 1) (strV (outs.take k ++ [p])) (by rfl) ?_ ⟨g, k, none⟩ 0 (k - k) (strV (outs.drop k)) (by rfl) ?_ ?_ (one_strs _) (by unfold maxLen; omega) (by omega) ?_ ?_; (focus (first | exact HR2.out.own (by simp; omega) | exact (HR2.out.own (by simp; omega)).drew)); (focus (rw [strV_len, List.length_drop]; omega)); (focus (exact (HRV.out.below hbW2).news k)); (focus (have := hbW2.size; simp; try omega)); (intro v' w3 hown hgrow hnil _; obtain ⟨g3, c3, rfl, hr3⟩ := RowS.of (n := k + 1 + 0) (l := outs.take k ++ [p] ++ outs.drop k) (by rw [strV_app]; exact hown) (by simp; omega) (fun e => by have := (hnil.1 e).1; cases this); have hbW3 := Below.grown hbW2 hgrow hbW2.size (by intro k' e; cases e; exact HR2.out.lt.1); have HR3 := Lib.hid hr3; have cu3 : w3.cell? ⟨B, 0, none⟩ = some SL := (hbW3.cell (p := ⟨B, 0, none⟩) hBV).trans cx; clear hown hgrow hnil hr3))
                  | (refine step_append_own_at _ (by rfl) (.tmp 66) (.tmp 69) 131 (by rfl) V.heap.size 9 i0 (.string ⟨#[]⟩) 1 16 Tryz.underlying131 HI0.out.1 HI0.out.2.1 HI0.out.2.2.1 HI0.out.2.2.2 rfl (by omega) (.slice (some ⟨g2, 0, none⟩) (k + 1) c2) (k + 1) (strV (outs.take k ++ [p])) (by rfl) ?_ ⟨g, 0, none⟩ 0 (k - k) (strV (outs.drop k)) (by rfl) ?_ ?_ (one_strs _) (by unfold maxLen; omega) (by omega) ?_ ?_; (focus (first | exact HR2.out.own (by simp; omega) | exact (HR2.out.own (by simp; omega)).drew)); (focus (rw [strV_len, List.length_drop]; omega)); (focus (rw [List.drop_eq_nil_of_le hkl']; intro j u hu; simp [strV] at hu)); (focus (have := hbW2.size; simp; try omega)); (intro v' w3 hown hgrow hnil _; obtain ⟨g3, c3, rfl, hr3⟩ := RowS.of (n := k + 1 + 0) (l := outs.take k ++ [p] ++ outs.drop k) (by rw [strV_app]; exact hown) (by simp; omega) (fun e => by have := (hnil.1 e).1; cases this); have hbW3 := Below.grown hbW2 hgrow hbW2.size (by intro k' e; cases e; exact HR2.out.lt.1); have HR3 := Lib.hid hr3; have cu3 : w3.cell? ⟨B, 0, none⟩ = some SL := (hbW3.cell (p := ⟨B, 0, none⟩) hBV).trans cx; clear hown hgrow hnil hr3))
                  | (refine step_append_own_at _ (by rfl) (.tmp 66) (.tmp 69) 131 (by rfl) V.heap.size 9 i0 (.string ⟨#[]⟩) 1 16 Tryz.underlying131 HI0.out.1 HI0.out.2.1 HI0.out.2.2.1 HI0.out.2.2.2 rfl (by omega) (.slice (some ⟨g2, 0, none⟩) (k + 1) c2) (k + 1) (strV (outs.take k ++ [p])) (by rfl) ?_ ⟨g, 0, none⟩ 0 0 (strV (outs.drop k)) (by rfl) ?_ ?_ (one_strs _) (by unfold maxLen; omega) (by omega) ?_ ?_; (focus (first | exact HR2.out.own (by simp; omega) | exact (HR2.out.own (by simp; omega)).drew)); (focus (rw [strV_len, List.length_drop]; omega)); (focus (rw [List.drop_eq_nil_of_le hkl']; intro j u hu; simp [strV] at hu)); (focus (have := hbW2.size; simp; try omega)); (intro v' w3 hown hgrow hnil _; obtain ⟨g3, c3, rfl, hr3⟩ := RowS.of (n := k + 1 + 0) (l := outs.take k ++ [p] ++ outs.drop k) (by rw [strV_app]; exact hown) (by simp; omega) (fun e => by have := (hnil.1 e).1; cases this); have hbW3 := Below.grown hbW2 hgrow hbW2.size (by intro k' e; cases e; exact HR2.out.lt.1); have HR3 := Lib.hid hr3; have cu3 : w3.cell? ⟨B, 0, none⟩ = some SL := (hbW3.cell (p := ⟨B, 0, none⟩) hBV).trans cx; clear hown hgrow hnil hr3)))
              all_goals
                go_wp2
                go_roundw
                case rel =>
                  have hz3 : (outs.take k ++ p :: outs.drop k).length = outs.length + 1 := by simp; omega
                  refine ⟨i + 1, g3, c3, by omega, by go_num, by rw [HG.out, hz3, show k + 1 = outs.length + 1 from by omega], ?_, by have := HR3.out.lt.1; have := HBV.out.size; omega, HBV.out.trans (hbW3.mono HBV.out.size)⟩
                  rw [HG.out]
                  have h3 := HR3.out
                  rw [List.append_assoc] at h3
                  exact own_mono h3 (by have := HBV.out.size; omega)
                case measure => simp [intOf]; omega
            · have hck2 : ¬ c = k := fun e => hck e.symm
              go_wp2_with fail
              obtain ⟨V, hV⟩ : ∃ V : World, V = wr.drewN q := ⟨_, rfl⟩
              rw [← hV]
              have bV : Below wr.heap.size wr V := by rw [hV]; exact below_drewN (Below.refl _ _) _
              have hBV : B < V.heap.size := Nat.lt_of_lt_of_le hBr bV.size
              obtain ⟨SL, hSL⟩ : ∃ SL, SL = Value.slice (some ⟨gl, 0, none⟩) l.length ca := ⟨_, rfl⟩
              have cx : V.cell? ⟨B, 0, none⟩ = some SL := by rw [hSL]; exact (bV.cell (p := ⟨B, 0, none⟩) hBr).trans b0
              have HRV := Lib.hid (RowS.below HR.out bV)
              have HBV := Lib.hid (HB.out.trans (bV.mono HB.out.size))
              have htk : (outs.take k).length = k := by rw [List.length_take]; omega
              have kc : (k : Int) ≤ (c : Int) := by omega
              have kn : (k : Int) ≤ (outs.length : Int) := by omega
              have hlo : outs.length ≤ 2097152 := by omega
              have E0 := Lib.hid (World.ownsRow_made (base := V.heap.size) (e := 9) (size := 1) V #[] 0 (Nat.le_refl _) (Nat.zero_le _) rfl)
              have E1 := Lib.hid (show ((V.alloc (.cells #[.string p] 9)).alloc (.cells #[] 9)).ownsRow V.heap.size 9 1 (.slice (some ⟨V.heap.size + 1, 0, none⟩) 0 0) 0 [] from by
                have h := World.ownsRow_made (base := V.heap.size) (e := 9) (size := 1) (V.alloc (.cells #[.string p] 9)) #[] 0 (by simp) (Nat.zero_le _) rfl
                rw [show (V.alloc (.cells #[.string p] 9)).heap.size = V.heap.size + 1 by simp] at h
                exact h)
              have S2 := Lib.hid (show ((V.alloc (.cells #[] 9)).alloc (.cells #[.string p] 9)).heap[V.heap.size + 1]? = some (.cells #[.string p] 9) from by
                have h := heap_alloc_new (V.alloc (.cells #[] 9)) (.cells #[.string p] 9)
                rw [show (V.alloc (.cells #[] 9)).heap.size = V.heap.size + 1 by simp] at h
                exact h)
              have S3 := Lib.hid (show ((V.alloc (.cells #[.string p] 9)).alloc (.cells #[] 9)).heap[V.heap.size]? = some (.cells #[.string p] 9) from by
                rw [((Below.refl _ _).alloc (Nat.le_refl _) (.cells #[] 9)).block V.heap.size (by simp)]
                exact heap_alloc_new V _)
              have E1b := Lib.hid ((Below.refl V.heap.size V).alloc (Nat.le_refl _) (.cells #[] 9))
              have E2b := Lib.hid (((Below.refl V.heap.size V).alloc (Nat.le_refl _) (.cells #[] 9)).alloc (by simp) (.cells #[.string p] 9))
              have E3b := Lib.hid (((Below.refl V.heap.size V).alloc (Nat.le_refl _) (.cells #[.string p] 9)).alloc (by simp) (.cells #[] 9))
              have HRT := Lib.hid (show ∀ U, Below V.heap.size V U → ∀ j u, (strV (outs.take k))[j]? = some u → U.cell? ((⟨g, 0, none⟩ : Addr).add j) = some u from fun U hU j u hu => by
                have h := (HRV.out.below hU).news 0
                rw [List.drop_zero] at h
                refine h j u ?_
                have hj := (List.getElem?_eq_some_iff.1 hu).1
                rw [strV_len, htk] at hj
                rw [← hu, strV, strV, List.getElem?_map, List.getElem?_map, List.getElem?_take_of_lt hj])
              clear hV bV
              have hkl' : outs.length ≤ k := by omega
              go_region_held3 (fun w' => w'.cell? ⟨B, 0, none⟩ = some SL)
                (go_keep)
                (first
                  | (refine step_append_own_at _ (by rfl) (.tmp 59) (.tmp 62) 131 (by rfl) V.heap.size 9 i0 (.string ⟨#[]⟩) 1 16 Tryz.underlying131 HI0.out.1 HI0.out.2.1 HI0.out.2.2.1 HI0.out.2.2.2 rfl (by omega) (.slice (some ⟨V.heap.size, 0, none⟩) 0 0) 0 [] (by rfl) ?_ ⟨g, 0, none⟩ k c (strV (outs.take k)) (by rfl) ?_ ?_ (one_strs _) (by unfold maxLen; omega) (by omega) ?_ ?_; (focus (first | exact (E0.out.alloc _) | exact (E0.out.alloc _).drew)); (focus (rw [strV_len, htk, Nat.mul_one])); (focus (exact HRT.out _ (by first | exact E1b.out | exact E1b.out.drew | exact E2b.out | exact E2b.out.drew | exact E3b.out | exact E3b.out.drew))); (focus (simp; try omega)); (intro v' w1 hown hgrow hnil _; have HKS := Lib.hid ((hgrow.block (V.heap.size + 1) (by simp; try omega) (fun e => by have e2 : V.heap.size + 1 = V.heap.size := Option.some.inj e; omega)).trans S2.out); obtain ⟨g1, c1, rfl, hr1⟩ := RowS.of (n := k) (l := outs.take k) (by simpa using hown) htk (fun e => by have := (hnil.1 e).1; cases this); have hbW1 := Below.grown (by first | exact E1b.out | exact E1b.out.drew | exact E2b.out | exact E2b.out.drew | exact E3b.out | exact E3b.out.drew) hgrow (by simp; try omega) (by intro k' e; cases e; first | exact Nat.le_refl _ | exact Nat.le_succ _); have HR1 := Lib.hid hr1; have cu : w1.cell? ⟨B, 0, none⟩ = some SL := (hbW1.cell (p := ⟨B, 0, none⟩) hBV).trans cx; clear hown hgrow hnil hr1))
                  | (refine step_append_own_at _ (by rfl) (.tmp 59) (.tmp 62) 131 (by rfl) V.heap.size 9 i0 (.string ⟨#[]⟩) 1 16 Tryz.underlying131 HI0.out.1 HI0.out.2.1 HI0.out.2.2.1 HI0.out.2.2.2 rfl (by omega) (.slice (some ⟨V.heap.size + 1, 0, none⟩) 0 0) 0 [] (by rfl) ?_ ⟨g, 0, none⟩ k c (strV (outs.take k)) (by rfl) ?_ ?_ (one_strs _) (by unfold maxLen; omega) (by omega) ?_ ?_; (focus (first | exact E1.out | exact E1.out.drew)); (focus (rw [strV_len, htk, Nat.mul_one])); (focus (exact HRT.out _ (by first | exact E1b.out | exact E1b.out.drew | exact E2b.out | exact E2b.out.drew | exact E3b.out | exact E3b.out.drew))); (focus (simp; try omega)); (intro v' w1 hown hgrow hnil _; have HKS := Lib.hid ((hgrow.block V.heap.size (by simp; try omega) (fun e => by have e2 : V.heap.size = V.heap.size + 1 := Option.some.inj e; omega)).trans S3.out); obtain ⟨g1, c1, rfl, hr1⟩ := RowS.of (n := k) (l := outs.take k) (by simpa using hown) htk (fun e => by have := (hnil.1 e).1; cases this); have hbW1 := Below.grown (by first | exact E1b.out | exact E1b.out.drew | exact E2b.out | exact E2b.out.drew | exact E3b.out | exact E3b.out.drew) hgrow (by simp; try omega) (by intro k' e; cases e; first | exact Nat.le_refl _ | exact Nat.le_succ _); have HR1 := Lib.hid hr1; have cu : w1.cell? ⟨B, 0, none⟩ = some SL := (hbW1.cell (p := ⟨B, 0, none⟩) hBV).trans cx; clear hown hgrow hnil hr1))
                  | (refine step_append_own_at _ (by rfl) (.tmp 59) (.tmp 62) 131 (by rfl) V.heap.size 9 i0 (.string ⟨#[]⟩) 1 16 Tryz.underlying131 HI0.out.1 HI0.out.2.1 HI0.out.2.2.1 HI0.out.2.2.2 rfl (by omega) (.slice (some ⟨V.heap.size, 0, none⟩) 0 0) 0 [] (by rfl) ?_ ⟨g, 0, none⟩ k c (strV (outs.take k)) (by rfl) ?_ ?_ (one_strs _) (by unfold maxLen; omega) (by omega) ?_ ?_; (focus (first | exact E0.out | exact E0.out.drew)); (focus (rw [strV_len, htk, Nat.mul_one])); (focus (exact HRT.out _ (by first | exact E1b.out | exact E1b.out.drew | exact E2b.out | exact E2b.out.drew | exact E3b.out | exact E3b.out.drew))); (focus (simp; try omega)); (intro v' w1 hown hgrow hnil _; obtain ⟨g1, c1, rfl, hr1⟩ := RowS.of (n := k) (l := outs.take k) (by simpa using hown) htk (fun e => by have := (hnil.1 e).1; cases this); have hbW1 := Below.grown (by first | exact E1b.out | exact E1b.out.drew | exact E2b.out | exact E2b.out.drew | exact E3b.out | exact E3b.out.drew) hgrow (by simp; try omega) (by intro k' e; cases e; first | exact Nat.le_refl _ | exact Nat.le_succ _); have HR1 := Lib.hid hr1; have cu : w1.cell? ⟨B, 0, none⟩ = some SL := (hbW1.cell (p := ⟨B, 0, none⟩) hBV).trans cx; clear hown hgrow hnil hr1))
                  | (refine step_append_own_at _ (by rfl) (.tmp 63) (.tmp 65) 131 (by rfl) V.heap.size 9 i0 (.string ⟨#[]⟩) 1 16 Tryz.underlying131 HI0.out.1 HI0.out.2.1 HI0.out.2.2.1 HI0.out.2.2.2 rfl (by omega) (.slice (some ⟨g1, 0, none⟩) k c1) k (strV (outs.take k)) (by rfl) ?_ ⟨w1.heap.size, 0, none⟩ 1 1 (strV [p]) (by rfl) (by rfl) ?_ (one_str p) (by unfold maxLen; omega) (by omega) ?_ ?_; (focus (first | exact (HR1.out.own htk).alloc _ | exact ((HR1.out.own htk).alloc _).drew)); (focus (exact World.news_of_block (cs := #[.string p]) (t := 9) (fr := (0, 0)) (heap_alloc_new w1 _))); (focus (have := hbW1.size; simp; try omega)); (intro v' w2 hown hgrow hnil _; obtain ⟨g2, c2, rfl, hr2⟩ := RowS.of (n := k + 1) (l := outs.take k ++ [p]) (by rw [strV_app]; exact hown) (by simp; omega) (fun e => by have := (hnil.1 e).1; cases this); have hbW2 := Below.grown (hbW1.alloc hbW1.size _) hgrow (by have := hbW1.size; simp; try omega) (by intro k' e; cases e; exact HR1.out.lt.1); have HR2 := Lib.hid hr2; have cu2 : w2.cell? ⟨B, 0, none⟩ = some SL := (hbW2.cell (p := ⟨B, 0, none⟩) hBV).trans cx; clear hown hgrow hnil hr2))
                  | (refine step_append_own_at _ (by rfl) (.tmp 63) (.tmp 65) 131 (by rfl) V.heap.size 9 i0 (.string ⟨#[]⟩) 1 16 Tryz.underlying131 HI0.out.1 HI0.out.2.1 HI0.out.2.2.1 HI0.out.2.2.2 rfl (by omega) (.slice (some ⟨g1, 0, none⟩) k c1) k (strV (outs.take k)) (by rfl) ?_ ⟨V.heap.size + 1, 0, none⟩ 1 1 (strV [p]) (by rfl) (by rfl) ?_ (one_str p) (by unfold maxLen; omega) (by omega) ?_ ?_; (focus (first | exact HR1.out.own htk | exact (HR1.out.own htk).drew)); (focus (exact World.news_of_block (cs := #[.string p]) (t := 9) (fr := (0, 0)) HKS.out)); (focus (have := hbW1.size; simp; try omega)); (intro v' w2 hown hgrow hnil _; obtain ⟨g2, c2, rfl, hr2⟩ := RowS.of (n := k + 1) (l := outs.take k ++ [p]) (by rw [strV_app]; exact hown) (by simp; omega) (fun e => by have := (hnil.1 e).1; cases this); have hbW2 := Below.grown (hbW1) hgrow (by have := hbW1.size; simp; try omega) (by intro k' e; cases e; exact HR1.out.lt.1); have HR2 := Lib.hid hr2; have cu2 : w2.cell? ⟨B, 0, none⟩ = some SL := (hbW2.cell (p := ⟨B, 0, none⟩) hBV).trans cx; clear hown hgrow hnil hr2))
                  | (refine step_append_own_at _ (by rfl) (.tmp 63) (.tmp 65) 131 (by rfl) V.heap.size 9 i0 (.string ⟨#[]⟩) 1 16 Tryz.underlying131 HI0.out.1 HI0.out.2.1 HI0.out.2.2.1 HI0.out.2.2.2 rfl (by omega) (.slice (some ⟨g1, 0, none⟩) k c1) k (strV (outs.take k)) (by rfl) ?_ ⟨V.heap.size, 0, none⟩ 1 1 (strV [p]) (by rfl) (by rfl) ?_ (one_str p) (by unfold maxLen; omega) (by omega) ?_ ?_; (focus (first | exact HR1.out.own htk | exact (HR1.out.own htk).drew)); (focus (exact World.news_of_block (cs := #[.string p]) (t := 9) (fr := (0, 0)) HKS.out)); (focus (have := hbW1.size; simp; try omega)); (intro v' w2 hown hgrow hnil _; obtain ⟨g2, c2, rfl, hr2⟩ := RowS.of (n := k + 1) (l := outs.take k ++ [p]) (by rw [strV_app]; exact hown) (by simp; omega) (fun e => by have := (hnil.1 e).1; cases this); have hbW2 := Below.grown (hbW1) hgrow (by have := hbW1.size; simp; try omega) (by intro k' e; cases e; exact HR1.out.lt.1); have HR2 := Lib.hid hr2; have cu2 : w2.cell? ⟨B, 0, none⟩ = some SL := (hbW2.cell (p := ⟨B, 0, none⟩) hBV).trans cx; clear hown hgrow hnil hr2))
                  | (refine step_append_own_at _ (by rfl) (.tmp 66) (.tmp 69) 131 (by rfl) V.heap.size 9 i0 (.string ⟨#[]⟩) 1 16 Tryz.underlying131 HI0.out.1 HI0.out.2.1 HI0.out.2.2.1 HI0.out.2.2.2 rfl (by omega) (.slice (some ⟨g2, 0, none⟩) (k + 1) c2) (k + 1) (strV (outs.take k ++ [p])) (by rfl) ?_ ⟨g, k, none⟩ 0 (c - k) (strV (outs.drop k)) (by rfl) ?_ ?_ (one_strs _) (by unfold maxLen; omega) (by omega) ?_ ?_; (focus (first | exact HR2.out.own (by simp; omega) | exact (HR2.out.own (by simp; omega)).drew)); (focus (rw [strV_len, List.length_drop]; omega)); (focus (exact (HRV.out.below hbW2).news k)); (focus (have := hbW2.size; simp; try omega)); (intro v' w3 hown hgrow hnil _; obtain ⟨g3, c3, rfl, hr3⟩ := RowS.of (n := k + 1 + 0) (l := outs.take k ++ [p] ++ outs.drop k) (by rw [strV_app]; exact hown) (by simp; omega) (fun e => by have := (hnil.1 e).1; cases this); have hbW3 := Below.grown hbW2 hgrow hbW2.size (by intro k' e; cases e; exact HR2.out.lt.1); have HR3 := Lib.hid hr3; have cu3 : w3.cell? ⟨B, 0, none⟩ = some SL := (hbW3.cell (p := ⟨B, 0, none⟩) hBV).trans cx; clear hown hgrow hnil hr3))
                  | (refine step_append_own_at _ (by rfl) (.tmp 66) (.tmp 69) 131 (by rfl) V.heap.size 9 i0 (.string ⟨#[]⟩) 1 16 Tryz.underlying131 HI0.out.1 HI0.out.2.1 HI0.out.2.2.1 HI0.out.2.2.2 rfl (by omega) (.slice (some ⟨g2, 0, none⟩) (k + 1) c2) (k + 1) (strV (outs.take k ++ [p])) (by rfl) ?_ ⟨g, 0, none⟩ 0 (c - k) (strV (outs.drop k)) (by rfl) ?_ ?_ (one_strs _) (by unfold maxLen; omega) (by omega) ?_ ?_; (focus (first | exact HR2.out.own (by simp; omega) | exact (HR2.out.own (by simp; omega)).drew)); (focus (rw [strV_len, List.length_drop]; omega)); (focus (rw [List.drop_eq_nil_of_le hkl']; intro j u hu; simp [strV] at hu)); (focus (have := hbW2.size; simp; try omega)); (intro v' w3 hown hgrow hnil _; obtain ⟨g3, c3, rfl, hr3⟩ := RowS.of (n := k + 1 + 0) (l := outs.take k ++ [p] ++ outs.drop k) (by rw [strV_app]; exact hown) (by simp; omega) (fun e => by have := (hnil.1 e).1; cases this); have hbW3 := Below.grown hbW2 hgrow hbW2.size (by intro k' e; cases e; exact HR2.out.lt.1); have HR3 := Lib.hid hr3; have cu3 : w3.cell? ⟨B, 0, none⟩ = some SL := (hbW3.cell (p := ⟨B, 0, none⟩) hBV).trans cx; clear hown hgrow hnil hr3))
                  | (refine step_append_own_at _ (by rfl) (.tmp 66) (.tmp 69) 131 (by rfl) V.heap.size 9 i0 (.string ⟨#[]⟩) 1 16 Tryz.underlying131 HI0.out.1 HI0.out.2.1 HI0.out.2.2.1 HI0.out.2.2.2 rfl (by omega) (.slice (some ⟨g2, 0, none⟩) (k + 1) c2) (k + 1) (strV (outs.take k ++ [p])) (by rfl) ?_ ⟨g, 0, none⟩ 0 0 (strV (outs.drop k)) (by rfl) ?_ ?_ (one_strs _) (by unfold maxLen; omega) (by omega) ?_ ?_; (focus (first | exact HR2.out.own (by simp; omega) | exact (HR2.out.own (by simp; omega)).drew)); (focus (rw [strV_len, List.length_drop]; omega)); (focus (rw [List.drop_eq_nil_of_le hkl']; intro j u hu; simp [strV] at hu)); (focus (have := hbW2.size; simp; try omega)); (intro v' w3 hown hgrow hnil _; obtain ⟨g3, c3, rfl, hr3⟩ := RowS.of (n := k + 1 + 0) (l := outs.take k ++ [p] ++ outs.drop k) (by rw [strV_app]; exact hown) (by simp; omega) (fun e => by have := (hnil.1 e).1; cases this); have hbW3 := Below.grown hbW2 hgrow hbW2.size (by intro k' e; cases e; exact HR2.out.lt.1); have HR3 := Lib.hid hr3; have cu3 : w3.cell? ⟨B, 0, none⟩ = some SL := (hbW3.cell (p := ⟨B, 0, none⟩) hBV).trans cx; clear hown hgrow hnil hr3)))
              all_goals
                go_wp2
                go_roundw
                case rel =>
                  have hz3 : (outs.take k ++ p :: outs.drop k).length = outs.length + 1 := by simp; omega
                  refine ⟨i + 1, g3, c3, by omega, by go_num, by rw [HG.out, hz3, show k + 1 = outs.length + 1 from by omega], ?_, by have := HR3.out.lt.1; have := HBV.out.size; omega, HBV.out.trans (hbW3.mono HBV.out.size)⟩
                  rw [HG.out]
                  have h3 := HR3.out
                  rw [List.append_assoc] at h3
                  exact own_mono h3 (by have := HBV.out.size; omega)
                case measure => simp [intOf]; omega


    · have HE2 := Lib.hid (plK_all l i (by omega))
      have HR := Lib.hid hrow; clear hrow
      go_wp2
      go_ret
      exact ⟨⟨_, rfl, by rw [HBE.out, ← HE2.out]; exact HR.out⟩, by rw [HBE.out]; exact H0.out.2.1.trans (hb.mono (by omega))⟩
end Go.Proofs.YtadcmngooobeiabGreat

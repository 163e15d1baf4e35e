/- heaviestFirst: the weights in a map, the clone sorted by them. -/
import Derived.Test.YtodphbnbljpegabHvC
import Derived.Sort.OwnSortedInts
import Derived.Deep.RegionHeld3
namespace Go.Proofs.Ytodphbnbljpegab
open Go.RowKit Go.Shelf Go.Lib Go.Sort Go.Maps
abbrev Bz (x : Int) : Prop := -9223372036854775808 ≤ x ∧ x ≤ 9223372036854775807
abbrev Iz := {x : Int // Bz x}
instance : Inhabited Iz := ⟨⟨0, by omega, by omega⟩⟩
def encZ (x : Iz) : Value := .int .i64 x.1
theorem putCells_val (d : Array Iz) (c : Array Value) : putCells encZ 0 d c = putCells (Value.int .i64) 0 (d.map (·.1)) c := by
  unfold putCells
  apply Array.ext_getElem?
  intro i
  simp only [Array.getElem?_mapIdx, Array.size_map]
  cases hc : c[i]? with
  | none => rfl
  | some v =>
    simp only [Option.map_some, Option.some.injEq]
    by_cases h : 0 ≤ i ∧ i < 0 + d.size
    · rw [if_pos h, if_pos h]
      have h2 : i - 0 < d.size := by omega
      rw [getElem!_pos d _ h2, getElem!_pos (d.map (·.1)) _ (by simpa using h2)]
      simp [encZ]
    · rw [if_neg h, if_neg h]
theorem putRow_val (w : World) (g : Nat) (d : Array Iz) : putRow encZ w g 0 d = putRow (Value.int .i64) w g 0 (d.map (·.1)) := by
  unfold putRow
  congr 1
  funext c
  exact putCells_val d c
/-- the weights of the first k things -/
def wtZ (l : List Th) : Nat → Tz
  | 0 => fun _ => none
  | k + 1 => match l[k]? with
    | none => wtZ l k
    | some t => putZ (wtZ l k) t.d (gr l 4 t)
theorem wtZ_next {l : List Th} {k : Nat} (h : k < l.length) : wtZ l (k + 1) = putZ (wtZ l k) l[k].d (gr l 4 l[k]) := by
  show (match l[k]? with | none => wtZ l k | some t => putZ (wtZ l k) t.d (gr l 4 t)) = _
  rw [List.getElem?_eq_getElem h]
theorem wtZ_at {l : List Th} (hl : Lis l) : ∀ k, k ≤ l.length → (∀ j (hj : j < l.length), j < k → wtZ l k l[j].d = some (gr l 4 l[j])) ∧ ∀ id, (∀ j (_ : j < l.length), j < k → l[j].d ≠ id) → wtZ l k id = none
  | 0, _ => ⟨fun j _ h => absurd h (Nat.not_lt_zero _), fun _ _ => rfl⟩
  | k + 1, hk => by
    have hkl : k < l.length := by omega
    obtain ⟨h1, h2⟩ := wtZ_at hl k (by omega)
    rw [wtZ_next hkl]
    refine ⟨fun j hj hjk => ?_, fun id hid => ?_⟩
    · by_cases e : l[j].d = l[k].d
      · have : l[j] = l[k] := hl.inj (List.getElem_mem hj) (List.getElem_mem hkl) e
        rw [this, putZ_same]
      · rw [putZ_other _ _ _ _ e]
        exact h1 j hj (by
          rcases Nat.lt_or_ge j k with h | h
          · exact h
          · exfalso; apply e; have : j = k := by omega
            subst this; rfl)
    · rw [putZ_other _ _ _ _ (fun e => hid k hkl (by omega) e.symm)]
      exact h2 id (fun j hj hjk => hid j hj (by omega))
theorem wtZ_grs {l : List Th} (ht : thsB l = true) (id : Int) : (wtZ l l.length id).getD 0 = grsB l id := by
  obtain ⟨h1, h2⟩ := wtZ_at (ths_of ht).lis l.length (Nat.le_refl _)
  rcases fnd_cases l id with ⟨e, h⟩ | ⟨k, hk, e, hd, _⟩
  · rw [h2 id (fun j hj _ => h _ (List.getElem_mem hj))]
    unfold grsB; rw [ask_miss (by rw [e]; decide)]; rfl
  · subst hd
    rw [h1 k hk hk]
    unfold grsB; rw [ask_hit hk e ht]; rfl
theorem ltZ {l : List Th} {G : Tz} (hG : ∀ id, (G id).getD 0 = grsB l id) (x y : Int) : decide (cfZ G x y < 0) = decide (grsB l y < grsB l x ∨ grsB l x = grsB l y ∧ x < y) := by
  unfold cfZ orZ
  rw [hG, hG]
  unfold Lib.compareInt
  by_cases h1 : grsB l y < grsB l x
  · simp [h1]
  · by_cases h2 : grsB l x < grsB l y
    · have : ¬ grsB l x = grsB l y := by omega
      simp [h1, h2, this]
    · have e : grsB l x = grsB l y := by omega
      by_cases h3 : x < y
      · simp [e, h3]
      · by_cases h4 : y < x <;> simp [e, h3, h4]
theorem grown_sortZ {w : World} {g n : Nat} {os : Array Obj} (d : Array Iz) : w.grownBy (grow (putRow encZ (Sort.ahead w n) g 0 d) os) (some g) := by
  rw [putRow_val]; exact grownBy_sortedI _
set_option maxRecDepth 100000 in
theorem sort_heav {l : List Th} {ids : List Int} {w : World} {base g cap p b n : Nat} {G : Tz} (hbd : ∀ z ∈ ids, Bz z) (hG : ∀ id, (G id).getD 0 = grsB l id) (h : OwnI w base (.slice (some ⟨g, 0, none⟩) ids.length cap) ids) (hn : ids.length ≤ 1048576)
    (hp : w.cell? ⟨p, 0, none⟩ = some (.map (some b))) (hpl : p < w.heap.size) (hpg : p ≠ g) (hM : MapZ w b n G) (hbg : b ≠ g) :
    Calls Try.prog 128 #[.slice (some ⟨g, 0, none⟩) ids.length cap, .func (.func 129) #[] #[.pointer (some ⟨p, 0, none⟩)]] w fun e w' => e = .returned (.tuple #[]) ∧ OwnI w' base (.slice (some ⟨g, 0, none⟩) ids.length cap) (heav l ids) ∧ w.grownBy w' (some g) := by
  rcases h.2 with ⟨e, _⟩ | ⟨g', c, cur, e, hb, hblk, h1, h2, h3, h4⟩
  · cases e
  cases e
  rw [Nat.mul_one] at h4
  obtain ⟨d, hd⟩ : ∃ d : List Iz, d = ids.attach.map fun z => ⟨z.1, hbd z.1 z.2⟩ := ⟨_, rfl⟩
  have hdv : d.map (·.1) = ids := by subst hd; simp
  have hdl : d.length = ids.length := by rw [← hdv]; simp
  have hH0 := holds_of_blockI hblk h4
  have hH : Holds encZ w g 0 d.toArray := fun j hj => by
    have hj' : j < d.length := by simpa using hj
    have h5 := hH0 j (by simp; omega)
    rw [getElem!_pos _ j (by simp; omega)] at h5
    rw [getElem!_pos _ j hj]
    refine ⟨?_, h5.2⟩
    rw [h5.1]
    unfold encZ
    congr 2
    have : ids[j]'(by omega) = (d.map (·.1))[j]'(by simpa using hj') := by congr 1; exact hdv.symm
    simpa using this
  have hlt : ∀ x y : Iz, ltOf (fun x y : Iz => cfZ G x.1 y.1) x y = decide (grsB l y.1 < grsB l x.1 ∨ grsB l x.1 = grsB l y.1 ∧ x.1 < y.1) := fun x y => ltZ hG x.1 y.1
  have hO : SWO (ltOf (fun x y : Iz => cfZ G x.1 y.1)) :=
    ⟨fun x => by rw [hlt]; simp, fun x y z h1 h2 => by rw [hlt] at *; simp only [decide_eq_true_eq] at *; omega, fun x y z h1 h2 => by rw [hlt] at *; simp only [decide_eq_false_iff_not] at *; omega⟩
  have hT : ∀ x y : Iz, ltOf (fun x y : Iz => cfZ G x.1 y.1) x y = false → ltOf (fun x y : Iz => cfZ G x.1 y.1) y x = false → x = y := fun x y h1 h2 => by
    rw [hlt] at *; simp only [decide_eq_false_iff_not] at *; exact Subtype.ext (by omega)
  have eg : ∀ args w, (callFunc 129 args).run Try.prog w = .ok (.enter 129 args) w := enters_of Try.func129 (by kernel_rfl) rfl
  have hC : CmpLays1 Try.prog 129 #[.pointer (some ⟨p, 0, none⟩)] encZ (fun x y : Iz => cfZ G x.1 y.1) g 0 d.toArray.size w := fun m os dk _ x y => by
    have hgr : w.grownBy (sortWorld encZ w g 0 m dk os) (some g) := grown_sortZ dk
    refine (heav_cmp x.1 y.1 x.2 y.2 p b n G _ ?_ (hM.kept hgr (by simpa using hbg))).mono ?_
    · rw [(only_cells hgr).1 p 0 hpl hpg]; exact hp
    · rintro e w' ⟨he, o, ho⟩
      exact ⟨he, 0, #[o], by rw [ho, alloc_eq_grow]; rfl⟩
  have hS := Try.slices_SortFunc_total encZ (fun _ => rfl) (fun x y : Iz => cfZ G x.1 y.1) hO 129 #[.pointer (some ⟨p, 0, none⟩)] g 0 cap d.toArray w eg hC hH (Array.getElem?_eq_some_iff.1 hblk).1 (by simp; omega) hT
  simp only [List.size_toArray, hdl] at hS
  refine hS.mono ?_
  rintro e w' ⟨rfl, n', os, rfl⟩
  obtain ⟨ms, hms⟩ : ∃ ms, ms = d.mergeSort fun x y => !(ltOf (fun x y : Iz => cfZ G x.1 y.1)) y x := ⟨_, rfl⟩
  have hhv : ms.map (·.1) = heav l ids := by
    refine heav_uniq ?_ ?_
    · rw [hms, List.pairwise_map]
      have hp := List.pairwise_mergeSort (le := fun x y : Iz => !(ltOf (fun x y : Iz => cfZ G x.1 y.1)) y x) (fun a b c h1 h2 => by simp only [hlt, Bool.not_eq_true', decide_eq_false_iff_not] at *; omega) (fun a b => by simp only [hlt, Bool.or_eq_true, Bool.not_eq_true', decide_eq_false_iff_not]; omega) d
      exact hp.imp (fun {a b} h => by rw [lE_iff]; simp only [hlt, Bool.not_eq_true', decide_eq_false_iff_not] at h; omega)
    · rw [← hdv, hms]; exact (List.mergeSort_perm _ _).map _
  refine ⟨rfl, ?_, grown_sortZ _⟩
  rw [← hms]
  have hmap : (ms.toArray.map (·.1)) = (heav l ids).toArray := by rw [List.map_toArray, hhv]
  have := ownsRow_sortedI (n := n') (os := os) (ts := heav l ids) (ss := ids) (heav_len l ids) hb hblk h1 h2 (by rw [h3])
  unfold OwnI
  rw [heav_len]
  show (grow (putRow encZ (Sort.ahead w n') g 0 ms.toArray) os).ownsRow _ _ _ _ _ _
  rw [putRow_val, hmap]
  exact this
theorem upd_two {w : World} {b n : Nat} {G : Tz} (h : MapZ w b n G) (hn : n < 4194304) (s e : Int) (hs : Bz s) (he : Bz e) :
    ∃ w', (Instr.mapUpdate 141 (.map (some b)) (.int .i64 s) (.int .i64 e)).run Try.prog w = .ok () w' ∧ MapZ w' b (n + 1) (putZ G s e) ∧ w.grownBy w' (some b) := by
  obtain ⟨D, h1, h2⟩ := h
  obtain ⟨w', hr, ho, hg⟩ := h1.update key_lawZ Try.underlying141 (by unfold maxLen; omega) (key_ofZ s hs) (plainElem_int (H := Unit) Try.underlying3 (WalkArith.wf_i64 (by omega)))
  exact ⟨w', hr, ⟨_, ho, h2.put (h1.tidy key_lawZ).isMap s e⟩, hg⟩
theorem ints_news {w : World} {g : Nat} {l : List Int} (h : IntsIn w (some ⟨g, 0, none⟩) l) : ∀ j u, (intV l)[j]? = some u → w.cell? ((⟨g, 0, none⟩ : Addr).add j) = some u := by
  intro j u hu
  have hj : j < l.length := by
    have := (List.getElem?_eq_some_iff.1 hu).1
    rwa [intV_len] at this
  obtain ⟨g', e, _, hc⟩ := h j hj
  cases e
  rw [add_own, hc, ← hu]
  unfold intV
  rw [List.getElem?_map, List.getElem?_eq_getElem hj]; rfl
set_option maxRecDepth 100000 in
set_option maxHeartbeats 400000 in
theorem clone_ints (g ca : Nat) (l : List Int) (w : World) (hA : IntsIn w (some ⟨g, 0, none⟩) l) (hn : l.length ≤ 1048576) :
    Calls Try.prog 127 #[.slice (some ⟨g, 0, none⟩) l.length ca] w fun e w' => ∃ G c, e = .returned (.slice (some ⟨G, 0, none⟩) l.length c) ∧ OwnI w' w.heap.size (.slice (some ⟨G, 0, none⟩) l.length c) l ∧ Below w.heap.size w w' := by
  obtain ⟨i0, hi0, hz0, hz1, hz2⟩ := info_parts int_info
  have hb0 := (Below.refl w.heap.size w).alloc (Nat.le_refl _) (.cells #[] 3)
  have HN := Lib.hid (ints_news (hA.below hb0)); clear hA
  have HB := Lib.hid hb0; clear hb0
  have hq : ∀ W, Sem.run Try.prog (binOp BinOp.eql 27 (.slice (some ⟨g, 0, none⟩) l.length ca) (.slice none 0 0)) W = .ok (.bool false) W := fun _ => by first | rfl | kernel_rfl | (simp [binOp, go_sem, Try.underlying27])
  go_enter Try.func127, Try.ntmps127
  go_wp2_with (at_builtin; refine wpList_append_own _ rfl _ _ 27 rfl w.heap.size 3 i0 _ 1 8 Try.underlying27 hi0 hz0 hz1 hz2 rfl (by decide) _ _ _ rfl (World.ownsRow_made w #[] 0 (Nat.le_refl _) (Nat.zero_le _) rfl) ⟨g, 0, none⟩ l.length ca (intV l) rfl ?qc1 ?qc2 ?qc3 ?qc4 ?qc5 ?qc6 ?_)
  case qc1 => simp [intV_len]
  case qc2 => exact HN.out
  case qc3 => exact one_int _
  case qc4 => unfold maxLen; omega
  case qc5 => omega
  case qc6 => simp
  intro v' w1 hown hgrow hnil
  have ho : OwnI w1 w.heap.size v' l := by unfold OwnI; simpa using hown
  have hv : ∃ G c, v' = .slice (some ⟨G, 0, none⟩) l.length c := by
    rcases ho.2 with ⟨e, _⟩ | ⟨G, cap, cur, e, _⟩
    · exact absurd e hnil
    · exact ⟨G, cap, e⟩
  obtain ⟨G, c, rfl⟩ := hv
  have HR := Lib.hid ho
  have hb := HB.out.grown hgrow (by simp) (by intro k hk; simp [Value.ownBlock] at hk; omega)
  clear ho hown hnil hgrow
  go_wp2
  go_ret
  exact ⟨G, c, rfl, HR.out, hb⟩
set_option maxRecDepth 100000 in
set_option maxHeartbeats 8000000 in
theorem heav_impl (l : List Th) (ids : List Int) (g0 ca : Nat) (A : Nat) (cap : Nat) (ht : thsB l = true) (hn : ids.length ≤ 1048576) (hbd : ∀ z ∈ ids, Bz z) : HeavC l ids g0 ca (some ⟨A, 0, none⟩) cap 76 := by
  intro w hA hI
  have hT := ths_of ht
  have hl40 := hT.len
  have HA := Lib.hid hA; have HI := Lib.hid hI; clear hA hI
  have HG := Lib.hid (fun t (hm : t ∈ l) W (h : InK 6 thC W (some ⟨g0, 0, none⟩) l) => gross_of t (some ⟨g0, 0, none⟩) ca l W h hl40 hT.lis hT.sha hm)
  have HNX := Lib.hid (fun k (h : k < l.length) => wtZ_next h)
  have HBD := Lib.hid (fun k (h : k < l.length) => show Bz l[k].d ∧ Bz (gr l 4 l[k]) from by
    have h1 := okT_iff.1 (hT.lis.ok _ (List.getElem_mem h))
    have h2 := gr_bd hT.lis hl40 4 l[k] (List.getElem_mem h)
    have h3 := grM_le (f := 4) (by omega)
    refine ⟨⟨?_, ?_⟩, ⟨?_, ?_⟩⟩ <;> omega)
  have HGS := Lib.hid (wtZ_grs ht)
  have HIB := Lib.hid hbd
  have HTH := Lib.hid ht
  clear hT ht hbd
  have hmm := @run_makeMap Try.prog
  have hmf : ∀ (fn : Fn) (first cap : Array Value) (w : World), (Instr.makeFunc fn first cap).run Try.prog w = .ok (.func fn first cap) w := fun _ _ _ _ => rfl
  have HM0 := Lib.hid ((MapZ.made w).below ((Below.refl _ _).alloc (Nat.le_refl _) (.cells #[.map (some w.heap.size)] 141)))
  have HB0 := Lib.hid (((Below.refl w.heap.size w).alloc (Nat.le_refl _) (.map #[] 0)).alloc (by simp) (.cells #[.map (some w.heap.size)] 141))
  have HC0 := Lib.hid (show ((w.alloc (.map #[] 0)).alloc (.cells #[.map (some w.heap.size)] 141)).cell? ⟨w.heap.size + 1, 0, none⟩ = some (.map (some w.heap.size)) by
    have h := heap_alloc_new (w.alloc (.map #[] 0)) (.cells #[.map (some w.heap.size)] 141)
    rw [show (w.alloc (.map #[] 0)).heap.size = w.heap.size + 1 by simp] at h
    rw [cell_of_row _ _ _ _ _ _ h]; rfl)
  have hZ0 : w.heap.size + 1 < ((w.alloc (.map #[] 0)).alloc (.cells #[.map (some w.heap.size)] 141)).heap.size := by simp
  generalize hB : w.heap.size = B at *
  have HBE := Lib.hid hB
  go_enter Try.func76, Try.ntmps76
  go_wp2
  clear hB
  generalize (w.alloc (.map #[] 0)).alloc (.cells #[.map (some B)] 141) = W0 at *
  go_loopw [12] (fun i wr => ∃ k : Nat, k ≤ l.length ∧ i = .int .i64 k ∧ MapZ wr B k (wtZ l k) ∧ Below B w wr ∧ wr.cell? ⟨B + 1, 0, none⟩ = some (.map (some B)) ∧ B + 1 < wr.heap.size) (fun i _ => l.length - (intOf i).toNat)
  case atStart => exact ⟨0, Nat.zero_le _, rfl, HM0.out, HB0.out, HC0.out, hZ0⟩
  case round =>
    clear HM0 HB0 HC0 hZ0
    obtain ⟨k, hk, rfl, hm, hb, hc, hz⟩ := hrel
    have HM := Lib.hid hm; have HB := Lib.hid hb; clear hm hb
    by_cases hlt : (k : Int) < (l.length : Int)
    · have hkn : k < l.length := by omega
      obtain ⟨a, ea, ha, c0, c1, c2, c3, c4, c5⟩ := (HA.out.below (show Below w.heap.size w wr by rw [HBE.out]; exact HB.out)).th k hkn
      cases ea
      have HN := Lib.hid (HNX.out k hkn)
      have HQ := Lib.hid (HBD.out k hkn)
      have HGT := Lib.hid (fun W h => HG.out l[k] (List.getElem_mem hkn) W h)
      generalize gr l 4 l[k] = GR at *
      generalize l[k] = y at *
      unfold thL at HGT
      obtain ⟨W, hW⟩ : ∃ W, W = wr.alloc (.cells #[.int .i64 y.d, .int .i64 y.o, .int .i64 y.r, .int .i64 y.n, .bool y.x, .bool y.s] 90) := ⟨_, rfl⟩
      have hwal := (Below.refl wr.heap.size wr).alloc (Nat.le_refl _) (.cells #[.int .i64 y.d, .int .i64 y.o, .int .i64 y.r, .int .i64 y.n, .bool y.x, .bool y.s] 90)
      have hX := heap_alloc_new wr (.cells #[.int .i64 y.d, .int .i64 y.o, .int .i64 y.r, .int .i64 y.n, .bool y.x, .bool y.s] 90)
      have hTW : wr.heap.size < (wr.alloc (.cells #[.int .i64 y.d, .int .i64 y.o, .int .i64 y.r, .int .i64 y.n, .bool y.x, .bool y.s] 90)).heap.size := by simp
      rw [← hW] at hwal hX hTW
      have hc' : W.cell? ⟨B + 1, 0, none⟩ = some (.map (some B)) := (hwal.cell (p := ⟨B + 1, 0, none⟩) hz).trans hc
      have HMW := Lib.hid (HM.out.below hwal); have HBW := Lib.hid (HB.out.trans (hwal.mono (by omega)))
      have b0 : W.cell? ⟨wr.heap.size, 0, none⟩ = some (.int .i64 y.d) := by rw [cell_of_row _ _ _ _ _ _ hX]; rfl
      have b1 : W.cell? ⟨wr.heap.size, 1, none⟩ = some (.int .i64 y.o) := by rw [cell_of_row _ _ _ _ _ _ hX]; rfl
      have b2 : W.cell? ⟨wr.heap.size, 2, none⟩ = some (.int .i64 y.r) := by rw [cell_of_row _ _ _ _ _ _ hX]; rfl
      have b3 : W.cell? ⟨wr.heap.size, 3, none⟩ = some (.int .i64 y.n) := by rw [cell_of_row _ _ _ _ _ _ hX]; rfl
      have b4 : W.cell? ⟨wr.heap.size, 4, none⟩ = some (.bool y.x) := by rw [cell_of_row _ _ _ _ _ _ hX]; rfl
      have b5 : W.cell? ⟨wr.heap.size, 5, none⟩ = some (.bool y.s) := by rw [cell_of_row _ _ _ _ _ _ hX]; rfl
      have HHX := Lib.hid hW
      clear hwal hX
      go_wp2
      rw [← HHX.out]
      clear HHX hW c0 c1 c2 c3 c4 c5 hc
      obtain ⟨X, hXe⟩ : ∃ X, X = wr.heap.size := ⟨_, rfl⟩
      rw [← hXe] at hTW b0 b1 b2 b3 b4 b5 ⊢
      have hBX : B + 1 < X := by omega
      have HXE := Lib.hid hXe; clear hXe
      have HGP := Lib.hid (fun W' (h : Below W.heap.size W W') => HGT.out W' (HA.out.below (show Below w.heap.size w W' by rw [HBE.out]; exact HBW.out.trans (h.mono (by omega)))))
      go_region_held3 (fun w' => w'.cell? ⟨B + 1, 0, none⟩ = some (.map (some B)) ∧ w'.cell? ⟨X, 0, none⟩ = some (.int .i64 y.d) ∧ w'.cell? ⟨X, 1, none⟩ = some (.int .i64 y.o) ∧ w'.cell? ⟨X, 2, none⟩ = some (.int .i64 y.r) ∧ w'.cell? ⟨X, 3, none⟩ = some (.int .i64 y.n) ∧ w'.cell? ⟨X, 4, none⟩ = some (.bool y.x) ∧ w'.cell? ⟨X, 5, none⟩ = some (.bool y.s))
        (go_keep)
        (first
          | (go_at_call 126; refine (HGP.out _ ?_).mono ?_; (focus (first | exact Below.refl _ _ | exact (Below.refl _ _).drew)); (rintro e u ⟨rfl, hu⟩; (first | (have hb2 : Below W.heap.size W u := below_undrew hu) | (have hb2 : Below W.heap.size W u := hu)); obtain ⟨u1, E1, M1, G1⟩ := upd_two (HMW.out.below hb2) (by omega) y.d GR HQ.out.1 HQ.out.2; obtain ⟨u2, E2, M2, G2⟩ := upd_two (w := u.drew) (HMW.out.below hb2.drew) (by omega) y.d GR HQ.out.1 HQ.out.2; have hBW2 : B + 1 < W.heap.size := (by omega); have hu2 := hb2.size; have k0 := (hb2.cell (p := ⟨B + 1, 0, none⟩) hBW2).trans hc'; have k1 := (hb2.cell (p := ⟨X, 0, none⟩) hTW).trans b0; have k2 := (hb2.cell (p := ⟨X, 1, none⟩) hTW).trans b1; have k3 := (hb2.cell (p := ⟨X, 2, none⟩) hTW).trans b2; have k4 := (hb2.cell (p := ⟨X, 3, none⟩) hTW).trans b3; have k5 := (hb2.cell (p := ⟨X, 4, none⟩) hTW).trans b4; have k6 := (hb2.cell (p := ⟨X, 5, none⟩) hTW).trans b5; have j0 := ((only_cells G1).1 (B + 1) 0 (by omega) (by omega)).trans k0; have i0 := ((only_cells G2).1 (B + 1) 0 (show (B + 1) < u.drew.heap.size from (by show (B + 1) < u.heap.size; omega)) (by omega)).trans k0; have j1 := ((only_cells G1).1 X 0 (by omega) (by omega)).trans k1; have i1 := ((only_cells G2).1 X 0 (show X < u.drew.heap.size from (by show X < u.heap.size; omega)) (by omega)).trans k1; have j2 := ((only_cells G1).1 X 1 (by omega) (by omega)).trans k2; have i2 := ((only_cells G2).1 X 1 (show X < u.drew.heap.size from (by show X < u.heap.size; omega)) (by omega)).trans k2; have j3 := ((only_cells G1).1 X 2 (by omega) (by omega)).trans k3; have i3 := ((only_cells G2).1 X 2 (show X < u.drew.heap.size from (by show X < u.heap.size; omega)) (by omega)).trans k3; have j4 := ((only_cells G1).1 X 3 (by omega) (by omega)).trans k4; have i4 := ((only_cells G2).1 X 3 (show X < u.drew.heap.size from (by show X < u.heap.size; omega)) (by omega)).trans k4; have j5 := ((only_cells G1).1 X 4 (by omega) (by omega)).trans k5; have i5 := ((only_cells G2).1 X 4 (show X < u.drew.heap.size from (by show X < u.heap.size; omega)) (by omega)).trans k5; have j6 := ((only_cells G1).1 X 5 (by omega) (by omega)).trans k6; have i6 := ((only_cells G2).1 X 5 (show X < u.drew.heap.size from (by show X < u.heap.size; omega)) (by omega)).trans k6; have HU := Lib.hid hb2; have HS1 := Lib.hid (And.intro M1 G1); have HS2 := Lib.hid (And.intro M2 G2); clear M1 G1 M2 G2 hu)))
      all_goals
        have HF1 := Lib.hid (show MapZ u1 B (k + 1) (wtZ l (k + 1)) ∧ Below B w u1 from ⟨by rw [HN.out]; exact HS1.out.1, (HBW.out.trans (HU.out.mono (by omega))).grown HS1.out.2 (by omega) (fun q e => by have := Option.some.inj e; omega)⟩)
        have HF2 := Lib.hid (show MapZ u2 B (k + 1) (wtZ l (k + 1)) ∧ Below B w u2 from ⟨by rw [HN.out]; exact HS2.out.1, ((HBW.out.trans (HU.out.mono (by omega))).drew).grown HS2.out.2 (show B ≤ u.heap.size by omega) (fun q e => by have := Option.some.inj e; omega)⟩)
        have hz1 : B + 1 < u1.heap.size := Nat.lt_of_lt_of_le (show B + 1 < u.heap.size by omega) HS1.out.2.size
        have hz2 : B + 1 < u2.heap.size := Nat.lt_of_lt_of_le (show B + 1 < u.drew.heap.size from (by show B + 1 < u.heap.size; omega)) HS2.out.2.size
        have HJ := Lib.hid j0; have HI0 := Lib.hid i0
        go_wp2
        go_roundw
        case rel => first | exact ⟨k + 1, by omega, by go_num, HF1.out.1, HF1.out.2, HJ.out, hz1⟩ | exact ⟨k + 1, by omega, by go_num, HF2.out.1, HF2.out.2, HI0.out, hz2⟩
        case measure => simp [intOf]; omega
    · obtain rfl : k = l.length := by omega
      have HCL := Lib.hid (clone_ints A cap ids wr (HI.out.below (show Below w.heap.size w wr by rw [HBE.out]; exact HB.out)) hn)
      go_wp2_with fail
      refine HCL.out.mono ?_; rintro e w2 ⟨G, c, rfl, ho, hb2⟩
      have hGl := World.ownsRow.lt ho G rfl
      have hc2 := (hb2.cell (p := ⟨B + 1, 0, none⟩) hz).trans hc
      have HM2 := Lib.hid (HM.out.below hb2); have HB2 := Lib.hid (HB.out.trans (hb2.mono (by omega))); have HO := Lib.hid ho
      have hz2 := hb2.size
      clear ho hb2 hc HCL HM HB
      have HSO := Lib.hid (sort_heav (l := l) (base := B) HIB.out HGS.out (OwnI.mono HO.out (by omega)) hn hc2 (by omega) (by omega) HM2.out (by omega))
      go_wp2_with fail
      refine HSO.out.mono ?_; rintro e w3 ⟨rfl, ho3, hg3⟩
      have HO3 := Lib.hid ho3
      have HB3 := Lib.hid (HB2.out.grown hg3 (by omega) (fun q e => by have := Option.some.inj e; omega))
      clear ho3 hg3
      go_wp2
      go_ret
      exact ⟨_, rfl, HO3.out, HB3.out⟩
end Go.Proofs.Ytodphbnbljpegab

/- Slices of ints: what the exact laws make, compare and mark. -/
import Derived.Test.YtbdnbchleoahgaaSortM
import Derived.Test.YtbdnbchleoahgaaOnly
import Derived.Laws.MakeOwn
namespace Go.Proofs.Ytbdnbchleoahgaa
open Go.RowKit
theorem int_info : (Try.prog.info? 3).map (fun i => (i.zero, i.size, i.bytes)) = some (some (.int .i64 0), 1, 8) := by kernel_rfl
def intV (l : List Int) : List Value := l.map (Value.int .i64)
theorem intV_app (a b : List Int) : intV (a ++ b) = intV a ++ intV b := by simp [intV]
theorem intV_len (a : List Int) : (intV a).length = a.length := by simp [intV]
/-- ints that can be read -/
def IntsRaw (w : World) (A : Option Addr) (zs : List Int) : Prop :=
  ∀ j (hj : j < zs.length), ∃ ad, A = some ad ∧ ad.block < w.heap.size ∧ w.cell? (ad.add j) = some (.int .i64 zs[j])
theorem IntsRaw.below {w w' : World} {A : Option Addr} {zs : List Int} (h : IntsRaw w A zs) (hb : Below w.heap.size w w') : IntsRaw w' A zs := by
  intro j hj
  obtain ⟨ad, h1, h2, h3⟩ := h j hj
  refine ⟨ad, h1, Nat.lt_of_lt_of_le h2 hb.size, ?_⟩
  rw [← h3]
  exact hb.cell (by rw [addr_block]; exact h2)
/-- ints that can be read, from the head of a block on -/
def IntsIn (w : World) (A : Option Addr) (zs : List Int) : Prop :=
  ∀ j (hj : j < zs.length), ∃ g, A = some ⟨g, 0, none⟩ ∧ g < w.heap.size ∧ w.cell? ⟨g, j, none⟩ = some (.int .i64 zs[j])
theorem IntsIn.below {w w' : World} {A : Option Addr} {zs : List Int} (h : IntsIn w A zs) (hb : Below w.heap.size w w') : IntsIn w' A zs := by
  intro j hj
  obtain ⟨g, h1, h2, h3⟩ := h j hj
  refine ⟨g, h1, Nat.lt_of_lt_of_le h2 hb.size, ?_⟩
  rw [← h3]
  exact hb.cell h2
theorem IntsIn.drew {w : World} {A : Option Addr} {zs : List Int} (h : IntsIn w A zs) (n : Nat) : IntsIn (w.drewN n) A zs :=
  h.below (below_drewN (Below.refl _ _) n)
/-- a slice of the call's own that holds these ints -/
def OwnI (w : World) (base : Nat) (v : Value) (l : List Int) : Prop := w.ownsRow base 3 1 v l.length (intV l)
theorem OwnI.below {w w' : World} {base : Nat} {v : Value} {l : List Int} (h : OwnI w base v l) (hb : Below w.heap.size w w') : OwnI w' base v l :=
  World.ownsRow.kept h (row := none) ⟨hb.os, hb.tape, hb.output, hb.size, fun i hi _ => hb.block i hi⟩ (by cases v.ownBlock <;> simp)
theorem OwnI.mono {w : World} {base b : Nat} {v : Value} {l : List Int} (h : OwnI w base v l) (hb : b ≤ base) : OwnI w b v l := by
  refine ⟨h.1, ?_⟩
  rcases h.2 with h | ⟨g, cap, cur, h1, h2, h3⟩
  · exact .inl h
  · exact .inr ⟨g, cap, cur, h1, Nat.le_trans hb h2, h3⟩
theorem add_own (g j : Nat) : (⟨g, 0, none⟩ : Addr).add j = ⟨g, j, none⟩ := by
  unfold Addr.add; split
  · subst_vars; rfl
  · simp
theorem OwnI.cell {w : World} {base g cap : Nat} {l : List Int} (h : OwnI w base (.slice (some ⟨g, 0, none⟩) l.length cap) l) (j : Nat) (hj : j < l.length) : w.cell? ⟨g, j, none⟩ = some (.int .i64 l[j]) := by
  rw [World.ownsRow.cellAt (w := w) (base := base) (e := 3) (size := 1) h j (by omega)]
  simp [intV, hj]
theorem OwnI.ins {w : World} {base n cap : Nat} {A : Option Addr} {l : List Int} (h : OwnI w base (.slice A n cap) l) : n = l.length ∧ IntsIn w A l := by
  rcases h.2 with ⟨e, hn⟩ | ⟨g, c, cur, e, h1, h2, _⟩
  · simp only [Value.slice.injEq] at e
    obtain ⟨rfl, rfl, rfl⟩ := e
    refine ⟨by omega, fun j hj => by omega⟩
  · simp only [Value.slice.injEq] at e
    obtain ⟨rfl, rfl, rfl⟩ := e
    refine ⟨rfl, fun j hj => ⟨_, rfl, (Array.getElem?_eq_some_iff.1 h2).1, ?_⟩⟩
    exact h.cell j hj
theorem OwnI.opens {w : World} {base : Nat} {v : Value} {l : List Int} (h : OwnI w base v l) : ∃ (A : Option Addr) (cap : Nat), v = .slice A l.length cap := by
  rcases h.2 with ⟨e, hn⟩ | ⟨g, c, cur, e, h1, h2, _⟩
  · exact ⟨none, 0, by rw [e, hn]⟩
  · exact ⟨_, _, e⟩
theorem OwnI.row {w : World} {base : Nat} {v : Value} {l : List Int} (h : OwnI w base v l) (hl : l ≠ []) : ∃ g cap, v = .slice (some ⟨g, 0, none⟩) l.length cap ∧ base ≤ g ∧ g < w.heap.size := by
  have hne : 0 < l.length := List.length_pos_iff.2 hl
  rcases h.2 with ⟨_, h⟩ | ⟨g, cap, _, h1, h2, h3, _⟩
  · omega
  · exact ⟨g, cap, h1, h2, (Array.getElem?_eq_some_iff.1 h3).1⟩
theorem make_ints (n : Nat) (hn : n ≤ 17592186044415) : ∀ W : World, (Instr.makeSlice 28 (.int .i64 (n : Int)) (.int .i64 (n : Int))).run Try.prog W = .ok (.slice (some ⟨W.heap.size, 0, none⟩) n n) (W.alloc (.cells (madeCells #[.int .i64 0] n) 3)) := by
  intro W
  obtain ⟨i0, hi0, hz0, hz1, hz2⟩ := info_parts int_info
  have h := run_make (P := Try.prog) W 28 3 i0 (.int .i64 0) Try.underlying28 hi0 hz0 .i64 .i64 n n (by omega) (by omega) (by rw [hz2]; omega) (by omega)
  rw [hz1] at h
  simpa [Value.cells] using h
theorem made_one (z : Value) (n : Nat) : madeCells #[z] n = (List.replicate n z).toArray := by
  rw [← toList_madeCells_one, Array.toArray_toList]
theorem ints_made (w : World) {g : Nat} (zs : List Int) (k : Nat) (h : w.heap[g]? = some (.cells (intV (zs.take k) ++ List.replicate (zs.length - k) (Value.int .i64 0)).toArray 3 (0, 0))) (hn : k < zs.length) :
    (w.setCell ⟨g, k, none⟩ (Value.int .i64 zs[k])).heap[g]? = some (.cells (intV (zs.take (k + 1)) ++ List.replicate (zs.length - (k + 1)) (Value.int .i64 0)).toArray 3 (0, 0)) := by
  rw [heap_set h]
  congr 2
  have hl : (intV (zs.take k)).length = k := by rw [intV_len, List.length_take]; omega
  rw [List.setIfInBounds_toArray, List.set_append_right _ _ (by omega), hl, Nat.sub_self, show zs.length - k = (zs.length - (k + 1)) + 1 from by omega, List.replicate_succ, List.set_cons_zero, List.take_succ_eq_append_getElem hn, intV_app, List.append_assoc]
  rfl
set_option maxRecDepth 100000 in
set_option maxHeartbeats 400000 in
theorem to_ints (A : Option Addr) (cap : Nat) (zs : List Int) (w : World) (hI : IntsRaw w A zs) (hn : zs.length ≤ 17592186044415) :
    Calls Try.prog 111 #[.slice A zs.length cap] w fun e w' => e = .returned (.slice (some ⟨w.heap.size, 0, none⟩) zs.length zs.length) ∧ OwnI w' w.heap.size (.slice (some ⟨w.heap.size, 0, none⟩) zs.length zs.length) zs ∧ Below w.heap.size w w' := by
  have HI := Lib.hid hI; clear hI
  have hmk := make_ints zs.length hn
  have h0 := heap_alloc_new w (.cells (madeCells #[.int .i64 0] zs.length) 3)
  have hb0 := (Below.refl w.heap.size w).alloc (Nat.le_refl _) (.cells (madeCells #[.int .i64 0] zs.length) 3)
  rw [made_one] at h0 hb0
  go_enter Try.func111, Try.ntmps111
  go_wp2
  rw [made_one]
  clear hmk
  obtain ⟨g, hg⟩ : ∃ g, g = w.heap.size := ⟨_, rfl⟩
  rw [← hg] at h0 hb0 ⊢
  have hgl : g ≤ w.heap.size := by omega
  have hgu : w.heap.size ≤ g := by omega
  have HG := Lib.hid hg; clear hg
  generalize w.alloc (.cells (List.replicate zs.length (Value.int IntKind.i64 0)).toArray 3) = W at *
  go_loopw [4] (fun i wr => ∃ k : Nat, k ≤ zs.length ∧ i = .int .i64 k ∧ wr.heap[g]? = some (.cells (intV (zs.take k) ++ List.replicate (zs.length - k) (Value.int .i64 0)).toArray 3 (0, 0)) ∧ Below g w wr) (fun i _ => zs.length - (intOf i).toNat)
  case atStart => exact ⟨0, Nat.zero_le _, rfl, by simpa [intV] using h0, hb0⟩
  case round =>
    obtain ⟨k, hk, rfl, hblk, hb⟩ := hrel
    clear h0 hb0
    by_cases hlt : (k : Int) < (zs.length : Int)
    · have hkn : k < zs.length := by omega
      obtain ⟨ad, rfl, ha, hc⟩ := (HI.out) k hkn
      have hc' : wr.cell? (ad.add k) = some (Value.int .i64 zs[k]) := by rw [← hc]; exact hb.cell (by rw [addr_block]; omega)
      have hd : wr.cell? ⟨g, k, none⟩ = some (Value.int .i64 0) := by
        rw [cell_of_row wr g k _ _ _ hblk]
        have hl : (intV (zs.take k)).length = k := by rw [intV_len, List.length_take]; omega
        rw [List.getElem?_toArray, List.getElem?_append_right (by omega), hl, List.getElem?_replicate, if_pos (by omega)]
      have hf : wr.frozen? ⟨g, k, none⟩ = false := frozen_of_row wr g k _ _ hblk
      have HS := Lib.hid (ints_made wr zs k hblk hkn)
      clear hblk hc
      go_wp2
      go_roundw
      case rel => exact ⟨k + 1, by omega, by go_num, HS.out, hb.setCell (Nat.le_refl _) _⟩
      case measure => simp [intOf]; omega
    · obtain rfl : k = zs.length := by omega
      have HB := Lib.hid hblk; clear hblk
      go_wp2
      go_ret
      refine ⟨by rw [← HG.out]; rfl, ⟨by simp [intV], .inr ⟨g, zs.length, (intV zs).toArray, by rw [← HG.out], by omega, ?_, Nat.le_refl _, by unfold maxLen; omega, by simp [intV], ?_⟩⟩, by rw [← HG.out]; exact hb⟩
      · have := HB.out; simpa using this
      · exact List.take_of_length_le (by simp [intV])
set_option maxRecDepth 100000 in
set_option maxHeartbeats 400000 in
theorem eq_ints (A B : Option Addr) (ca cb : Nat) (l : List Int) (w : World) (hA : IntsIn w A l) (hB : IntsIn w B l) (hn : l.length ≤ 17592186044415) :
    Calls Try.prog 62 #[.slice A l.length ca, .slice B l.length cb] w fun e w' => e = .returned (.bool true) ∧ Below w.heap.size w w' := by
  have HA := Lib.hid hA; have HB := Lib.hid hB; clear hA hB
  have hlb : ((l.length : Int) != (l.length : Int)) = false := by simp
  go_enter Try.func62, Try.ntmps62
  go_wp2
  go_loopw [5] (fun i wr => ∃ j : Nat, j ≤ l.length ∧ i = .int .i64 j ∧ Below w.heap.size w wr ∧ (∀ a, wr.cell? a = w.cell? a)) (fun i _ => l.length - (intOf i).toNat)
  case atStart => exact ⟨0, Nat.zero_le _, rfl, Below.refl _ _, fun _ => rfl⟩
  case round =>
    obtain ⟨j, hj, rfl, hb, hsame⟩ := hrel
    have HS := Lib.hid hsame; clear hsame
    by_cases hlt : (j : Int) < (l.length : Int)
    · have hjn : j < l.length := by omega
      obtain ⟨ad, rfl, _, k1⟩ := HA.out j hjn
      obtain ⟨bd, rfl, _, k2⟩ := HB.out j hjn
      replace k1 := (HS.out _).trans k1
      replace k2 := (HS.out _).trans k2
      have hq : (l[j] != l[j]) = false := by simp
      go_wp2_with fail
      go_quiet (fail)
      go_wp2
      go_roundw
      case rel => exact ⟨j + 1, by omega, by go_num, below_drewN hb _, fun a => HS.out a⟩
      case measure => simp [intOf]; omega
    · go_wp2
      go_ret
      exact ⟨rfl, hb⟩
end Go.Proofs.Ytbdnbchleoahgaa

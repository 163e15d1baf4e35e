/- Rows of scans: one put in its place, the end cleared; slices.Compact on a row of the call's own. Written by mk/scops.py. -/
import Derived.Test.YtamlbiagjipedaaGreatScSort
import Derived.Test.YtamlbiagjipedaaGreatScEq
import Derived.Laws.CopyRow
import Derived.BigQuiet
namespace Go.Proofs.YtamlbiagjipedaaGreat
open Go.RowKit
theorem flatSet {α : Type} {enc : α → List Value} {m : Nat} (hk : ∀ a, (enc a).length = m) : ∀ (l : List α) (k : Nat) (h : k < l.length) (i : Nat) (_ : i < m) (v : Value) (y : α), enc y = (enc l[k]).set i v → (l.flatMap enc).set (k * m + i) v = (l.set k y).flatMap enc
  | [], k, h, _, _, _, _, _ => by simp at h
  | a :: l, 0, _, i, hi, v, y, he => by
    rw [List.set_cons_zero, List.flatMap_cons, List.flatMap_cons, Nat.zero_mul, Nat.zero_add, List.set_append_left _ _ (by rw [hk]; exact hi), he]
    rfl
  | a :: l, k + 1, h, i, hi, v, y, he => by
    rw [List.set_cons_succ, List.flatMap_cons, List.flatMap_cons, List.set_append_right _ _ (by rw [hk, Nat.succ_mul]; omega), hk, show (k + 1) * m + i - m = k * m + i by rw [Nat.succ_mul]; omega, flatSet hk l k (by simpa using h) i hi v y he]
theorem flatTake {α : Type} {enc : α → List Value} {m : Nat} (hk : ∀ a, (enc a).length = m) (l : List α) (i : Nat) (h : i ≤ l.length) : (l.flatMap enc).take (i * m) = (l.take i).flatMap enc := by
  have h1 : l.flatMap enc = (l.take i).flatMap enc ++ (l.drop i).flatMap enc := by rw [← List.flatMap_append, List.take_append_drop]
  rw [h1, List.take_left' (by rw [flat_len hk, List.length_take, Nat.min_eq_left h])]
abbrev RowC (w : World) (b G c : Nat) (l : List Sc) : Prop := OwnK 34 6 scC w b (.slice (some ⟨G, 0, none⟩) l.length c) l
theorem rowC_put {w : World} {b G c i : Nat} {l : List Sc} {k : Nat} (h : RowC w b G c l) (hk : k < l.length) (hi : i < 6) (v : Value) (y : Sc) (he : scC y = (scC l[k]).set i v) : RowC (w.setCell ⟨G, k * 6 + i, none⟩ v) b G c (l.set k y) := by
  unfold RowC OwnK
  rw [List.length_set, ← flatSet scC_len l k hk i hi v y he]
  exact (World.ownsRow.stored h (k * 6 + i) v).1
theorem rowC_set {w : World} {b G c : Nat} {l : List Sc} {k : Nat} (h : RowC w b G c l) (hk : k < l.length) (yh : Int) (ya : Int) (yk : Int) (yp : ByteArray) (yg : Int) (yd : Int) :
    RowC ((((((w.setCell ⟨G, k * 6, none⟩ (.int .i64 yh)).setCell ⟨G, k * 6 + 1, none⟩ (.int .i64 ya)).setCell ⟨G, k * 6 + 2, none⟩ (.int .i64 yk)).setCell ⟨G, k * 6 + 3, none⟩ (.string yp)).setCell ⟨G, k * 6 + 4, none⟩ (.int .i64 yg)).setCell ⟨G, k * 6 + 5, none⟩ (.int .i64 yd)) b G c (l.set k ⟨yh, ya, yk, yp, yg, yd⟩) := by
  have h1 := rowC_put (i := 0) h hk (by omega) (.int .i64 yh) ⟨yh, l[k].a, l[k].k, l[k].p, l[k].g, l[k].d⟩ rfl
  have h2 := rowC_put (i := 1) h1 (by simpa using hk) (by omega) (.int .i64 ya) ⟨yh, ya, l[k].k, l[k].p, l[k].g, l[k].d⟩ (by rw [List.getElem_set_self]; rfl)
  rw [List.set_set] at h2
  have h3 := rowC_put (i := 2) h2 (by simpa using hk) (by omega) (.int .i64 yk) ⟨yh, ya, yk, l[k].p, l[k].g, l[k].d⟩ (by rw [List.getElem_set_self]; rfl)
  rw [List.set_set] at h3
  have h4 := rowC_put (i := 3) h3 (by simpa using hk) (by omega) (.string yp) ⟨yh, ya, yk, yp, l[k].g, l[k].d⟩ (by rw [List.getElem_set_self]; rfl)
  rw [List.set_set] at h4
  have h5 := rowC_put (i := 4) h4 (by simpa using hk) (by omega) (.int .i64 yg) ⟨yh, ya, yk, yp, yg, l[k].d⟩ (by rw [List.getElem_set_self]; rfl)
  rw [List.set_set] at h5
  have h6 := rowC_put (i := 5) h5 (by simpa using hk) (by omega) (.int .i64 yd) ⟨yh, ya, yk, yp, yg, yd⟩ (by rw [List.getElem_set_self]; rfl)
  rw [List.set_set] at h6
  exact h6
theorem rowC_grown {w : World} {G k : Nat} (yh : Int) (ya : Int) (yk : Int) (yp : ByteArray) (yg : Int) (yd : Int) : w.grownBy ((((((w.setCell ⟨G, k * 6, none⟩ (.int .i64 yh)).setCell ⟨G, k * 6 + 1, none⟩ (.int .i64 ya)).setCell ⟨G, k * 6 + 2, none⟩ (.int .i64 yk)).setCell ⟨G, k * 6 + 3, none⟩ (.string yp)).setCell ⟨G, k * 6 + 4, none⟩ (.int .i64 yg)).setCell ⟨G, k * 6 + 5, none⟩ (.int .i64 yd)) (some G) :=
  (only_trans (only_trans (only_trans (only_trans (only_trans (only_set _ _ _ _) (only_set _ _ _ _)) (only_set _ _ _ _)) (only_set _ _ _ _)) (only_set _ _ _ _)) (only_set _ _ _ _))
theorem one_sc (t : Sc) : ∀ u ∈ scC t, u.oneCell' = true := by
  intro u hu
  simp only [scC, List.mem_cons, List.not_mem_nil, or_false] at hu
  rcases hu with rfl | rfl | rfl | rfl | rfl | rfl <;> rfl
theorem all_oneS {l : List Sc} : ∀ u ∈ l.flatMap scC, u.oneCell' = true := by
  intro u hu
  obtain ⟨t, _, h⟩ := List.mem_flatMap.1 hu
  exact one_sc t u h
theorem rowC_of {w : World} {b : Nat} {v : Value} {l : List Sc} (h : OwnK 34 6 scC w b v l) (hv : v ≠ .slice none 0 0) : ∃ G c, v = .slice (some ⟨G, 0, none⟩) l.length c ∧ RowC w b G c l := by
  have h0 := h
  rcases h.2 with ⟨e, _⟩ | ⟨g, cap, cur, e, _⟩
  · exact absurd e hv
  · subst e; exact ⟨g, cap, rfl, h0⟩
theorem only_row (w : World) (g : Nat) (cs : Array Value) : w.grownBy (w.setRow g cs) (some g) :=
  ⟨rfl, rfl, rfl, by simp, fun i _ hn => setRow_other w g i cs (fun e => hn (by rw [e]))⟩
theorem zero_scs (m : Nat) : ((Builtin.zeroCells (Value.agg #[.int .i64 0, .int .i64 0, .int .i64 0, .string ⟨#[]⟩, .int .i64 0, .int .i64 0]).cells m).toList).length = m * 6 ∧ ∀ v ∈ (Builtin.zeroCells (Value.agg #[.int .i64 0, .int .i64 0, .int .i64 0, .string ⟨#[]⟩, .int .i64 0, .int .i64 0]).cells m).toList, v.oneCell' = true := by
  have h4 : (Value.agg #[.int .i64 0, .int .i64 0, .int .i64 0, .string ⟨#[]⟩, .int .i64 0, .int .i64 0]).cells = #[.int .i64 0, .int .i64 0, .int .i64 0, .string ⟨#[]⟩, .int .i64 0, .int .i64 0] := by simp [Value.cells]
  rw [h4]
  refine ⟨by simp [Builtin.zeroCells], fun v hv => ?_⟩
  simp only [Builtin.zeroCells, Array.toList_map, List.mem_map] at hv
  obtain ⟨i, _, rfl⟩ := hv
  have : i % 6 = 0 ∨ i % 6 = 1 ∨ i % 6 = 2 ∨ i % 6 = 3 ∨ i % 6 = 4 ∨ i % 6 = 5 := by omega
  show ((#[.int .i64 0, .int .i64 0, .int .i64 0, .string ⟨#[]⟩, .int .i64 0, .int .i64 0] : Array Value)[i % 6]!).oneCell' = true
  rcases this with e | e | e | e | e | e <;> rw [e] <;> rfl
theorem only_same (w : World) (g : Option Nat) : w.grownBy w g := ⟨rfl, rfl, rfl, Nat.le_refl _, fun _ _ _ => rfl⟩
theorem clear_rowC {w : World} {b G c : Nat} {L : List Sc} (h : RowC w b G c L) (i : Nat) (hi : i ≤ L.length) : ∃ w', (∀ ty, (Builtin.clear_ #[28] ty #[.slice (some ⟨G, i * 6, none⟩) (L.length - i) (c - i)]).run Tryz.prog w = .ok (.tuple #[]) w') ∧ RowC w' b G c (L.take i) ∧ w.grownBy w' (some G) := by
  rcases Nat.lt_or_ge i L.length with hlt | hge
  · obtain ⟨m, hm⟩ : ∃ m, L.length - i = m + 1 := ⟨L.length - i - 1, by omega⟩
    rcases h.2 with ⟨e, _⟩ | ⟨g, cap, cur, e, hb, hg, hnc, hcm, hcs, htk⟩
    · cases e
    · cases e
      obtain ⟨hzl, hz1⟩ := zero_scs (m + 1)
      generalize hZ : (Builtin.zeroCells (Value.agg #[.int .i64 0, .int .i64 0, .int .i64 0, .string ⟨#[]⟩, .int .i64 0, .int .i64 0]).cells (m + 1)).toList = ZZ at hzl hz1
      have hst := run_storeCells_at Tryz.prog G (i * 6) 34 ZZ 0 cur w hg (by omega) hz1
      refine ⟨w.setRow G (cur.toList.take (i * 6 + 0) ++ ZZ ++ cur.toList.drop (i * 6 + 0 + ZZ.length)).toArray, fun ty => ?_, ?_, only_row _ _ _⟩
      · rw [hm]
        simp [Builtin.clear_, run_underlying Tryz.underlying28, Tryz.zeroValue34, hZ, hst]
      · have hl : (L.take i).length = i := by rw [List.length_take]; omega
        refine ⟨by rw [flat_len scC_len], .inr ⟨G, c, _, rfl, hb, Go.setRow_heap w G cur _ _ _ hg, by omega, hcm, ?_, ?_⟩⟩
        · simp; omega
        · rw [hl, ← flatTake scC_len L i hi, ← htk, List.take_take, Nat.min_eq_left (by omega)]
          simp only [Nat.add_zero, List.append_assoc]
          rw [List.take_left' (by rw [List.length_take, Array.length_toList]; omega)]
  · obtain rfl : i = L.length := by omega
    refine ⟨w, fun ty => ?_, by rw [List.take_length]; exact h, only_same _ _⟩
    rw [Nat.sub_self]
    simp [Builtin.clear_, run_underlying Tryz.underlying28]
end Go.Proofs.YtamlbiagjipedaaGreat

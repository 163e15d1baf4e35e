/- Several texts in one: ScEq ScSort ScOps ScComp ScDel. -/
import Derived.Test.YtinijleelhbpoaaGreatBj
import Derived.Test.YtinijleelhbpoaaGreatShelfQ
import Derived.Sort.OwnSortedInts
import Derived.Laws.CopyRow
import Derived.BigQuiet
import Derived.Shelf.Abstract
/- What == and != say of two scans. -/
namespace Go.Proofs.YtinijleelhbpoaaGreat
open Go.RowKit
theorem trip_in (n : Nat) (g d g' d' : Int) (W : World) : (Op.equalIn (n + 2) 32 (.agg #[.int .i64 g, .int .i64 d]) (.agg #[.int .i64 g', .int .i64 d'])).run Tryz.prog W = .ok (g == g' && d == d') W := by
 have hS : Tryz.prog.underlying 32 = some (.struct (Tryz.prog.fieldsOf 32)) := by kernel_rfl
 have hp : Tryz.prog.stoodInHeld 32 = false := by kernel_rfl
 rw [run_equalIn_agg W (n + 1) 32 _ _ hS hp]
 simp only [Program.fieldsOf, Tryz.underlying32]
 go_simp
 by_cases h1 : g = g' <;> by_cases h2 : d = d' <;> simp [h1, h2]
def eqSc (x y : Sc) : Bool := (x.h == y.h) && ((x.a == y.a) && ((x.k == y.k) && ((x.p.toList == y.p.toList) && ((x.g == y.g) && (x.d == y.d)))))
theorem sc_in (h a k : Int) (p : ByteArray) (g d h' a' k' : Int) (p' : ByteArray) (g' d' : Int) (W : World) : (Op.equalIn 10000 34 (.agg #[.int .i64 h, .int .i64 a, .int .i64 k, .string p, .int .i64 g, .int .i64 d]) (.agg #[.int .i64 h', .int .i64 a', .int .i64 k', .string p', .int .i64 g', .int .i64 d'])).run Tryz.prog W = .ok (eqSc ⟨h, a, k, p, g, d⟩ ⟨h', a', k', p', g', d'⟩) W := by
 have hS : Tryz.prog.underlying 34 = some (.struct (Tryz.prog.fieldsOf 34)) := by kernel_rfl
 have hp : Tryz.prog.stoodInHeld 34 = false := by kernel_rfl
 have hT := fun W => trip_in 9997 g d g' d' W
 rw [show (10000 : Nat) = 9999 + 1 from rfl, run_equalIn_agg W 9999 34 _ _ hS hp]
 simp only [Program.fieldsOf, Tryz.underlying34]
 go_simp
 unfold eqSc
 by_cases e1 : h = h' <;> by_cases e2 : a = a' <;> by_cases e3 : k = k' <;> by_cases e4 : p.toList = p'.toList <;> by_cases e5 : g = g' <;> by_cases e6 : d = d' <;> simp [e1, e2, e3, e4, e5, e6]
theorem sc_eql (h a k : Int) (p : ByteArray) (g d h' a' k' : Int) (p' : ByteArray) (g' d' : Int) : ∀ W, Sem.run Tryz.prog (binOp BinOp.eql 34 (.agg #[.int .i64 h, .int .i64 a, .int .i64 k, .string p, .int .i64 g, .int .i64 d]) (.agg #[.int .i64 h', .int .i64 a', .int .i64 k', .string p', .int .i64 g', .int .i64 d'])) W = .ok (.bool (eqSc ⟨h, a, k, p, g, d⟩ ⟨h', a', k', p', g', d'⟩)) W := by
 intro W
 rw [run_eql_struct, sc_in]
 rfl
theorem sc_neq (h a k : Int) (p : ByteArray) (g d h' a' k' : Int) (p' : ByteArray) (g' d' : Int) : ∀ W, Sem.run Tryz.prog (binOp BinOp.neq 34 (.agg #[.int .i64 h, .int .i64 a, .int .i64 k, .string p, .int .i64 g, .int .i64 d]) (.agg #[.int .i64 h', .int .i64 a', .int .i64 k', .string p', .int .i64 g', .int .i64 d'])) W = .ok (.bool (!(eqSc ⟨h, a, k, p, g, d⟩ ⟨h', a', k', p', g', d'⟩))) W := by
 intro W
 rw [run_neq_struct, sc_in]
 rfl
end Go.Proofs.YtinijleelhbpoaaGreat

/- Sorting a row of scans of the call's own. -/
namespace Go.Proofs.YtinijleelhbpoaaGreat
open Go.RowKit Go.Lib Go.Sort Go.Shelf
instance : Inhabited Sc := ⟨⟨0, 0, 0, ⟨#[]⟩, 0, 0⟩⟩
theorem flatK_list {α : Type} [Inhabited α] {enc : α → List Value} {k : Nat} (hk : ∀ a, (enc a).length = k) (h0 : 0 < k) (l : List α) : (flatK enc k l.toArray).toList = l.flatMap enc := by
 apply List.ext_getElem?
 intro t
 by_cases ht : t < l.length * k
 ·have hj : t / k < l.length := Nat.div_lt_of_lt_mul (by rwa [Nat.mul_comm])
  have hi : t % k < k := Nat.mod_lt _ h0
  have e := flat_get hk l (t / k) hj (t % k) hi
  rw [Nat.div_add_mod' t k] at e
  rw [e, Array.getElem?_toList]
  have hs : t < (flatK enc k l.toArray).size := by simpa using ht
  rw [Array.getElem?_eq_getElem hs]
  have h := get_flatK enc k l.toArray t (by simpa using ht)
  rw [getElem!_pos _ t hs] at h
  rw [h]
  have h2 : l.toArray[t / k]! = l[t / k] := by simp [hj]
  rw [h2, List.getElem?_eq_getElem (by rw [hk]; exact hi), getElem!_pos _ _ (by rw [hk]; exact hi)]
 ·rw [List.getElem?_eq_none (by simp; omega), List.getElem?_eq_none (by rw [flat_len hk]; omega)]
theorem alloc3 (w : World) (o1 o2 o3 : Obj) : (((w.alloc o1).alloc o2).drew).alloc o3 = grow (w.drewN 1) #[o1, o2, o3] := by
 have h : w.heap ++ #[o1, o2, o3] = ((w.heap.push o1).push o2).push o3 := by apply Array.ext'; simp
 show _ = ({ w.drewN 1 with heap := w.heap ++ #[o1, o2, o3] } : World)
 rw [h]
 rfl
theorem holdsK_of_block {w : World} {g : Nat} {cur : Array Value} {e : TypeId} {l : List Sc} (hb : w.heap[g]? = some (.cells cur e (0, 0))) (ht : cur.toList.take (l.length * 6) = l.flatMap scC) : HoldsK scC 6 w g 0 l.toArray := by
 intro j hj
 have hj' : j < l.length * 6 := by simpa using hj
 refine ⟨?_, by simp [World.frozen?, hb]⟩
 have h1 : (cur.toList.take (l.length * 6))[j]? = (l.flatMap scC)[j]? := by rw [ht]
 rw [List.getElem?_take_of_lt hj', ← flatK_list scC_len (by omega) l, Array.getElem?_toList, Array.getElem?_toList, Array.getElem?_eq_getElem hj] at h1
 rw [cell_of_row w g (0 + j) _ _ _ hb, Nat.zero_add, h1, getElem!_pos _ j hj]
 rfl
theorem heap_sortK {w : World} {g n : Nat} {os : Array Obj} {cur : Array Value} {e : TypeId} {fr : Nat × Nat} (d : Array Value) (hb : w.heap[g]? = some (.cells cur e fr)) :
  (grow (putRow id (Sort.ahead w n) g 0 d) os).heap[g]? = some (.cells (putCells id 0 d cur) e fr) := by
 have hg : g < w.heap.size := (Array.getElem?_eq_some_iff.1 hb).1
 rw [heap_grow_old _ _ (by simpa using hg)]
 simp [putRow, mapBlock, Sort.ahead, Array.getElem?_modify, hb, onCells]
theorem grown_sortK {w : World} {g n : Nat} {os : Array Obj} (d : Array Value) : w.grownBy (grow (putRow id (Sort.ahead w n) g 0 d) os) (some g) := by
 refine ⟨rfl, rfl, rfl, by simp, fun k hk hne => ?_⟩
 rw [heap_grow_old _ _ (by simpa using hk)]
 have : g ≠ k := fun e => hne (by rw [e])
 simp [putRow, mapBlock, Sort.ahead, Array.getElem?_modify, this]
theorem take_putK (cur d : Array Value) (h : d.size ≤ cur.size) : (putCells id 0 d cur).toList.take d.size = d.toList := by
 apply List.ext_getElem?
 intro j
 by_cases hj : j < d.size
 ·rw [List.getElem?_take_of_lt hj, Array.getElem?_toList, Array.getElem?_toList]
  simp [putCells, hj, show j < cur.size by omega]
 ·rw [List.getElem?_take_eq_none (by omega), List.getElem?_eq_none (by simp; omega)]
/-- scans in ascending order -/
def sortSc (l : List Sc) : List Sc := l.mergeSort fun x y => !(ltOf cmpSc) y x
theorem sortSc_len (l : List Sc) : (sortSc l).length = l.length := List.length_mergeSort _
theorem sortSc_mem {l : List Sc} {y : Sc} : y ∈ sortSc l ↔ y ∈ l := (List.mergeSort_perm l _).mem_iff
theorem sortSc_le (l : List Sc) : (sortSc l).Pairwise fun a b => cmpSc a b ≤ 0 := by
 have hp := List.pairwise_mergeSort (le := fun x y : Sc => !(ltOf cmpSc) y x) (fun a b c h1 h2 => by
  simp only [ltOf, Bool.not_eq_true', decide_eq_false_iff_not] at *
  have a1 := cmpSc_neg a b; have a2 := cmpSc_neg b c; have a3 := cmpSc_neg a c
  have := (cmpSc_tr a b c (by omega) (by omega)).1
  omega) (fun a b => by
  simp only [ltOf, Bool.or_eq_true, Bool.not_eq_true', decide_eq_false_iff_not]
  have := cmpSc_neg a b
  omega) l
 exact hp.imp fun {a b} h => by
  simp only [ltOf, Bool.not_eq_true', decide_eq_false_iff_not] at h
  have := cmpSc_neg a b
  omega
theorem sort_scs {w : World} {base g cap : Nat} {l : List Sc} (h : OwnK 34 6 scC w base (.slice (some ⟨g, 0, none⟩) l.length cap) l) (hn : l.length ≤ 1048576) :
  Calls Tryz.prog 75 #[.slice (some ⟨g, 0, none⟩) l.length cap, .func (.func 19) #[] #[]] w fun e w' => e = .returned (.tuple #[]) ∧ OwnK 34 6 scC w' base (.slice (some ⟨g, 0, none⟩) l.length cap) (sortSc l) ∧ w.grownBy w' (some g) := by
 rcases h.2 with ⟨e, _⟩ | ⟨g', c, cur, e, hb, hblk, h1, h2, h3, h4⟩
 ·cases e
 cases e
 have hH := holdsK_of_block hblk h4
 have eg : ∀ args w, (callFunc 19 args).run Tryz.prog w = .ok (.enter 19 args) w := enters_of Tryz.func19 (by kernel_rfl) rfl
 have hC : CmpLays Tryz.prog 19 #[] scC 6 cmpSc g 0 l.toArray.size w := fun m os dk _ x y =>
  (cmp_sc_w x.h x.a x.k x.p x.g x.d y.h y.a y.k y.p y.g y.d _).mono fun e w' ⟨he, o1, o2, o3, hw⟩ => ⟨he, 1, #[o1, o2, o3], by rw [hw, alloc3]⟩
 have hS := Tryz.slices_SortFunc_total 6 (by intro w; kernel_rfl) (by intro w; kernel_rfl) scC scC_len (fun x v hv => by
  simp only [scC, List.mem_cons, List.not_mem_nil, or_false] at hv
  rcases hv with rfl | rfl | rfl | rfl | rfl | rfl <;> rfl) cmpSc swoSc 19 #[] g 0 cap l.toArray w eg hC hH (Array.getElem?_eq_some_iff.1 hblk).1 (by simp; omega) totSc
 simp only [List.size_toArray] at hS
 refine hS.mono ?_
 rintro e w' ⟨rfl, n, os, rfl⟩
 refine ⟨rfl, ?_, grown_sortK _⟩
 have hl := sortSc_len l
 have hz : (flatK scC 6 (sortSc l).toArray).size = l.length * 6 := by simp [hl]
 unfold OwnK
 rw [hl]
 refine ⟨by rw [flat_len scC_len, hl], .inr ⟨g, cap, _, rfl, hb, heap_sortK _ hblk, h1, h2, by simp [putCells, h3], ?_⟩⟩
 have ht := take_putK cur (flatK scC 6 (sortSc l).toArray) (by rw [hz, h3]; exact Nat.mul_le_mul_right 6 h1)
 rw [hz] at ht
 rw [flatK_list scC_len (by omega)] at ht
 exact ht
end Go.Proofs.YtinijleelhbpoaaGreat

/- Rows of scans: one put in its place, the end cleared; slices.Compact on a row of the call's own. Written by mk/scops.py. -/
namespace Go.Proofs.YtinijleelhbpoaaGreat
open Go.RowKit
theorem flatSet {α : Type} {enc : α → List Value} {m : Nat} (hk : ∀ a, (enc a).length = m) : ∀ (l : List α) (k : Nat) (h : k < l.length) (i : Nat) (_ : i < m) (v : Value) (y : α), enc y = (enc l[k]).set i v → (l.flatMap enc).set (k * m + i) v = (l.set k y).flatMap enc
 | [], k, h, _, _, _, _, _ => by simp at h
 | a :: l, 0, _, i, hi, v, y, he => by
  rw [List.set_cons_zero, List.flatMap_cons, List.flatMap_cons, Nat.zero_mul, Nat.zero_add, List.set_append_left _ _ (by rw [hk]; exact hi), he]
  rfl
 | a :: l, k + 1, h, i, hi, v, y, he => by
  rw [List.set_cons_succ, List.flatMap_cons, List.flatMap_cons, List.set_append_right _ _ (by rw [hk, Nat.succ_mul]; omega), hk, show (k + 1) * m + i - m = k * m + i by rw [Nat.succ_mul]; omega, flatSet hk l k (by simpa using h) i hi v y he]
theorem flatTake {α : Type} {enc : α → List Value} {m : Nat} (hk : ∀ a, (enc a).length = m) (l : List α) (i : Nat) (h : i ≤ l.length) : (l.flatMap enc).take (i * m) = (l.take i).flatMap enc := by
 have h1 : l.flatMap enc = (l.take i).flatMap enc ++ (l.drop i).flatMap enc := by rw [← List.flatMap_append, List.take_append_drop]
 rw [h1, List.take_left' (by rw [flat_len hk, List.length_take, Nat.min_eq_left h])]
abbrev RowC (w : World) (b G c : Nat) (l : List Sc) : Prop := OwnK 34 6 scC w b (.slice (some ⟨G, 0, none⟩) l.length c) l
theorem rowC_put {w : World} {b G c i : Nat} {l : List Sc} {k : Nat} (h : RowC w b G c l) (hk : k < l.length) (hi : i < 6) (v : Value) (y : Sc) (he : scC y = (scC l[k]).set i v) : RowC (w.setCell ⟨G, k * 6 + i, none⟩ v) b G c (l.set k y) := by
 unfold RowC OwnK
 rw [List.length_set, ← flatSet scC_len l k hk i hi v y he]
 exact (World.ownsRow.stored h (k * 6 + i) v).1
theorem rowC_set {w : World} {b G c : Nat} {l : List Sc} {k : Nat} (h : RowC w b G c l) (hk : k < l.length) (yh : Int) (ya : Int) (yk : Int) (yp : ByteArray) (yg : Int) (yd : Int) :
  RowC ((((((w.setCell ⟨G, k * 6, none⟩ (.int .i64 yh)).setCell ⟨G, k * 6 + 1, none⟩ (.int .i64 ya)).setCell ⟨G, k * 6 + 2, none⟩ (.int .i64 yk)).setCell ⟨G, k * 6 + 3, none⟩ (.string yp)).setCell ⟨G, k * 6 + 4, none⟩ (.int .i64 yg)).setCell ⟨G, k * 6 + 5, none⟩ (.int .i64 yd)) b G c (l.set k ⟨yh, ya, yk, yp, yg, yd⟩) := by
 have h1 := rowC_put (i := 0) h hk (by omega) (.int .i64 yh) ⟨yh, l[k].a, l[k].k, l[k].p, l[k].g, l[k].d⟩ rfl
 have h2 := rowC_put (i := 1) h1 (by simpa using hk) (by omega) (.int .i64 ya) ⟨yh, ya, l[k].k, l[k].p, l[k].g, l[k].d⟩ (by rw [List.getElem_set_self]; rfl)
 rw [List.set_set] at h2
 have h3 := rowC_put (i := 2) h2 (by simpa using hk) (by omega) (.int .i64 yk) ⟨yh, ya, yk, l[k].p, l[k].g, l[k].d⟩ (by rw [List.getElem_set_self]; rfl)
 rw [List.set_set] at h3
 have h4 := rowC_put (i := 3) h3 (by simpa using hk) (by omega) (.string yp) ⟨yh, ya, yk, yp, l[k].g, l[k].d⟩ (by rw [List.getElem_set_self]; rfl)
 rw [List.set_set] at h4
 have h5 := rowC_put (i := 4) h4 (by simpa using hk) (by omega) (.int .i64 yg) ⟨yh, ya, yk, yp, yg, l[k].d⟩ (by rw [List.getElem_set_self]; rfl)
 rw [List.set_set] at h5
 have h6 := rowC_put (i := 5) h5 (by simpa using hk) (by omega) (.int .i64 yd) ⟨yh, ya, yk, yp, yg, yd⟩ (by rw [List.getElem_set_self]; rfl)
 rw [List.set_set] at h6
 exact h6
theorem rowC_grown {w : World} {G k : Nat} (yh : Int) (ya : Int) (yk : Int) (yp : ByteArray) (yg : Int) (yd : Int) : w.grownBy ((((((w.setCell ⟨G, k * 6, none⟩ (.int .i64 yh)).setCell ⟨G, k * 6 + 1, none⟩ (.int .i64 ya)).setCell ⟨G, k * 6 + 2, none⟩ (.int .i64 yk)).setCell ⟨G, k * 6 + 3, none⟩ (.string yp)).setCell ⟨G, k * 6 + 4, none⟩ (.int .i64 yg)).setCell ⟨G, k * 6 + 5, none⟩ (.int .i64 yd)) (some G) :=
 (only_trans (only_trans (only_trans (only_trans (only_trans (only_set _ _ _ _) (only_set _ _ _ _)) (only_set _ _ _ _)) (only_set _ _ _ _)) (only_set _ _ _ _)) (only_set _ _ _ _))
theorem one_sc (t : Sc) : ∀ u ∈ scC t, u.oneCell' = true := by
 intro u hu
 simp only [scC, List.mem_cons, List.not_mem_nil, or_false] at hu
 rcases hu with rfl | rfl | rfl | rfl | rfl | rfl <;> rfl
theorem all_oneS {l : List Sc} : ∀ u ∈ l.flatMap scC, u.oneCell' = true := by
 intro u hu
 obtain ⟨t, _, h⟩ := List.mem_flatMap.1 hu
 exact one_sc t u h
theorem rowC_of {w : World} {b : Nat} {v : Value} {l : List Sc} (h : OwnK 34 6 scC w b v l) (hv : v ≠ .slice none 0 0) : ∃ G c, v = .slice (some ⟨G, 0, none⟩) l.length c ∧ RowC w b G c l := by
 have h0 := h
 rcases h.2 with ⟨e, _⟩ | ⟨g, cap, cur, e, _⟩
 ·exact absurd e hv
 ·subst e; exact ⟨g, cap, rfl, h0⟩
theorem only_row (w : World) (g : Nat) (cs : Array Value) : w.grownBy (w.setRow g cs) (some g) :=
 ⟨rfl, rfl, rfl, by simp, fun i _ hn => setRow_other w g i cs (fun e => hn (by rw [e]))⟩
theorem zero_scs (m : Nat) : ((Builtin.zeroCells (Value.agg #[.int .i64 0, .int .i64 0, .int .i64 0, .string ⟨#[]⟩, .int .i64 0, .int .i64 0]).cells m).toList).length = m * 6 ∧ ∀ v ∈ (Builtin.zeroCells (Value.agg #[.int .i64 0, .int .i64 0, .int .i64 0, .string ⟨#[]⟩, .int .i64 0, .int .i64 0]).cells m).toList, v.oneCell' = true := by
 have h4 : (Value.agg #[.int .i64 0, .int .i64 0, .int .i64 0, .string ⟨#[]⟩, .int .i64 0, .int .i64 0]).cells = #[.int .i64 0, .int .i64 0, .int .i64 0, .string ⟨#[]⟩, .int .i64 0, .int .i64 0] := by simp [Value.cells]
 rw [h4]
 refine ⟨by simp [Builtin.zeroCells], fun v hv => ?_⟩
 simp only [Builtin.zeroCells, Array.toList_map, List.mem_map] at hv
 obtain ⟨i, _, rfl⟩ := hv
 have : i % 6 = 0 ∨ i % 6 = 1 ∨ i % 6 = 2 ∨ i % 6 = 3 ∨ i % 6 = 4 ∨ i % 6 = 5 := by omega
 show ((#[.int .i64 0, .int .i64 0, .int .i64 0, .string ⟨#[]⟩, .int .i64 0, .int .i64 0] : Array Value)[i % 6]!).oneCell' = true
 rcases this with e | e | e | e | e | e <;> rw [e] <;> rfl
theorem only_same (w : World) (g : Option Nat) : w.grownBy w g := ⟨rfl, rfl, rfl, Nat.le_refl _, fun _ _ _ => rfl⟩
theorem clear_rowC {w : World} {b G c : Nat} {L : List Sc} (h : RowC w b G c L) (i : Nat) (hi : i ≤ L.length) : ∃ w', (∀ ty, (Builtin.clear_ #[28] ty #[.slice (some ⟨G, i * 6, none⟩) (L.length - i) (c - i)]).run Tryz.prog w = .ok (.tuple #[]) w') ∧ RowC w' b G c (L.take i) ∧ w.grownBy w' (some G) := by
 rcases Nat.lt_or_ge i L.length with hlt | hge
 ·obtain ⟨m, hm⟩ : ∃ m, L.length - i = m + 1 := ⟨L.length - i - 1, by omega⟩
  rcases h.2 with ⟨e, _⟩ | ⟨g, cap, cur, e, hb, hg, hnc, hcm, hcs, htk⟩
  ·cases e
  ·cases e
   obtain ⟨hzl, hz1⟩ := zero_scs (m + 1)
   generalize hZ : (Builtin.zeroCells (Value.agg #[.int .i64 0, .int .i64 0, .int .i64 0, .string ⟨#[]⟩, .int .i64 0, .int .i64 0]).cells (m + 1)).toList = ZZ at hzl hz1
   have hst := run_storeCells_at Tryz.prog G (i * 6) 34 ZZ 0 cur w hg (by omega) hz1
   refine ⟨w.setRow G (cur.toList.take (i * 6 + 0) ++ ZZ ++ cur.toList.drop (i * 6 + 0 + ZZ.length)).toArray, fun ty => ?_, ?_, only_row _ _ _⟩
   ·rw [hm]
    simp [Builtin.clear_, run_underlying Tryz.underlying28, Tryz.zeroValue34, hZ, hst]
   ·have hl : (L.take i).length = i := by rw [List.length_take]; omega
    refine ⟨by rw [flat_len scC_len], .inr ⟨G, c, _, rfl, hb, Go.setRow_heap w G cur _ _ _ hg, by omega, hcm, ?_, ?_⟩⟩
    ·simp; omega
    ·rw [hl, ← flatTake scC_len L i hi, ← htk, List.take_take, Nat.min_eq_left (by omega)]
     simp only [Nat.add_zero, List.append_assoc]
     rw [List.take_left' (by rw [List.length_take, Array.length_toList]; omega)]
 ·obtain rfl : i = L.length := by omega
  refine ⟨w, fun ty => ?_, by rw [List.take_length]; exact h, only_same _ _⟩
  rw [Nat.sub_self]
  simp [Builtin.clear_, run_underlying Tryz.underlying28]
end Go.Proofs.YtinijleelhbpoaaGreat

/- slices.Compact on a row of scans of the call's own. -/
namespace Go.Proofs.YtinijleelhbpoaaGreat
open Go.RowKit
theorem only_drew (w : World) (n : Nat) (g : Option Nat) : w.grownBy (w.drewN n) g := ⟨rfl, rfl, rfl, Nat.le_refl _, fun _ _ _ => rfl⟩
theorem rowC_drew {w : World} {b G c : Nat} {l : List Sc} (h : RowC w b G c l) (n : Nat) : RowC (w.drewN n) b G c l := h
theorem eqSc_iff {x y : Sc} : eqSc x y = true ↔ x = y := by
 unfold eqSc
 simp only [Bool.and_eq_true, beq_iff_eq]
 constructor
 ·rintro ⟨h1, h2, h3, h4, h5, h6⟩
  cases x; cases y
  simp only at h1 h2 h3 h4 h5 h6
  have h4' := toList_inj h4
  subst h1 h2 h3 h4' h5 h6
  rfl
 ·rintro rfl; exact ⟨rfl, rfl, rfl, rfl, rfl, rfl⟩
/-- place m of the list is kept: it is the first, or holds another scan than the one before -/
def keepC (l : List Sc) (m : Nat) : Bool := m == 0 || !eqSc (l.getD m default) (l.getD (m - 1) default)
/-- what is kept of the first m -/
def dedU (l : List Sc) : Nat → List Sc
 | 0 => []
 | m + 1 => dedU l m ++ (if keepC l m then [l.getD m default] else [])
def dedB (l : List Sc) : List Sc := dedU l l.length
theorem keep0 (l : List Sc) (j : Nat) (hj : j < 1) : keepC l j = true := by
 obtain rfl : j = 0 := by omega
 rfl
theorem keepC_at {l : List Sc} {m : Nat} (h : m + 1 < l.length) : keepC l (m + 1) = !eqSc l[m + 1] l[m] := by
 unfold keepC
 have e1 : l.getD (m + 1) default = l[m + 1] := by simp [List.getD, h]
 have e2 : l.getD (m + 1 - 1) default = l[m] := by simp [List.getD, show m < l.length by omega]
 rw [e1, e2]; simp
theorem dedU_yes {l : List Sc} {m : Nat} (h : m < l.length) (hk : keepC l m = true) : dedU l (m + 1) = dedU l m ++ [l[m]] := by
 show dedU l m ++ (if keepC l m then _ else _) = _
 rw [if_pos hk]; simp [List.getD, h]
theorem dedU_no {l : List Sc} {m : Nat} (hk : keepC l m = false) : dedU l (m + 1) = dedU l m := by
 show dedU l m ++ (if keepC l m then _ else _) = _
 rw [if_neg (by rw [hk]; decide), List.append_nil]
theorem dedU_all {l : List Sc} : ∀ m, m ≤ l.length → (∀ j, j < m → keepC l j = true) → dedU l m = l.take m
 | 0, _, _ => rfl
 | m + 1, h, hk => by rw [dedU_yes (by omega) (hk m (by omega)), dedU_all m (by omega) (fun j hj => hk j (by omega)), List.take_succ_eq_append_getElem]
theorem dedU_len (l : List Sc) : ∀ m, (dedU l m).length ≤ m
 | 0 => Nat.le_refl _
 | m + 1 => by
  have := dedU_len l m
  show (dedU l m ++ (if keepC l m then _ else _)).length ≤ _
  rw [List.length_append]
  split <;> simp <;> omega
theorem dedU_of {l : List Sc} (hl : l.Pairwise fun a b => cmpSc a b ≤ 0) : ∀ m, m ≤ l.length → (∀ x, x ∈ dedU l m ↔ ∃ j, ∃ h : j < l.length, j < m ∧ l[j] = x) ∧ UpSc (dedU l m)
 | 0, _ => by
  refine ⟨fun x => ⟨fun h => absurd h List.not_mem_nil, fun ⟨j, _, hj, _⟩ => by omega⟩, List.Pairwise.nil⟩
 | m + 1, hm => by
  obtain ⟨h1, h2⟩ := dedU_of hl m (by omega)
  have hmem : (∃ j, ∃ h : j < l.length, j < m + 1 ∧ l[j] = l[m]) := ⟨m, by omega, by omega, rfl⟩
  cases hk : keepC l m with
  | true =>
   rw [dedU_yes (by omega) hk]
   refine ⟨fun x => ?_, List.pairwise_append.2 ⟨h2, List.pairwise_singleton _ _, fun a ha b hb => ?_⟩⟩
   ·rw [List.mem_append, h1, List.mem_singleton]
    constructor
    ·rintro (⟨j, hjl, hj, e⟩ | rfl)
     ·exact ⟨j, hjl, by omega, e⟩
     ·exact hmem
    ·rintro ⟨j, hjl, hj, e⟩
     by_cases hjm : j = m
     ·subst hjm; exact .inr e.symm
     ·exact .inl ⟨j, hjl, by omega, e⟩
   ·rw [List.mem_singleton] at hb
    subst hb
    obtain ⟨j, hjl, hj, rfl⟩ := (h1 a).1 ha
    obtain ⟨m', rfl⟩ : ∃ m', m = m' + 1 := ⟨m - 1, by omega⟩
    rw [keepC_at (by omega)] at hk
    have hne : l[m' + 1] ≠ l[m'] := fun e => by rw [eqSc_iff.2 e] at hk; cases hk
    have c1 := List.pairwise_iff_getElem.1 hl m' (m' + 1) (by omega) (by omega) (by omega)
    have c2 : cmpSc l[m'] l[m' + 1] ≠ 0 := fun e => hne (cmpSc_zero e).symm
    by_cases hjm : j = m'
    ·subst hjm; omega
    ·have c3 := List.pairwise_iff_getElem.1 hl j m' (by omega) (by omega) (by omega)
     have c4 := cmpSc_tr _ _ _ c3 c1
     have c5 : cmpSc l[j] l[m' + 1] ≠ 0 := fun e => c2 (c4.2 e).2
     omega
  | false =>
   rw [dedU_no hk]
   refine ⟨fun x => ?_, h2⟩
   rw [h1]
   constructor
   ·rintro ⟨j, hjl, hj, e⟩; exact ⟨j, hjl, by omega, e⟩
   ·rintro ⟨j, hjl, hj, e⟩
    by_cases hjm : j = m
    ·subst hjm
     have hj0 : j ≠ 0 := fun e0 => by subst e0; simp [keepC] at hk
     obtain ⟨m', rfl⟩ : ∃ m', j = m' + 1 := ⟨j - 1, by omega⟩
     rw [keepC_at (by omega)] at hk
     have he : l[m' + 1] = l[m'] := by
      apply eqSc_iff.1
      cases h : eqSc l[m' + 1] l[m'] with
      | true => rfl
      | false => rw [h] at hk; cases hk
     exact ⟨m', by omega, by omega, by rw [← he]; exact e⟩
    ·exact ⟨j, hjl, by omega, e⟩
/-- the valid scans of a list in strictly ascending order -/
theorem ded_sort (l : List Sc) : UpSc (dedB (sortSc l)) ∧ ∀ y, y ∈ dedB (sortSc l) ↔ y ∈ l := by
 obtain ⟨h1, h2⟩ := dedU_of (sortSc_le l) (sortSc l).length (Nat.le_refl _)
 refine ⟨h2, fun y => ?_⟩
 unfold dedB
 rw [h1, ← sortSc_mem (l := l)]
 constructor
 ·rintro ⟨j, hj, _, rfl⟩; exact List.getElem_mem hj
 ·intro h
  obtain ⟨j, hj, e⟩ := List.getElem_of_mem h
  exact ⟨j, hj, hj, e⟩
/-- how the row stands in the second loop: k kept of the first j; from k on as it was -/
structure Comp (l L : List Sc) (k j : Nat) : Prop where
 len : L.length = l.length
 lt : k < j
 le : j ≤ l.length
 kept : L.take k = dedU l j
 rest : L.drop k = l.drop k
theorem Comp.get {l L : List Sc} {k j : Nat} (h : Comp l L k j) {i : Nat} (hi : k ≤ i) (hl : i < l.length) : ∃ h' : i < L.length, L[i] = l[i] := by
 refine ⟨by rw [h.len]; exact hl, ?_⟩
 have h1 := congrArg (fun q => q[i - k]?) h.rest
 simp only [List.getElem?_drop, show k + (i - k) = i by omega] at h1
 rw [List.getElem?_eq_getElem (by rw [h.len]; exact hl), List.getElem?_eq_getElem hl] at h1
 exact Option.some.inj h1
theorem Comp.skip {l L : List Sc} {k j : Nat} (h : Comp l L k j) (hj : j < l.length) (hk : keepC l j = false) : Comp l L k (j + 1) :=
 ⟨h.len, by have := h.lt; omega, hj, by rw [h.kept, dedU_no hk], h.rest⟩
theorem Comp.keep {l L : List Sc} {k j : Nat} (h : Comp l L k j) (hj : j < l.length) (hk : keepC l j = true) : Comp l (L.set k l[j]) (k + 1) (j + 1) := by
 have hlt := h.lt; have hl := h.len
 refine ⟨by rw [List.length_set, hl], by omega, hj, ?_, ?_⟩
 ·rw [dedU_yes hj hk, ← h.kept, List.take_succ_eq_append_getElem (by rw [List.length_set]; omega), List.take_set_of_le (Nat.le_refl k), List.getElem_set_self]
 ·rw [List.drop_set_of_lt (by omega)]
  have h1 := congrArg (List.drop 1) h.rest
  rwa [List.drop_drop, List.drop_drop] at h1
theorem Comp.done {l L : List Sc} {k : Nat} (h : Comp l L k l.length) : L.take k = dedB l ∧ (dedB l).length = k ∧ k ≤ L.length := by
 have h1 : L.take k = dedB l := h.kept
 exact ⟨h1, by rw [← h1, List.length_take, h.len]; have := h.lt; omega, by rw [h.len]; have := h.lt; omega⟩
set_option maxRecDepth 100000 in
set_option maxHeartbeats 8000000 in
theorem comp_sc (b G c : Nat) (l : List Sc) (w : World) (hr : RowC w b G c l) (hn : l.length ≤ 1048576) :
  Calls Tryz.prog 76 #[.slice (some ⟨G, 0, none⟩) l.length c] w fun e w' => e = .returned (.slice (some ⟨G, 0, none⟩) (dedB l).length c) ∧ RowC w' b G c (dedB l) ∧ w.grownBy w' (some G) := by
 have hc : l.length ≤ c := by
  rcases hr.2 with ⟨e, _⟩ | ⟨g, cap, cur, e, hb, hg, hnc, _⟩
  ·cases e
  ·cases e; exact hnc
 have hcm : c ≤ 9223372036854775807 := by
  rcases hr.2 with ⟨e, _⟩ | ⟨g, cap, cur, e, hb, hg, hnc, hm, _⟩
  ·cases e
  ·cases e; unfold maxLen at hm; omega
 have HR := Lib.hid hr; clear hr
 by_cases h2 : l.length < 2
 ·have hd : dedB l = l := by
   unfold dedB
   rw [dedU_all l.length (Nat.le_refl _) (fun j hj => keep0 l j (by omega)), List.take_length]
  have HD := Lib.hid hd; clear hd
  have h2' : (l.length : Int) < 2 := by omega
  go_enter Tryz.func76, Tryz.ntmps76
  go_wp2
  go_ret
  rw [HD.out]
  exact ⟨rfl, HR.out, only_same _ _⟩
 have h2' : ¬ (l.length : Int) < 2 := by omega
 go_enter Tryz.func76, Tryz.ntmps76
 go_wp2
 go_loopw [3] (fun i wr => ∃ k : Nat, i = .int .i64 k ∧ 1 ≤ k ∧ k ≤ l.length ∧ Hid (∀ j, j < k → keepC l j = true) ∧ Hid (RowC wr b G c l) ∧ w.grownBy wr (some G)) (fun i _ => l.length - (intOf i).toNat)
 case atStart => exact ⟨1, rfl, Nat.le_refl _, by omega, Lib.hid (keep0 l), HR, only_same _ _⟩
 case round =>
  obtain ⟨k, rfl, hk1, hkn, hkp, hrw, hgr⟩ := hrel
  by_cases hlt : (k : Int) < (l.length : Int)
  ·have hj : k < l.length := by omega
   obtain ⟨m, hm⟩ : ∃ m, m + 1 = k := ⟨k - 1, by omega⟩
   have hml : m < l.length := by omega
   obtain ⟨g0, e0, hg0, c0, c1, c2, c3, c4, c5⟩ := (ins_row hrw.out scC_len rfl).sc k hj
   obtain ⟨g1, e1, hg1, d0, d1, d2, d3, d4, d5⟩ := (ins_row hrw.out scC_len rfl).sc m hml
   cases e0; cases e1
   have hki : (k : Int) - 1 = (m : Int) := by omega
   have hmn : (m : Int) < (l.length : Int) := by omega
   have HK := Lib.hid (show keepC l k = !eqSc l[k] l[m] from by subst hm; exact keepC_at hj)
   have HY := Lib.hid (show ∀ h : k < l.length, Comp l l k (k + 1) → True from fun _ _ => trivial)
   generalize l[k] = y at c0 c1 c2 c3 c4 c5 HK
   generalize l[m] = x at d0 d1 d2 d3 d4 d5 HK
   have hEQ := sc_eql y.h y.a y.k y.p y.g y.d x.h x.a x.k x.p x.g x.d
   rw [show eqSc ⟨y.h, y.a, y.k, y.p, y.g, y.d⟩ ⟨x.h, x.a, x.k, x.p, x.g, x.d⟩ = eqSc y x from rfl] at hEQ
   clear HY hg1
   cases hq : eqSc y x with
   | true =>
    rw [hq] at hEQ HK
    clear hq
    have HGR := Lib.hid hgr; clear hgr
    have HST := Lib.hid (show Comp l l k (k + 1) from ⟨rfl, by omega, by omega, by rw [dedU_no HK.out, dedU_all k (by omega) hkp.out], rfl⟩)
    clear HK hkp
    have hkc : (k : Int) ≤ (c : Int) := by omega
    have hkl : (k : Int) ≤ (l.length : Int) := by omega
    go_wp2_with fail
    go_quiet (fail)
    clear c0 c1 c2 c3 c4 c5 d0 d1 d2 d3 d4 d5 hEQ
    have HRQ := Lib.hid (rowC_drew hrw.out nq)
    have HGQ := Lib.hid (only_trans HGR.out (only_drew _ nq _))
    clear hrw HGR hg0
    generalize wr.drewN nq = W0 at *
    obtain ⟨N2, hN2⟩ : ∃ N2, l.length - k = N2 := ⟨_, rfl⟩
    go_wp2
    go_loopw [3, 5] (fun i jv wr => ∃ kk j2 : Nat, i = .int .i64 kk ∧ jv = .int .i64 j2 ∧ 1 ≤ j2 ∧ j2 ≤ N2 ∧ ∃ L, Hid (Comp l L kk (k + j2)) ∧ Hid (RowC wr b G c L) ∧ Hid (w.grownBy wr (some G))) (fun _ jv _ => N2 - (intOf jv).toNat)
    case atStart => exact ⟨k, 1, rfl, rfl, by omega, by omega, l, HST, HRQ, HGQ⟩
    case round =>
     obtain ⟨kk, j2, rfl, rfl, hj1, hjn, L, hst, hrw, hgr⟩ := hrel
     have hLn : L.length = l.length := hst.out.len
     have hkk := hst.out.lt
     by_cases hlt2 : (j2 : Int) < (N2 : Int)
     ·obtain ⟨n, hn2⟩ : ∃ n, n + 1 = j2 := ⟨j2 - 1, by omega⟩
      have hjl : k + j2 < l.length := by omega
      obtain ⟨hj', hge⟩ := hst.out.get (i := k + j2) (by omega) hjl
      obtain ⟨hm', hgm⟩ := hst.out.get (i := k + n) (by omega) (by omega)
      have hA := ins_row hrw.out scC_len rfl
      obtain ⟨g0, e0, hg0, c0, c1, c2, c3, c4, c5⟩ := hA.sc (k + j2) hj'
      obtain ⟨g1, e1, hg1, d0, d1, d2, d3, d4, d5⟩ := hA.sc (k + n) hm'
      obtain ⟨g2, e2, hg2, f0, f1, f2, f3, f4, f5⟩ := hA.sc kk (by omega)
      cases e0; cases e1; cases e2
      rw [hge] at c0 c1 c2 c3 c4 c5
      rw [hgm] at d0 d1 d2 d3 d4 d5
      rw [show (k + j2) * 6 = k * 6 + j2 * 6 by omega] at c0 c1 c2 c3 c4 c5
      rw [show (k + n) * 6 = k * 6 + n * 6 by omega] at d0 d1 d2 d3 d4 d5
      have hki2 : (j2 : Int) - 1 = (n : Int) := by omega
      have hnn : (n : Int) < (N2 : Int) := by omega
      have HK := Lib.hid (show keepC l (k + j2) = !eqSc l[k + j2] l[k + n] from by
       have h := keepC_at (l := l) (m := k + n) (by omega)
       have e : k + n + 1 = k + j2 := by omega
       simp only [e] at h; exact h)
      have HN := Lib.hid (fun h => hst.out.keep hjl h)
      have HY := Lib.hid (fun h => hst.out.skip hjl h)
      have hkL : kk < L.length := by omega
      have hkI : (kk : Int) < (l.length : Int) := by omega
      clear hA hg1 hg2 hst hge hgm
      generalize l[k + j2] = yy at c0 c1 c2 c3 c4 c5 HK HN
      generalize l[k + n] = xx at d0 d1 d2 d3 d4 d5 HK
      generalize L[kk] = zz at f0 f1 f2 f3 f4 f5
      have hNE := sc_neq yy.h yy.a yy.k yy.p yy.g yy.d xx.h xx.a xx.k xx.p xx.g xx.d
      rw [show eqSc ⟨yy.h, yy.a, yy.k, yy.p, yy.g, yy.d⟩ ⟨xx.h, xx.a, xx.k, xx.p, xx.g, xx.d⟩ = eqSc yy xx from rfl, ← HK.out] at hNE
      have hfr : ∀ o, wr.frozen? ⟨G, o, none⟩ = false := fun o => World.ownsRow.frozenAt hrw.out o
      cases hq : keepC l (k + j2) with
      | true =>
       rw [hq] at hNE
       have HT := Lib.hid (HN.out hq)
       clear HK HN HY hq
       go_wp2_with fail
       go_quiet (fail)
       go_wp2
       go_roundw
       case rel => exact ⟨kk + 1, j2 + 1, by go_num, by go_num, by omega, by omega, L.set kk yy, HT, Lib.hid (rowC_set (rowC_drew hrw.out nq) hkL yy.h yy.a yy.k yy.p yy.g yy.d), Lib.hid (only_trans hgr.out (only_trans (only_drew _ nq _) (rowC_grown yy.h yy.a yy.k yy.p yy.g yy.d)))⟩
       case measure => simp [intOf]; omega
      | false =>
       rw [hq] at hNE
       have HT := Lib.hid (HY.out hq)
       clear HK HN HY hq
       go_wp2_with fail
       go_quiet (fail)
       go_wp2
       go_roundw
       case rel => exact ⟨kk, j2 + 1, rfl, by go_num, by omega, by omega, L, HT, Lib.hid (rowC_drew hrw.out _), Lib.hid (only_trans hgr.out (only_drew _ _ _))⟩
       case measure => simp [intOf]; omega
     ·obtain rfl : j2 = N2 := by omega
      rw [show k + j2 = l.length by omega] at hst
      obtain ⟨hd1, hd2, hd3⟩ := hst.out.done
      obtain ⟨w', hcl, hr', hg'⟩ := clear_rowC hrw.out kk hd3
      rw [hd1] at hr'
      rw [hLn] at hcl
      have HRZ := Lib.hid hr'; have HGZ := Lib.hid (only_trans hgr.out hg')
      clear hr' hg' hgr
      have hkc2 : (kk : Int) ≤ (c : Int) := by omega
      have hkn2 : (kk : Int) ≤ (l.length : Int) := by omega
      go_wp2
      go_ret
      exact ⟨by first | rfl | (rw [hd2]; rfl), HRZ.out, HGZ.out⟩
   | false =>
    rw [hq] at hEQ HK
    clear hq
    have HGR := Lib.hid hgr; clear hgr
    have HKP := Lib.hid (show ∀ j, j < k + 1 → keepC l j = true from fun j hjk => by
     by_cases e : j = k
     ·subst e; exact HK.out
     ·exact hkp.out j (by omega))
    clear HK hkp
    go_wp2_with fail
    go_quiet (fail)
    go_wp2
    go_roundw
    case rel => exact ⟨k + 1, by go_num, by omega, by omega, HKP, Lib.hid (rowC_drew hrw.out _), only_trans HGR.out (only_drew _ _ _)⟩
    case measure => simp [intOf]; omega
  ·obtain rfl : k = l.length := by omega
   have HD := Lib.hid (show dedB l = l from by
    unfold dedB
    rw [dedU_all l.length (Nat.le_refl _) hkp.out, List.take_length])
   have HGR := Lib.hid hgr; clear hgr
   go_wp2
   go_ret
   rw [HD.out]
   exact ⟨rfl, hrw.out, HGR.out⟩
end Go.Proofs.YtinijleelhbpoaaGreat

/- slices.IndexFunc and slices.DeleteFunc on a row of scans. Written by mk/scdel.py. -/
namespace Go.Proofs.YtinijleelhbpoaaGreat
open Go.RowKit
theorem filtS_yes {q : Sc → Bool} {bs : List Sc} {j : Nat} (hj : j < bs.length) (h : q bs[j] = true) : (bs.take (j + 1)).filter q = (bs.take j).filter q ++ [bs[j]] := by
 rw [List.take_succ_eq_append_getElem hj, List.filter_append]
 simp [h]
theorem filtS_no {q : Sc → Bool} {bs : List Sc} {j : Nat} (hj : j < bs.length) (h : q bs[j] = false) : (bs.take (j + 1)).filter q = (bs.take j).filter q := by
 rw [List.take_succ_eq_append_getElem hj, List.filter_append]
 simp [h]
/-- what a closure says of some scans, in every world of a class -/
def SaysC (gf : Nat) (lb : Array Value) (p : Sc → Bool) (bs : List Sc) (K : World → Prop) : Prop :=
 ∀ (W : World) (y : Sc), y ∈ bs → K W → Calls Tryz.prog gf (#[.agg #[.int .i64 y.h, .int .i64 y.a, .int .i64 y.k, .string y.p, .int .i64 y.g, .int .i64 y.d]] ++ lb) W fun e w' => e = .returned (.bool (p y)) ∧ Below W.heap.size W w'
/-- where the first one is, -1 if there is none -/
def idxC (p : Sc → Bool) (bs : List Sc) : Int := match bs.findIdx? p with
 | none => -1
 | some k => k
theorem idxC_hit {p : Sc → Bool} {bs : List Sc} {k : Nat} (hk : k < bs.length) (hp : p bs[k] = true) (hn : ∀ j (_ : j < bs.length), j < k → p bs[j] = false) : idxC p bs = k := by
 unfold idxC
 rw [show bs.findIdx? p = some k from by rw [List.findIdx?_eq_some_iff_getElem]; exact ⟨hk, hp, fun j hj => by rw [hn j (by omega) hj]; simp⟩]
theorem idxC_miss {p : Sc → Bool} {bs : List Sc} (hn : ∀ j (_ : j < bs.length), p bs[j] = false) : idxC p bs = -1 := by
 unfold idxC
 rw [show bs.findIdx? p = none from by
  rw [List.findIdx?_eq_none_iff]
  intro x hx
  obtain ⟨j, hj, rfl⟩ := List.getElem_of_mem hx
  exact hn j hj]
set_option maxRecDepth 100000 in
set_option maxHeartbeats 2000000 in
theorem idxf_sc (p : Sc → Bool) (gf : Nat) (lb : Array Value) (K : World → Prop) (hK : ∀ W W', K W → Below W.heap.size W W' → K W') (eg : ∀ args w, (callFunc gf args).run Tryz.prog w = .ok (.enter gf args) w) (A : Option Addr) (ca : Nat) (l : List Sc) (w : World) (hA : InK 6 scC w A l) (hn : l.length ≤ 1048576) (hs : SaysC gf lb p l K) (hw : K w) :
  Calls Tryz.prog 147 #[.slice A l.length ca, .func (.func gf) #[] lb] w fun e w' => e = .returned (.int .i64 (idxC p l)) ∧ (∀ k : Nat, idxC p l = k → k < l.length ∧ (∃ h : k < l.length, p l[k] = true) ∧ ∀ j (_ : j < l.length), j < k → p l[j] = false) ∧ (idxC p l = -1 → ∀ j (_ : j < l.length), p l[j] = false) ∧ Below w.heap.size w w' := by
 have HA := Lib.hid hA; clear hA
 have HS := Lib.hid hs; clear hs
 have HK := Lib.hid hK; have HW := Lib.hid hw; clear hK hw
 go_enter Tryz.func147, Tryz.ntmps147
 go_wp2
 go_loopw [8] (fun i wr => ∃ k : Nat, k ≤ l.length ∧ i = .int .i64 k ∧ Hid (∀ j (_ : j < l.length), j < k → p l[j] = false) ∧ Below w.heap.size w wr) (fun i _ => l.length - (intOf i).toNat)
 case atStart => exact ⟨0, Nat.zero_le _, rfl, Lib.hid (fun j _ h => by omega), Below.refl _ _⟩
 case round =>
  obtain ⟨k, hk, rfl, hd, hb⟩ := hrel
  by_cases hlt : (k : Int) < (l.length : Int)
  ·have hkn : k < l.length := by omega
   obtain ⟨g, rfl, hg, c0, c1, c2, c3, c4, c5⟩ := (HA.out.below hb).sc k hkn
   have HC := Lib.hid (HS.out wr l[k] (List.getElem_mem hkn) (HK.out w wr HW.out hb))
   have hbz := hb.size
   have HP := Lib.hid (fun h => idxC_hit hkn h hd.out)
   have HP2 := Lib.hid (fun (h : p l[k] = true) => (⟨hkn, h⟩ : ∃ h : k < l.length, p l[k] = true))
   have HQ := Lib.hid (fun (h : p l[k] = false) j (hj : j < l.length) (hjk : j < k + 1) => show p l[j] = false by
    by_cases e : j = k
    ·subst e; exact h
    ·exact hd.out j hj (by omega))
   have HD := Lib.hid hd.out
   clear hd
   generalize l[k] = y at c0 c1 c2 c3 c4 c5 HC HP HQ HP2
   cases hq : p y with
   | true =>
    rw [hq] at HC
    have HV := Lib.hid (HP.out hq)
    have HV2 := Lib.hid (HP2.out hq)
    clear HP HQ hq HP2
    go_wp2_with (go_at_fn gf; refine HC.out.mono ?_; rintro e w' ⟨rfl, hb'⟩)
    go_ret
    exact ⟨by rw [HV.out]; rfl, fun k' hk' => by
     rw [HV.out] at hk'
     obtain rfl : k = k' := by omega
     exact ⟨hkn, HV2.out, HD.out⟩, fun h => by rw [HV.out] at h; omega, hb.trans (hb'.mono hbz)⟩
   | false =>
    rw [hq] at HC
    have HV := Lib.hid (HQ.out hq)
    clear HP HQ hq HP2 HD
    go_wp2_with (go_at_fn gf; refine HC.out.mono ?_; rintro e w' ⟨rfl, hb'⟩)
    go_roundw
    case rel => exact ⟨k + 1, by omega, by go_num, HV, hb.trans (hb'.mono hbz)⟩
    case measure => simp [intOf]; omega
  ·obtain rfl : k = l.length := by omega
   have HV := Lib.hid (idxC_miss (fun j hj => hd.out j hj hj))
   have HD := Lib.hid (fun j (hj : j < l.length) => hd.out j hj hj)
   clear hd
   go_wp2
   go_ret
   exact ⟨by rw [HV.out]; rfl, fun k' hk' => by rw [HV.out] at hk'; omega, fun _ => HD.out, hb⟩
theorem delS_no {p : Sc → Bool} {bs : List Sc} (h : ∀ j (_ : j < bs.length), p bs[j] = false) : bs.filter (fun y => !p y) = bs := by
 rw [List.filter_eq_self]
 intro y hy
 obtain ⟨j, hj, rfl⟩ := List.getElem_of_mem hy
 simp [h j hj]
theorem delS_first {p : Sc → Bool} {bs : List Sc} {k : Nat} (hk : k < bs.length) (hp : p bs[k] = true) (h : ∀ j (_ : j < bs.length), j < k → p bs[j] = false) : (bs.take (k + 1)).filter (fun y => !p y) = bs.take k := by
 rw [filtS_no hk (by simp [hp]), List.filter_eq_self]
 intro y hy
 obtain ⟨j, hj, rfl⟩ := List.getElem_of_mem hy
 have hj' : j < k := by rw [List.length_take] at hj; omega
 simp [h j (by omega) hj']
/-- how a row stands while what a closure says is struck from it: k kept of the first j -/
structure StruckS (p : Sc → Bool) (bs L : List Sc) (k j : Nat) : Prop where
 len : L.length = bs.length
 lt : k < j
 le : j ≤ bs.length
 kept : L.take k = (bs.take j).filter (fun y => !p y)
 rest : L.drop j = bs.drop j
theorem StruckS.get {p : Sc → Bool} {bs L : List Sc} {k j : Nat} (h : StruckS p bs L k j) (hj : j < bs.length) : ∃ h' : j < L.length, L[j] = bs[j] := by
 refine ⟨by rw [h.len]; exact hj, ?_⟩
 have h1 := congrArg (fun l => l[0]?) h.rest
 simp only [List.getElem?_drop, Nat.add_zero] at h1
 rw [List.getElem?_eq_getElem (by rw [h.len]; exact hj), List.getElem?_eq_getElem hj] at h1
 exact Option.some.inj h1
theorem StruckS.skip {p : Sc → Bool} {bs L : List Sc} {k j : Nat} (h : StruckS p bs L k j) (hj : j < bs.length) (hp : p bs[j] = true) : StruckS p bs L k (j + 1) :=
 ⟨h.len, by have := h.lt; omega, hj, by rw [h.kept, filtS_no hj (by simp [hp])], by
  have h1 := congrArg (List.drop 1) h.rest
  rwa [List.drop_drop, List.drop_drop] at h1⟩
theorem StruckS.keep {p : Sc → Bool} {bs L : List Sc} {k j : Nat} (h : StruckS p bs L k j) (hj : j < bs.length) (hp : p bs[j] = false) : StruckS p bs (L.set k bs[j]) (k + 1) (j + 1) := by
 have hlt := h.lt
 have hl := h.len
 refine ⟨by rw [List.length_set, hl], by omega, hj, ?_, ?_⟩
 ·rw [filtS_yes hj (by simp [hp]), ← h.kept, List.take_succ_eq_append_getElem (by rw [List.length_set]; omega), List.take_set_of_le (Nat.le_refl k), List.getElem_set_self]
 ·rw [List.drop_set_of_lt (by omega)]
  have h1 := congrArg (List.drop 1) h.rest
  rwa [List.drop_drop, List.drop_drop] at h1
theorem StruckS.done {p : Sc → Bool} {bs L : List Sc} {k : Nat} (h : StruckS p bs L k bs.length) : L.take k = bs.filter (fun y => !p y) ∧ (bs.filter (fun y => !p y)).length = k ∧ k ≤ L.length := by
 have h1 := h.kept
 rw [List.take_length] at h1
 exact ⟨h1, by rw [← h1, List.length_take, h.len]; have := h.lt; omega, by rw [h.len]; have := h.lt; omega⟩
set_option maxRecDepth 100000 in
set_option maxHeartbeats 4000000 in
theorem del_sc (p : Sc → Bool) (gf : Nat) (lb : Array Value) (b G c : Nat) (K : World → Prop) (hK : ∀ W W', K W → W.grownBy W' (some G) → K W') (eg : ∀ args w, (callFunc gf args).run Tryz.prog w = .ok (.enter gf args) w) (bs : List Sc) (w : World) (hr : RowC w b G c bs) (hn : bs.length ≤ 1048576) (hs : SaysC gf lb p bs K) (hw : K w) :
  Calls Tryz.prog 82 #[.slice (some ⟨G, 0, none⟩) bs.length c, .func (.func gf) #[] lb] w fun e w' => e = .returned (.slice (some ⟨G, 0, none⟩) (bs.filter fun y => !p y).length c) ∧ RowC w' b G c (bs.filter fun y => !p y) ∧ w.grownBy w' (some G) := by
 have hK1 : ∀ W W', K W → Below W.heap.size W W' → K W' := fun W W' h hb => hK W W' h (only_of_below hb G)
 have HIF := Lib.hid (fun W hA hW => idxf_sc p gf lb K hK1 eg (some ⟨G, 0, none⟩) c bs W hA hn hs hW)
 have HR := Lib.hid hr; clear hr
 have HS := Lib.hid hs; clear hs
 have HK := Lib.hid hK; have HW := Lib.hid hw; clear hK hw hK1
 have hc : bs.length ≤ c := by
  rcases HR.out.2 with ⟨e, _⟩ | ⟨g, cap, cur, e, hb, hg, hnc, _⟩
  ·cases e
  ·cases e; exact hnc
 go_enter Tryz.func82, Tryz.ntmps82
 go_wp2_with fail
 refine (HIF.out w (ins_row HR.out scC_len rfl) HW.out).mono ?_; rintro e w1 ⟨rfl, hhit, hmiss, hb1⟩
 have HR1 := Lib.hid (OwnK.below HR.out hb1)
 have HW1 := Lib.hid (HK.out w w1 HW.out (only_of_below hb1 G))
 have HO1 := Lib.hid (only_of_below hb1 G)
 clear hb1 HIF
 by_cases hm : idxC p bs = -1
 ·have HF := Lib.hid (delS_no (hmiss hm))
  clear hhit hmiss
  rw [hm]
  go_wp2
  go_ret
  rw [HF.out]
  exact ⟨rfl, HR1.out, HO1.out⟩
 ·obtain ⟨k0, hk0⟩ : ∃ k0 : Nat, idxC p bs = k0 := by
   unfold idxC at hm ⊢
   cases h : bs.findIdx? p with
   | none => rw [h] at hm; exact absurd rfl hm
   | some k => exact ⟨k, rfl⟩
  obtain ⟨hkn, ⟨_, hpk⟩, hbef⟩ := hhit k0 hk0
  have HS0 := Lib.hid (show StruckS p bs bs k0 (k0 + 1) from ⟨rfl, by omega, by omega, (delS_first hkn hpk hbef).symm, rfl⟩)
  clear hhit hmiss hpk hbef hm
  rw [hk0]
  clear hk0
  go_wp2
  rw [show ((k0 : Int) == -1) = false from by rw [beq_eq_false_iff_ne]; omega]
  go_loopw [5, 6] (fun i j wr => ∃ k jj : Nat, i = .int .i64 k ∧ j = .int .i64 jj ∧ k < jj ∧ jj ≤ bs.length ∧ ∃ L, Hid (StruckS p bs L k jj) ∧ Hid (RowC wr b G c L) ∧ Hid (K wr) ∧ w.grownBy wr (some G)) (fun i j _ => bs.length - (intOf j).toNat)
  case atStart => exact ⟨k0, k0 + 1, rfl, by go_num, by omega, by omega, bs, HS0, HR1, HW1, HO1.out⟩
  case round =>
   obtain ⟨k, jj, rfl, rfl, hkj, hjn, L, hst, hrw, hkw, hgr⟩ := hrel
   have hLn : L.length = bs.length := hst.out.len
   by_cases hlt : (jj : Int) < (bs.length : Int)
   ·have hj : jj < bs.length := by omega
    obtain ⟨hj', hge⟩ := hst.out.get hj
    have hA := ins_row hrw.out scC_len rfl
    obtain ⟨g0, e0, hg0, c0, c1, c2, c3, c4, c5⟩ := hA.sc jj hj'
    obtain ⟨g1, e1, hg1, d0, d1, d2, d3, d4, d5⟩ := hA.sc k (by omega)
    cases e0; cases e1
    rw [hge] at c0 c1 c2 c3 c4 c5
    have HC := Lib.hid (fun V => HS.out (wr.alloc V) bs[jj] (List.getElem_mem hj) (HK.out _ _ hkw.out (only_of_below ((Below.refl _ _).alloc (Nat.le_refl _) V) G)))
    have HY := Lib.hid (fun h => hst.out.skip hj h)
    have HN := Lib.hid (fun h => hst.out.keep hj h)
    have hkL : k < L.length := by omega
    clear hA hg1 hst hge
    generalize bs[jj] = y at c0 c1 c2 c3 c4 c5 HC HY HN
    have HGR := Lib.hid hgr; clear hgr
    cases hq : p y with
    | true =>
     rw [hq] at HC
     have HT := Lib.hid (HY.out hq)
     clear HY HN hq d0 d1 d2 d3 d4 d5
     go_wp2_with (go_at_fn gf; refine (HC.out _).mono ?_; rintro e w' ⟨rfl, hb1⟩)
     have hb' : Below wr.heap.size wr w' := ((Below.refl _ _).alloc (Nat.le_refl _) _).trans (hb1.mono (by simp))
     clear hb1
     go_roundw
     case rel => exact ⟨k, jj + 1, rfl, by go_num, by omega, by omega, L, HT, Lib.hid (OwnK.below hrw.out hb'), Lib.hid (HK.out _ _ hkw.out (only_of_below hb' G)), only_trans HGR.out (only_of_below hb' G)⟩
     case measure => simp [intOf]; omega
    | false =>
     rw [hq] at HC
     have HT := Lib.hid (HN.out hq)
     clear HY HN hq
     go_wp2_with fail
     go_at_fn gf
     refine (HC.out _).mono ?_; rintro e w' ⟨rfl, hb1⟩
     have b0' : w'.cell? ⟨wr.heap.size, 0, none⟩ = some (.int .i64 y.h) := (hb1.cell (p := ⟨wr.heap.size, 0, none⟩) (by simp)).trans (by simp)
     have b1' : w'.cell? ⟨wr.heap.size, 1, none⟩ = some (.int .i64 y.a) := (hb1.cell (p := ⟨wr.heap.size, 1, none⟩) (by simp)).trans (by simp)
     have b2' : w'.cell? ⟨wr.heap.size, 2, none⟩ = some (.int .i64 y.k) := (hb1.cell (p := ⟨wr.heap.size, 2, none⟩) (by simp)).trans (by simp)
     have b3' : w'.cell? ⟨wr.heap.size, 3, none⟩ = some (.string y.p) := (hb1.cell (p := ⟨wr.heap.size, 3, none⟩) (by simp)).trans (by simp)
     have b4' : w'.cell? ⟨wr.heap.size, 4, none⟩ = some (.int .i64 y.g) := (hb1.cell (p := ⟨wr.heap.size, 4, none⟩) (by simp)).trans (by simp)
     have b5' : w'.cell? ⟨wr.heap.size, 5, none⟩ = some (.int .i64 y.d) := (hb1.cell (p := ⟨wr.heap.size, 5, none⟩) (by simp)).trans (by simp)
     have hb' : Below wr.heap.size wr w' := ((Below.refl _ _).alloc (Nat.le_refl _) _).trans (hb1.mono (by simp))
     clear hb1
     have hr' := OwnK.below hrw.out hb'
     have d0' := (hb'.cell (p := ⟨G, k * 6, none⟩) hg0).trans d0
     have d1' := (hb'.cell (p := ⟨G, k * 6 + 1, none⟩) hg0).trans d1
     have d2' := (hb'.cell (p := ⟨G, k * 6 + 2, none⟩) hg0).trans d2
     have d3' := (hb'.cell (p := ⟨G, k * 6 + 3, none⟩) hg0).trans d3
     have d4' := (hb'.cell (p := ⟨G, k * 6 + 4, none⟩) hg0).trans d4
     have d5' := (hb'.cell (p := ⟨G, k * 6 + 5, none⟩) hg0).trans d5
     have hfr' : ∀ o, w'.frozen? ⟨G, o, none⟩ = false := fun o => World.ownsRow.frozenAt hr' o
     have HRS := Lib.hid (rowC_set hr' hkL y.h y.a y.k y.p y.g y.d)
     have HO' := Lib.hid (only_of_below hb' G)
     clear d0 d1 d2 d3 d4 d5 c0 c1 c2 c3 c4 c5 hr' hb' HC
     go_wp2
     go_roundw
     case rel => exact ⟨k + 1, jj + 1, by go_num, by go_num, by omega, by omega, L.set k y, HT, HRS, Lib.hid (HK.out _ _ hkw.out (only_trans HO'.out (rowC_grown y.h y.a y.k y.p y.g y.d))), only_trans HGR.out (only_trans HO'.out (rowC_grown y.h y.a y.k y.p y.g y.d))⟩
     case measure => simp [intOf]; omega
   ·obtain rfl : jj = bs.length := by omega
    obtain ⟨hd1, hd2, hd3⟩ := hst.out.done
    obtain ⟨w', hcl, hr', hg'⟩ := clear_rowC hrw.out k hd3
    rw [hd1] at hr'
    rw [hLn] at hcl
    have HRZ := Lib.hid hr'; have HGZ := Lib.hid (only_trans hgr hg')
    clear hr' hg' hgr
    have hkc : (k : Int) ≤ (c : Int) := by omega
    go_wp2
    go_ret
    exact ⟨by first | rfl | (rw [hd2]; rfl), HRZ.out, HGZ.out⟩
end Go.Proofs.YtinijleelhbpoaaGreat

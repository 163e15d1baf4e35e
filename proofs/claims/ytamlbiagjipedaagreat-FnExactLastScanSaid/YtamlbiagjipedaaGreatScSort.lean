/- Sorting a row of scans of the call's own. -/
import Derived.Test.YtamlbiagjipedaaGreatScO
import Derived.Test.YtamlbiagjipedaaGreatShelfQ
import Derived.Test.YtamlbiagjipedaaGreatScCmpW
import Derived.Sort.OwnSortedInts
namespace Go.Proofs.YtamlbiagjipedaaGreat
open Go.RowKit Go.Lib Go.Sort Go.Shelf
instance : Inhabited Sc := ⟨⟨0, 0, 0, ⟨#[]⟩, 0, 0⟩⟩
theorem flatK_list {α : Type} [Inhabited α] {enc : α → List Value} {k : Nat} (hk : ∀ a, (enc a).length = k) (h0 : 0 < k) (l : List α) : (flatK enc k l.toArray).toList = l.flatMap enc := by
  apply List.ext_getElem?
  intro t
  by_cases ht : t < l.length * k
  · have hj : t / k < l.length := Nat.div_lt_of_lt_mul (by rwa [Nat.mul_comm])
    have hi : t % k < k := Nat.mod_lt _ h0
    have e := flat_get hk l (t / k) hj (t % k) hi
    rw [Nat.div_add_mod' t k] at e
    rw [e, Array.getElem?_toList]
    have hs : t < (flatK enc k l.toArray).size := by simpa using ht
    rw [Array.getElem?_eq_getElem hs]
    have h := get_flatK enc k l.toArray t (by simpa using ht)
    rw [getElem!_pos _ t hs] at h
    rw [h]
    have h2 : l.toArray[t / k]! = l[t / k] := by simp [hj]
    rw [h2, List.getElem?_eq_getElem (by rw [hk]; exact hi), getElem!_pos _ _ (by rw [hk]; exact hi)]
  · rw [List.getElem?_eq_none (by simp; omega), List.getElem?_eq_none (by rw [flat_len hk]; omega)]
theorem alloc3 (w : World) (o1 o2 o3 : Obj) : (((w.alloc o1).alloc o2).drew).alloc o3 = grow (w.drewN 1) #[o1, o2, o3] := by
  have h : w.heap ++ #[o1, o2, o3] = ((w.heap.push o1).push o2).push o3 := by apply Array.ext'; simp
  show _ = ({ w.drewN 1 with heap := w.heap ++ #[o1, o2, o3] } : World)
  rw [h]
  rfl
theorem holdsK_of_block {w : World} {g : Nat} {cur : Array Value} {e : TypeId} {l : List Sc} (hb : w.heap[g]? = some (.cells cur e (0, 0))) (ht : cur.toList.take (l.length * 6) = l.flatMap scC) : HoldsK scC 6 w g 0 l.toArray := by
  intro j hj
  have hj' : j < l.length * 6 := by simpa using hj
  refine ⟨?_, by simp [World.frozen?, hb]⟩
  have h1 : (cur.toList.take (l.length * 6))[j]? = (l.flatMap scC)[j]? := by rw [ht]
  rw [List.getElem?_take_of_lt hj', ← flatK_list scC_len (by omega) l, Array.getElem?_toList, Array.getElem?_toList, Array.getElem?_eq_getElem hj] at h1
  rw [cell_of_row w g (0 + j) _ _ _ hb, Nat.zero_add, h1, getElem!_pos _ j hj]
  rfl
theorem heap_sortK {w : World} {g n : Nat} {os : Array Obj} {cur : Array Value} {e : TypeId} {fr : Nat × Nat} (d : Array Value) (hb : w.heap[g]? = some (.cells cur e fr)) :
    (grow (putRow id (Sort.ahead w n) g 0 d) os).heap[g]? = some (.cells (putCells id 0 d cur) e fr) := by
  have hg : g < w.heap.size := (Array.getElem?_eq_some_iff.1 hb).1
  rw [heap_grow_old _ _ (by simpa using hg)]
  simp [putRow, mapBlock, Sort.ahead, Array.getElem?_modify, hb, onCells]
theorem grown_sortK {w : World} {g n : Nat} {os : Array Obj} (d : Array Value) : w.grownBy (grow (putRow id (Sort.ahead w n) g 0 d) os) (some g) := by
  refine ⟨rfl, rfl, rfl, by simp, fun k hk hne => ?_⟩
  rw [heap_grow_old _ _ (by simpa using hk)]
  have : g ≠ k := fun e => hne (by rw [e])
  simp [putRow, mapBlock, Sort.ahead, Array.getElem?_modify, this]
theorem take_putK (cur d : Array Value) (h : d.size ≤ cur.size) : (putCells id 0 d cur).toList.take d.size = d.toList := by
  apply List.ext_getElem?
  intro j
  by_cases hj : j < d.size
  · rw [List.getElem?_take_of_lt hj, Array.getElem?_toList, Array.getElem?_toList]
    simp [putCells, hj, show j < cur.size by omega]
  · rw [List.getElem?_take_eq_none (by omega), List.getElem?_eq_none (by simp; omega)]
/-- scans in ascending order -/
def sortSc (l : List Sc) : List Sc := l.mergeSort fun x y => !(ltOf cmpSc) y x
theorem sortSc_len (l : List Sc) : (sortSc l).length = l.length := List.length_mergeSort _
theorem sortSc_mem {l : List Sc} {y : Sc} : y ∈ sortSc l ↔ y ∈ l := (List.mergeSort_perm l _).mem_iff
theorem sortSc_le (l : List Sc) : (sortSc l).Pairwise fun a b => cmpSc a b ≤ 0 := by
  have hp := List.pairwise_mergeSort (le := fun x y : Sc => !(ltOf cmpSc) y x) (fun a b c h1 h2 => by
    simp only [ltOf, Bool.not_eq_true', decide_eq_false_iff_not] at *
    have a1 := cmpSc_neg a b; have a2 := cmpSc_neg b c; have a3 := cmpSc_neg a c
    have := (cmpSc_tr a b c (by omega) (by omega)).1
    omega) (fun a b => by
    simp only [ltOf, Bool.or_eq_true, Bool.not_eq_true', decide_eq_false_iff_not]
    have := cmpSc_neg a b
    omega) l
  exact hp.imp fun {a b} h => by
    simp only [ltOf, Bool.not_eq_true', decide_eq_false_iff_not] at h
    have := cmpSc_neg a b
    omega
theorem sort_scs {w : World} {base g cap : Nat} {l : List Sc} (h : OwnK 34 6 scC w base (.slice (some ⟨g, 0, none⟩) l.length cap) l) (hn : l.length ≤ 1048576) :
    Calls Tryz.prog 61 #[.slice (some ⟨g, 0, none⟩) l.length cap, .func (.func 18) #[] #[]] w fun e w' => e = .returned (.tuple #[]) ∧ OwnK 34 6 scC w' base (.slice (some ⟨g, 0, none⟩) l.length cap) (sortSc l) ∧ w.grownBy w' (some g) := by
  rcases h.2 with ⟨e, _⟩ | ⟨g', c, cur, e, hb, hblk, h1, h2, h3, h4⟩
  · cases e
  cases e
  have hH := holdsK_of_block hblk h4
  have eg : ∀ args w, (callFunc 18 args).run Tryz.prog w = .ok (.enter 18 args) w := enters_of Tryz.func18 (by kernel_rfl) rfl
  have hC : CmpLays Tryz.prog 18 #[] scC 6 cmpSc g 0 l.toArray.size w := fun m os dk _ x y =>
    (cmp_sc_w x.h x.a x.k x.p x.g x.d y.h y.a y.k y.p y.g y.d _).mono fun e w' ⟨he, o1, o2, o3, hw⟩ => ⟨he, 1, #[o1, o2, o3], by rw [hw, alloc3]⟩
  have hS := Tryz.slices_SortFunc_total 6 (by intro w; kernel_rfl) (by intro w; kernel_rfl) scC scC_len (fun x v hv => by
    simp only [scC, List.mem_cons, List.not_mem_nil, or_false] at hv
    rcases hv with rfl | rfl | rfl | rfl | rfl | rfl <;> rfl) cmpSc swoSc 18 #[] g 0 cap l.toArray w eg hC hH (Array.getElem?_eq_some_iff.1 hblk).1 (by simp; omega) totSc
  simp only [List.size_toArray] at hS
  refine hS.mono ?_
  rintro e w' ⟨rfl, n, os, rfl⟩
  refine ⟨rfl, ?_, grown_sortK _⟩
  have hl := sortSc_len l
  have hz : (flatK scC 6 (sortSc l).toArray).size = l.length * 6 := by simp [hl]
  unfold OwnK
  rw [hl]
  refine ⟨by rw [flat_len scC_len, hl], .inr ⟨g, cap, _, rfl, hb, heap_sortK _ hblk, h1, h2, by simp [putCells, h3], ?_⟩⟩
  have ht := take_putK cur (flatK scC 6 (sortSc l).toArray) (by rw [hz, h3]; exact Nat.mul_le_mul_right 6 h1)
  rw [hz] at ht
  rw [flatK_list scC_len (by omega)] at ht
  exact ht
end Go.Proofs.YtamlbiagjipedaaGreat

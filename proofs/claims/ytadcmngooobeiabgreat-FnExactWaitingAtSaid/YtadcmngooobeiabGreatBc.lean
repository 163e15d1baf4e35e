/- Several texts in one: ExL Box2 MarkI MkW ExN CopyI Max. -/
import Derived.Test.YtadcmngooobeiabGreatBa
import Derived.Test.YtadcmngooobeiabGreatBb
import Derived.WalkKit
/- What the walks of the exact laws move along: rows, boxes, and worlds, where another row is written. -/
namespace Go.Proofs.YtadcmngooobeiabGreat
open Go.RowKit
theorem row_apart {w w' : World} {b n : Nat} {T : TypeId} {k : Nat} {v u : Value} {cs : List Value} (h : w.ownsRow b T k v n cs) (hg : w.grownBy w' u.ownBlock) (hd : ∀ q, v.ownBlock = some q → u.ownBlock ≠ some q) : w'.ownsRow b T k v n cs :=
  World.ownsRow.kept h hg (by
    cases hv : v.ownBlock with
    | none => exact .inl rfl
    | some q => exact .inr (fun e => hd q hv e.symm))
theorem row_besides {w w' : World} {b n g : Nat} {T : TypeId} {k : Nat} {v : Value} {cs : List Value} (h : w.ownsRow b T k v n cs) (hg : w.grownBy w' (some g)) (hd : ∀ q, v.ownBlock = some q → g ≠ q) : w'.ownsRow b T k v n cs :=
  World.ownsRow.kept h hg (.inr (fun e => hd g e rfl))
section
variable {α : Type} {enc : α → List Value} {k : Nat} {T : TypeId} {w w' : World} {b g : Nat} {v u : Value} {l : List α} {zs : List Int}
theorem OwnK.besides (h : OwnK T k enc w b v l) (hg : w.grownBy w' (some g)) (hd : ∀ q, v.ownBlock = some q → g ≠ q) : OwnK T k enc w' b v l := row_besides h hg hd
theorem OwnK.apart (h : OwnK T k enc w b v l) (hg : w.grownBy w' u.ownBlock) (hd : ∀ q, v.ownBlock = some q → u.ownBlock ≠ some q) : OwnK T k enc w' b v l := row_apart h hg hd
theorem OwnI.besides (h : OwnI w b v zs) (hg : w.grownBy w' (some g)) (hd : ∀ q, v.ownBlock = some q → g ≠ q) : OwnI w' b v zs := row_besides h hg hd
theorem OwnI.apart (h : OwnI w b v zs) (hg : w.grownBy w' u.ownBlock) (hd : ∀ q, v.ownBlock = some q → u.ownBlock ≠ some q) : OwnI w' b v zs := row_apart h hg hd
end
theorem rows_apart {w : World} {b b' n n' k k' : Nat} {T T' : TypeId} {v u : Value} {cs cs' : List Value} (h : w.ownsRow b T k v n cs) (h' : w.ownsRow b' T' k' u n' cs') (hne : T ≠ T') : ∀ q, v.ownBlock = some q → u.ownBlock ≠ some q := by
  intro q hv hu
  rcases h.2 with ⟨e, _⟩ | ⟨g, cap, cur, e, _, hblk, _⟩
  · subst e; cases hv
  · rcases h'.2 with ⟨e', _⟩ | ⟨g', cap', cur', e', _, hblk', _⟩
    · subst e'; cases hu
    · subst e e'
      obtain rfl := Option.some.inj hv
      obtain rfl := Option.some.inj hu
      rw [hblk] at hblk'
      cases hblk'
      exact hne rfl
theorem two (w : World) (C1 C2 : Obj) : ((w.alloc C1).alloc C2).heap[w.heap.size]? = some C1 ∧ ((w.alloc C1).alloc C2).heap[w.heap.size + 1]? = some C2 ∧ Below w.heap.size w ((w.alloc C1).alloc C2) ∧ ((w.alloc C1).alloc C2).heap.size = w.heap.size + 2 := by
  have e1 : (w.alloc C1).heap.size = w.heap.size + 1 := by simp
  refine ⟨?_, ?_, ((Below.refl _ _).alloc (Nat.le_refl _) C1).alloc (by simp) C2, by simp⟩
  · rw [Below.heap_alloc _ _ _ (by simp)]; exact heap_alloc_new w _
  · have := heap_alloc_new (w.alloc C1) C2; rw [e1] at this; exact this
theorem ins_row {α : Type} {enc : α → List Value} {k : Nat} {T : TypeId} {w : World} {b : Nat} {v : Value} {l : List α} (h : OwnK T k enc w b v l) (hk : ∀ a, (enc a).length = k) {A : Option Addr} {c : Nat} (e : v = .slice A l.length c) : InK k enc w A l := by
  subst e; exact (h.ins hk).2
end Go.Proofs.YtadcmngooobeiabGreat

/- Two cells in a block of the call's own. -/
namespace Go.Proofs.YtadcmngooobeiabGreat
open Go.RowKit
/-- two cells in a block of the call's own -/
def Box2 (T : TypeId) (W : World) (B : Nat) (v0 v1 : Value) : Prop := W.heap[B]? = some (.cells #[v0, v1] T (0, 0))
section
variable {T : TypeId} {W W' : World} {B : Nat} {v0 v1 : Value}
theorem Box2.lt (h : Box2 T W B v0 v1) : B < W.heap.size := (Array.getElem?_eq_some_iff.1 h).1
theorem Box2.below (h : Box2 T W B v0 v1) (hb : Below W.heap.size W W') : Box2 T W' B v0 v1 := (hb.block B h.lt).trans h
theorem Box2.cells (h : Box2 T W B v0 v1) : W.cell? ⟨B, 0, none⟩ = some v0 ∧ W.cell? ⟨B, 1, none⟩ = some v1 := by
  refine ⟨?_, ?_⟩ <;> (rw [cell_of_row W B _ _ _ _ h]; rfl)
theorem Box2.free (h : Box2 T W B v0 v1) : W.frozen? ⟨B, 0, none⟩ = false ∧ W.frozen? ⟨B, 1, none⟩ = false :=
  ⟨frozen_of_row W B 0 _ _ h, frozen_of_row W B 1 _ _ h⟩
theorem Box2.apart {r : Option Nat} (h : Box2 T W B v0 v1) (hg : W.grownBy W' r) (hn : some B ≠ r) : Box2 T W' B v0 v1 := (hg.block B h.lt hn).trans h
theorem Box2.new (w : World) : Box2 T (w.alloc (.cells #[v0, v1] T)) w.heap.size v0 v1 := heap_alloc_new w _
theorem Box2.other (h : Box2 T W B v0 v1) {C o : Nat} {x : Value} (hn : B ≠ C) : Box2 T (W.setCell ⟨C, o, none⟩ x) B v0 v1 := (Below.heap_setCell W ⟨C, o, none⟩ x B hn).trans h
end
end Go.Proofs.YtadcmngooobeiabGreat

/- The laws' marks on a slice of ints. -/
namespace Go.Proofs.YtadcmngooobeiabGreat
open Go.RowKit
def mki (k n : Nat) : List Int := (List.range n).map fun i => ((k + i : Nat) : Int)
theorem mki_len (k n : Nat) : (mki k n).length = n := by simp [mki]
theorem mki_mix (k0 j : Nat) (l : List Int) (hj : j ≤ l.length) : (mki k0 j ++ l.drop j).length = l.length := by simp [mki]; omega
theorem mki_set (k0 j : Nat) (l : List Int) (hj : j < l.length) : intV (mki k0 (j + 1) ++ l.drop (j + 1)) = (intV (mki k0 j ++ l.drop j)).set j (.int .i64 ((k0 + j : Nat) : Int)) := by
  have e : l.drop j = l[j] :: l.drop (j + 1) := List.drop_eq_getElem_cons hj
  have hl : (mki k0 j).length = j := by simp [mki]
  rw [e]
  simp only [intV, List.map_append, List.map_cons]
  rw [List.set_append_right _ _ (by simp [hl])]
  simp [mki, List.range_succ]
set_option maxRecDepth 100000 in
set_option maxHeartbeats 400000 in
theorem mark_ints (v : Value) (k0 b : Nat) (l : List Int) (w : World) (hv : OwnI w b v l) (hn : l.length ≤ 1048576) (hk : k0 ≤ 1000000000) :
    Calls Tryz.prog 14 #[v, .int .i64 k0] w fun e w' => e = .returned (.int .i64 ((k0 + l.length : Nat) : Int)) ∧ OwnI w' b v (mki k0 l.length) ∧ w.grownBy w' v.ownBlock := by
  by_cases h0 : l = []
  · subst h0
    obtain ⟨A, cap, rfl⟩ := hv.opens
    have HV := Lib.hid hv; clear hv
    rw [show ([] : List Int).length = 0 from rfl] at *
    go_enter Tryz.func14, Tryz.ntmps14
    go_wp2
    go_loopw [1, 5] (fun k' i wr => i = .int .i64 0 ∧ k' = .int .i64 k0 ∧ wr = w) (fun _ _ _ => 0)
    case atStart => exact ⟨rfl, rfl, rfl⟩
    case round =>
      obtain ⟨rfl, rfl, rfl⟩ := hrel
      go_wp2
      go_ret
      exact ⟨rfl, HV.out, ⟨rfl, rfl, rfl, Nat.le_refl _, fun _ _ _ => rfl⟩⟩
  · obtain ⟨g, cap, rfl, _, _⟩ := hv.row h0
    clear h0
    rw [show (Value.slice (some ⟨g, 0, none⟩) l.length cap).ownBlock = some g from rfl]
    go_enter Tryz.func14, Tryz.ntmps14
    go_wp2
    go_loopw [1, 5] (fun k i wr => ∃ j : Nat, j ≤ l.length ∧ i = .int .i64 j ∧ k = .int .i64 ((k0 + j : Nat) : Int) ∧ OwnI wr b (.slice (some ⟨g, 0, none⟩) l.length cap) (mki k0 j ++ l.drop j) ∧ w.grownBy wr (some g)) (fun _ i _ => l.length - (intOf i).toNat)
    case atStart => exact ⟨0, Nat.zero_le _, rfl, rfl, by simpa [mki] using hv, ⟨rfl, rfl, rfl, Nat.le_refl _, fun _ _ _ => rfl⟩⟩
    case round =>
      obtain ⟨j, hj, rfl, rfl, hown, hgr⟩ := hrel
      clear hv
      by_cases hlt : (j : Int) < (l.length : Int)
      · have hjn : j < l.length := by omega
        obtain ⟨K, hK⟩ : ∃ K, K = k0 + j := ⟨_, rfl⟩
        rw [← hK]
        have HK := Lib.hid hK
        have hKb : K ≤ 9223372036854775800 := by omega
        clear hK
        have hown2 := hown
        unfold OwnI at hown2
        rw [mki_mix k0 j l hj] at hown2
        have hcell : wr.cell? ⟨g, j, none⟩ = some (.int .i64 l[j]) := by
          rw [hown2.cellAt j (by omega)]
          rw [intV, List.getElem?_map, List.getElem?_append_right (by simp [mki])]
          simp [mki, hjn]
        have hfz : wr.frozen? ⟨g, j, none⟩ = false := hown2.frozenAt j
        have hst := hown2.stored j (.int .i64 (K : Int))
        have hgr2 := only_trans hgr hst.2
        have HST := Lib.hid hst.1
        clear hst hown2 hown
        go_wp2
        go_roundw
        case rel =>
          refine ⟨j + 1, by omega, by go_num, by rw [HK.out]; go_num, ?_, hgr2⟩
          have e := mki_set k0 j l hjn
          rw [← HK.out] at e
          unfold OwnI
          rw [mki_mix k0 (j + 1) l (by omega), e]
          exact HST.out
        case measure => simp [intOf]; omega
      · obtain rfl : j = l.length := by omega
        rw [List.drop_length, List.append_nil] at hown
        have HO := Lib.hid hown; clear hown
        go_wp2
        go_ret
        exact ⟨rfl, HO.out, hgr⟩
set_option maxRecDepth 100000 in
set_option maxHeartbeats 400000 in
theorem held_ints (v : Value) (k0 b n : Nat) (w : World) (hv : OwnI w b v (mki k0 n)) (hn : n ≤ 1048576) (hk : k0 ≤ 1000000000) :
    Calls Tryz.prog 15 #[v, .int .i64 k0] w fun e w' => e = .returned (.int .i64 ((k0 + n : Nat) : Int)) ∧ Below w.heap.size w w' := by
  obtain ⟨A, cap, rfl⟩ := hv.opens
  have HI := Lib.hid hv.ins.2
  rw [mki_len] at hv ⊢
  clear hv
  go_enter Tryz.func15, Tryz.ntmps15
  go_wp2
  go_loopw [1, 5] (fun k i wr => ∃ j : Nat, j ≤ n ∧ i = .int .i64 j ∧ k = .int .i64 ((k0 + j : Nat) : Int) ∧ Below w.heap.size w wr) (fun _ i _ => n - (intOf i).toNat)
  case atStart => exact ⟨0, Nat.zero_le _, rfl, rfl, Below.refl _ _⟩
  case round =>
    obtain ⟨j, hj, rfl, rfl, hb⟩ := hrel
    by_cases hlt : (j : Int) < (n : Int)
    · have hjn : j < n := by omega
      obtain ⟨K, hK⟩ : ∃ K, K = k0 + j := ⟨_, rfl⟩
      rw [← hK]
      have HK := Lib.hid hK
      have hKb : K ≤ 9223372036854775800 := by omega
      clear hK
      obtain ⟨g, rfl, hg, hc⟩ := HI.out j (by rw [mki_len]; exact hjn)
      have hc' : wr.cell? ⟨g, j, none⟩ = some (.int .i64 (K : Int)) := by
        rw [hb.cell hg, hc, HK.out]; simp [mki]
      clear hc
      have hq : ((K : Int) != (K : Int)) = false := by simp
      go_wp2
      go_roundw
      case rel => exact ⟨j + 1, by omega, by go_num, by rw [HK.out]; go_num, hb⟩
      case measure => simp [intOf]; omega
    · obtain rfl : j = n := by omega
      go_wp2
      go_ret
      exact ⟨rfl, hb⟩
end Go.Proofs.YtadcmngooobeiabGreat

/- Comparing, marking and holding a slice of the call's own, in one form for ints and texts. -/
namespace Go.Proofs.YtadcmngooobeiabGreat
open Go.RowKit
theorem eq_ownI (u v : Value) (l : List Int) (b c : Nat) (w : World) (hu : OwnI w b u l) (hv : OwnI w c v l) (hn : l.length ≤ 1048576) :
    Calls Tryz.prog 11 #[u, v] w fun e w' => e = .returned (.bool true) ∧ Below w.heap.size w w' := by
  obtain ⟨A, ca, rfl⟩ := hu.opens
  obtain ⟨B, cb, rfl⟩ := hv.opens
  exact eq_ints A B ca cb l w hu.ins.2 hv.ins.2 (by omega)
theorem mark_ownI (v : Value) (k0 b : Nat) (l : List Int) (w : World) (hv : OwnI w b v l) (hn : l.length ≤ 1048576) (_h0 : 0 < k0) (hk : k0 ≤ 1000000000) :
    Calls Tryz.prog 14 #[v, .int .i64 k0] w fun e w' => e = .returned (.int .i64 ((k0 + l.length : Nat) : Int)) ∧ OwnI w' b v (mki k0 l.length) ∧ w.grownBy w' v.ownBlock := mark_ints v k0 b l w hv (by omega) (by omega)
theorem held_ownI (v : Value) (k0 b n : Nat) (w : World) (hv : OwnI w b v (mki k0 n)) (hn : n ≤ 1048576) (_h0 : 0 < k0) (hk : k0 ≤ 1000000000) :
    Calls Tryz.prog 15 #[v, .int .i64 k0] w fun e w' => e = .returned (.int .i64 ((k0 + n : Nat) : Int)) ∧ Below w.heap.size w w' := held_ints v k0 b n w hv (by omega) (by omega)
end Go.Proofs.YtadcmngooobeiabGreat

/- A box of three cells stays where another row is written. -/
namespace Go.Proofs.YtadcmngooobeiabGreat
open Go.RowKit
theorem Box3.apart {T : TypeId} {W W' : World} {B : Nat} {v0 v1 v2 : Value} {r : Option Nat} (h : Box3 T W B v0 v1 v2) (hg : W.grownBy W' r) (hn : some B ≠ r) : Box3 T W' B v0 v1 v2 := (hg.block B h.lt hn).trans h
end Go.Proofs.YtadcmngooobeiabGreat

/- A copy of ints: the contract of spec.l1Ints; appending one int. -/
namespace Go.Proofs.YtadcmngooobeiabGreat
open Go.RowKit
theorem one_int (l : List Int) : ∀ u ∈ intV l, u.oneCell' = true := by
  intro u hu
  obtain ⟨x, _, rfl⟩ := List.mem_map.1 hu; rfl
/-- a slice of the call's own that holds these ints, and is not nil -/
def RowI (w : World) (base g cap : Nat) (l : List Int) : Prop := OwnI w base (.slice (some ⟨g, 0, none⟩) l.length cap) l
theorem rowI_of {w : World} {base : Nat} {v : Value} {l : List Int} (h : OwnI w base v l) (hv : v ≠ .slice none 0 0) : ∃ g cap, v = .slice (some ⟨g, 0, none⟩) l.length cap ∧ RowI w base g cap l := by
  have h0 := h
  rcases h.2 with ⟨e, _⟩ | ⟨g, cap, cur, e, _⟩
  · exact absurd e hv
  · subst e; exact ⟨g, cap, rfl, h0⟩
theorem RowI.lt {w : World} {base g cap : Nat} {l : List Int} (h : RowI w base g cap l) : g < w.heap.size := by
  rcases h.2 with ⟨e, _⟩ | ⟨_, _, _, e, _, h, _⟩
  · cases e
  · cases e; exact (Array.getElem?_eq_some_iff.1 h).1
theorem RowI.low {w : World} {base g cap : Nat} {l : List Int} (h : RowI w base g cap l) : base ≤ g := by
  rcases h.2 with ⟨e, _⟩ | ⟨_, _, _, e, h, _⟩
  · cases e
  · cases e; exact h
/-- what a row owns, its length under another name -/
theorem RowI.own {w : World} {base g cap n : Nat} {l : List Int} (h : RowI w base g cap l) (hn : l.length = n) : w.ownsRow base 3 1 (.slice (some ⟨g, 0, none⟩) n cap) n (intV l) := by
  subst hn; exact h
theorem RowI.of {w : World} {base n : Nat} {v : Value} {l : List Int} (h : w.ownsRow base 3 1 v n (intV l)) (hn : l.length = n) (hv : v ≠ .slice none 0 0) : ∃ g cap, v = .slice (some ⟨g, 0, none⟩) n cap ∧ RowI w base g cap l := by
  subst hn; exact rowI_of h hv
theorem RowI.news {w : World} {base g cap : Nat} {l : List Int} (h : RowI w base g cap l) (k : Nat) : ∀ j u, (intV (l.drop k))[j]? = some u → w.cell? ((⟨g, k, none⟩ : Addr).add j) = some u := by
  intro j u hu
  have hj : k + j < l.length := by
    have := (List.getElem?_eq_some_iff.1 hu).1
    rw [intV_len, List.length_drop] at this; omega
  rw [Addr.add_lit, h.cell (k + j) hj]
  rw [← hu, intV, List.getElem?_map, List.getElem?_drop, List.getElem?_eq_getElem hj]; rfl
theorem IntsIn.news {w : World} {g : Nat} {l : List Int} (h : IntsIn w (some ⟨g, 0, none⟩) l) : ∀ j u, (intV l)[j]? = some u → w.cell? ((⟨g, 0, none⟩ : Addr).add j) = some u := by
  intro j u hu
  have hj : j < l.length := by
    have := (List.getElem?_eq_some_iff.1 hu).1
    rwa [intV_len] at this
  obtain ⟨g', e, _, hc⟩ := h j hj
  cases e
  rw [add_own, hc, ← hu, intV, List.getElem?_map, List.getElem?_eq_getElem hj]; rfl
theorem int_news (wr : World) (s : Int) : ∀ j u, (intV [s])[j]? = some u → (wr.alloc (.cells #[.int .i64 s] 3)).cell? ((⟨wr.heap.size, 0, none⟩ : Addr).add j) = some u := by
  intro j u h
  cases j with
  | zero =>
    have hn : (wr.alloc (.cells #[.int .i64 s] 3)).heap[wr.heap.size]? = some (.cells #[.int .i64 s] 3 (0, 0)) := heap_alloc_new wr _
    rw [Addr.add_lit, Nat.zero_add, cell_of_row _ _ 0 _ _ _ hn]
    simpa [intV] using h
  | succ j => simp [intV] at h
theorem ownI_new (w : World) : OwnI (w.alloc (.cells #[] 3)) w.heap.size (.slice (some ⟨w.heap.size, 0, none⟩) 0 0) [] :=
  World.ownsRow_made w #[] 0 (Nat.le_refl _) (Nat.zero_le _) rfl
theorem ownI_push {w : World} {base n : Nat} {v : Value} {l : List Int} {x : Int} (h : w.ownsRow base 3 1 v (n + 1) (intV l ++ intV [x])) (hn : l.length = n) : OwnI w base v (l ++ [x]) := by
  unfold OwnI; rw [intV_app, List.length_append, hn]; exact h
end Go.Proofs.YtadcmngooobeiabGreat

/- Contracts of Max, both texts. -/
namespace Go.Proofs.YtadcmngooobeiabGreat
open Go.RowKit
end Go.Proofs.YtadcmngooobeiabGreat

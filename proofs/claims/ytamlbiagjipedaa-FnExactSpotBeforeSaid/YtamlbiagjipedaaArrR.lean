/- A slice of maps of times: what it holds. -/
import Derived.Test.YtamlbiagjipedaaMapT
import Derived.Test.YtamlbiagjipedaaServ
namespace Go.Proofs.Ytamlbiagjipedaa
open Go.RowKit
theorem map_info : (Try.prog.info? 77).map (fun i => (i.zero, i.size, i.bytes)) = some (some (.map none), 1, 8) := by kernel_rfl
def mapV (bs : List Nat) : List Value := bs.map fun b => .map (some b)
theorem mapV_len (bs : List Nat) : (mapV bs).length = bs.length := by simp [mapV]
theorem mapV_app (a b : List Nat) : mapV (a ++ b) = mapV a ++ mapV b := by simp [mapV]
theorem mapV_at (bs : List Nat) (i : Nat) (h : i < bs.length) : (mapV bs)[i]? = some (.map (some bs[i])) := by simp [mapV, h]
def lenV : Value → Nat
  | .slice _ n _ => n
  | _ => 0
structure ArrR (w : World) (base : Nat) (v : Value) (bs : List Nat) (f : Nat → Tm) : Prop where
  own : w.ownsRow base 77 1 v bs.length (mapV bs)
  maps : ∀ i (h : i < bs.length), base ≤ bs[i] ∧ MapT w bs[i] (1 + 20 * i) (f i)
section
variable {w w' : World} {base : Nat} {v : Value} {bs : List Nat} {f : Nat → Tm}
theorem ArrR.below (h : ArrR w base v bs f) (hb : Below w.heap.size w w') : ArrR w' base v bs f :=
  ⟨World.ownsRow.kept h.own (row := none) ⟨hb.os, hb.tape, hb.output, hb.size, fun i hi _ => hb.block i hi⟩ (by cases v.ownBlock <;> simp), fun i hi => ⟨(h.maps i hi).1, (h.maps i hi).2.below hb⟩⟩
theorem ArrR.form (h : ArrR w base v bs f) (hp : 0 < bs.length) : ∃ g cap, v = .slice (some ⟨g, 0, none⟩) bs.length cap ∧ base ≤ g ∧ g < w.heap.size := World.ownsRow.form h.own hp
theorem ArrR.mono (h : ArrR w base v bs f) {b : Nat} (hb : b ≤ base) : ArrR w b v bs f := by
  refine ⟨⟨h.own.1, ?_⟩, fun i hi => ⟨Nat.le_trans hb (h.maps i hi).1, (h.maps i hi).2⟩⟩
  rcases h.own.2 with h | ⟨g, cap, cur, h1, h2, h3⟩
  · exact .inl h
  · exact .inr ⟨g, cap, cur, h1, Nat.le_trans hb h2, h3⟩
theorem ArrR.cell {g cap : Nat} (h : ArrR w base (.slice (some ⟨g, 0, none⟩) bs.length cap) bs f) (i : Nat) (hi : i < bs.length) : w.cell? ⟨g, i, none⟩ = some (.map (some bs[i])) := by
  rw [World.ownsRow.cellAt (w := w) (base := base) (e := 77) (size := 1) h.own i (by omega), mapV_at bs i hi]
/-- the slice's own block is none of the maps -/
theorem map_off {b n : Nat} {g : Tm} (h : w.ownsRow base 77 1 v bs.length (mapV bs)) (hm : MapT w b n g) : some b ≠ v.ownBlock := by
  intro e
  obtain ⟨D, ⟨es, clock, hb, _⟩, _⟩ := hm
  rcases h.2 with ⟨rfl, _⟩ | ⟨g', cap, cur, rfl, _, h2, _⟩
  · cases e
  · have : b = g' := Option.some.inj e
    subst this
    rw [hb] at h2
    cases h2
theorem ArrR.push {o : Obj} {u : World} {v' : Value} {b : Nat} (h : ArrR w base v bs f) (hb : base ≤ b) (hm : MapT w b (1 + 20 * bs.length) (f bs.length))
    (hg : (w.alloc o).grownBy u v.ownBlock) (ho : u.ownsRow base 77 1 v' (bs.length + 1) (mapV bs ++ mapV [b])) : ArrR u base v' (bs ++ [b]) f := by
  refine ⟨by rw [List.length_append, mapV_app]; exact ho, fun i hi => ?_⟩
  by_cases e : i < bs.length
  · rw [List.getElem_append_left e]
    obtain ⟨h1, h2⟩ := h.maps i e
    exact ⟨h1, (h2.alloc o).kept hg (map_off h.own h2)⟩
  · obtain rfl : i = bs.length := by simp at hi; omega
    rw [List.getElem_append_right (by omega)]
    simp only [Nat.sub_self, List.getElem_cons_zero]
    exact ⟨hb, (hm.alloc o).kept hg (map_off h.own hm)⟩
end
theorem map_news (wr : World) (b : Nat) : ∀ j u, (mapV [b])[j]? = some u → (wr.alloc (.cells #[.map (some b)] 77)).cell? ((⟨wr.heap.size, 0, none⟩ : Addr).add j) = some u := by
  intro j u h
  cases j with
  | zero =>
    have hn : (wr.alloc (.cells #[.map (some b)] 77)).heap[wr.heap.size]? = some (.cells #[.map (some b)] 77 (0, 0)) := heap_alloc_new wr _
    rw [Addr.add_lit, Nat.zero_add, cell_of_row _ _ 0 _ _ _ hn]
    simpa [mapV] using h
  | succ j => simp [mapV] at h
theorem one_map (b : Nat) : ∀ u ∈ mapV [b], u.oneCell' = true := by
  intro u hu
  simp only [mapV, List.map_cons, List.map_nil, List.mem_singleton] at hu
  subst hu; rfl
theorem pl_nodup (l : List Lg) : (placesB l).Nodup := by
  have h := pl_sorted (lists (flatS l))
  unfold placesB ofL
  rw [List.Nodup, List.pairwise_map]
  refine h.imp fun {a b} hab e => ?_
  have e' : a = b := by
    have := congrArg (fun z : ByteArray => z.data.toList) e
    simpa using this
  subst e'
  have h2 := (lt_iff a a).1 hab
  exact absurd h2 (List.lt_irrefl a)
theorem pl_place {l : List Lg} {x : Lg} (h : x ∈ l) : x.f ∈ placesB l ∧ x.t ∈ placesB l := by
  have key : ∀ s : ByteArray, s ∈ flatS l → s ∈ placesB l := fun s hs => by
    unfold placesB ofL
    refine List.mem_map.2 ⟨s.data.toList, (pl_mem _ _).2 (List.mem_map.2 ⟨s, hs, rfl⟩), ?_⟩
    exact str_ext (by simp)
  have hf : ∀ s ∈ [x.f, x.t], s ∈ flatS l := fun s hs => List.mem_flatMap.2 ⟨x, h, hs⟩
  exact ⟨key _ (hf _ (by simp)), key _ (hf _ (by simp))⟩
theorem serv_iff {l : List Lg} {zs : List Int} {x : Int} {s : ByteArray} : servB l zs x s = true ↔ netB l zs x = true ∧ s ∈ placesB l := by
  unfold servB; rw [Bool.and_eq_true, Lib.containsS_iff]
end Go.Proofs.Ytamlbiagjipedaa

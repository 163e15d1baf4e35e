/- Putting a thing into a box: the plain mathematics. -/
import Derived.Test.YtodphbnbljpegabThM2
namespace Go.Proofs.Ytodphbnbljpegab
theorem fnd_congr {l m : List Th} (hl : m.length = l.length) (h : ∀ i (h1 : i < m.length) (h2 : i < l.length), m[i].d = l[i].d) (id : Int) : fnd m id = fnd l id := by
  rcases fnd_cases l id with ⟨e, hn⟩ | ⟨k, hk, e, hd, hn⟩
  · rw [e]
    refine fnd_miss fun t ht => ?_
    obtain ⟨i, hi, rfl⟩ := List.getElem_of_mem ht
    rw [h i hi (by omega)]
    exact hn _ (List.getElem_mem _)
  · rw [e]
    refine fnd_hit (by omega) (by rw [h k (by omega) hk]; exact hd) fun j hj => ?_
    rw [h j (by omega) (by omega)]
    exact hn j hj
def mov (l : List Th) (k : Nat) (box : Int) : List Th := l.set k { l.getD k default with n := box }
theorem mov_len (l : List Th) (k : Nat) (box : Int) : (mov l k box).length = l.length := by unfold mov; simp
theorem mov_at {l : List Th} {k : Nat} (hk : k < l.length) (box : Int) : mov l k box = l.set k { l[k] with n := box } := by unfold mov; rw [getD_at hk]
theorem mov_get {l : List Th} {k : Nat} (hk : k < l.length) (box : Int) (i : Nat) (h1 : i < (mov l k box).length) (h2 : i < l.length) : (mov l k box)[i].d = l[i].d ∧ (mov l k box)[i].x = l[i].x ∧ okT (mov l k box)[i] = okT l[i] ∧ ((mov l k box)[i].n = l[i].n ∨ (mov l k box)[i].n = box) := by
  simp only [mov_at hk, List.getElem_set]
  split
  · next e => subst e; exact ⟨rfl, rfl, rfl, .inr rfl⟩
  · exact ⟨rfl, rfl, rfl, .inl rfl⟩
theorem mov_lis {l : List Th} (h : Lis l) {k b : Nat} (hk : k < l.length) (hb : b < l.length) (hx : l[b].x = true) {box : Int} (hd : l[b].d = box) : Lis (mov l k box) := by
  have hlen := mov_len l k box
  have hf : ∀ id, fnd (mov l k box) id = fnd l id := fun id => fnd_congr hlen (fun i h1 h2 => (mov_get hk box i h1 h2).1) id
  refine ⟨fun t ht => ?_, fun i j hj hi => ?_, fun t ht hn => ?_⟩
  · obtain ⟨i, hi, rfl⟩ := List.getElem_of_mem ht
    rw [(mov_get hk box i hi (by omega)).2.2.1]
    exact h.ok _ (List.getElem_mem _)
  · rw [(mov_get hk box i (by omega) (by omega)).1, (mov_get hk box j hj (by omega)).1]
    exact h.up i j (by omega) hi
  · obtain ⟨i, hi, rfl⟩ := List.getElem_of_mem ht
    have hi2 : i < l.length := by omega
    rcases (mov_get hk box i hi hi2).2.2.2 with e | e
    · rw [e] at hn
      obtain ⟨j, hj, h1, h2, h3⟩ := h.pin l[i] (List.getElem_mem hi2) hn
      have g := mov_get hk box j (by omega) hj
      exact ⟨j, by omega, by rw [e, hf]; exact h1, by rw [e, g.1]; exact h2, by rw [g.2.1]; exact h3⟩
    · have g := mov_get hk box b (by omega) hb
      exact ⟨b, by omega, by rw [e, hf, ← hd]; exact h.at_ hb, by rw [e, g.1]; exact hd, by rw [g.2.1]; exact hx⟩
def putB (l : List Th) (id box : Int) : List Th × Int :=
  if thsB l = false ∨ fnd l id < 0 ∨ boxB l box = false then (l, 1)
  else if lkT l (l.getD (fnd l id).toNat default) = true ∨ lkT l (l.getD (fnd l box).toNat default) = true ∨ (l.getD (fnd l box).toNat default).s = true then (l, 2)
  else if id = box ∨ arB l (l.getD (fnd l box).toNat default) id = true then (l, 3)
  else if shaB (mov l (fnd l id).toNat box) = false then (l, 4)
  else if ligB (mov l (fnd l id).toNat box) = false then (l, 5)
  else (mov l (fnd l id).toNat box, 0)
def putL (l : List Th) (id box : Int) : List Th := (putB l id box).1
def putC (l : List Th) (id box : Int) : Int := (putB l id box).2
theorem put_len (l : List Th) (id box : Int) : (putL l id box).length = l.length := by
  unfold putL putB
  split
  · rfl
  · split
    · rfl
    · split
      · rfl
      · split
        · rfl
        · split
          · rfl
          · exact mov_len _ _ _
def PutIs (l : List Th) (id box : Int) (L : List Th) (c : Int) : Prop := putL l id box = L ∧ putC l id box = c
theorem put_1 {l : List Th} {id box : Int} (h : thsB l = false ∨ fnd l id < 0 ∨ boxB l box = false) : PutIs l id box l 1 := by
  unfold PutIs putL putC putB; rw [if_pos h]; exact ⟨rfl, rfl⟩
section
variable {l : List Th} {id box : Int} {k b : Nat} (ht : thsB l = true) (hk : k < l.length) (hf : fnd l id = k) (hb : b < l.length) (hfb : fnd l box = b) (hx : l[b].x = true)
include ht hk hf hb hfb hx
theorem put_open : putB l id box = if lkT l l[k] = true ∨ lkT l l[b] = true ∨ l[b].s = true then (l, 2)
    else if id = box ∨ arB l l[b] id = true then (l, 3) else if shaB (mov l k box) = false then (l, 4) else if ligB (mov l k box) = false then (l, 5) else (mov l k box, 0) := by
  unfold putB
  rw [if_neg (by rw [ht, boxB_hit hb hfb, hx]; simp; omega), hf, hfb, Int.toNat_natCast, Int.toNat_natCast, getD_at hk, getD_at hb]
theorem put_2 (h : lkT l l[k] = true ∨ lkT l l[b] = true ∨ l[b].s = true) : PutIs l id box l 2 := by
  unfold PutIs putL putC; rw [put_open ht hk hf hb hfb hx, if_pos h]; exact ⟨rfl, rfl⟩
variable (h2 : ¬ (lkT l l[k] = true ∨ lkT l l[b] = true ∨ l[b].s = true))
include h2
theorem put_3 (h : id = box ∨ arB l l[b] id = true) : PutIs l id box l 3 := by
  unfold PutIs putL putC; rw [put_open ht hk hf hb hfb hx, if_neg h2, if_pos h]; exact ⟨rfl, rfl⟩
variable (h3 : ¬ (id = box ∨ arB l l[b] id = true))
include h3
theorem put_4 (h : shaB (mov l k box) = false) : PutIs l id box l 4 := by
  unfold PutIs putL putC; rw [put_open ht hk hf hb hfb hx, if_neg h2, if_neg h3, if_pos h]; exact ⟨rfl, rfl⟩
theorem put_5 (h4 : shaB (mov l k box) = true) (h : ligB (mov l k box) = false) : PutIs l id box l 5 := by
  unfold PutIs putL putC; rw [put_open ht hk hf hb hfb hx, if_neg h2, if_neg h3, if_neg (by rw [h4]; simp), if_pos h]; exact ⟨rfl, rfl⟩
theorem put_0 (h4 : shaB (mov l k box) = true) (h5 : ligB (mov l k box) = true) : PutIs l id box (mov l k box) 0 := by
  unfold PutIs putL putC; rw [put_open ht hk hf hb hfb hx, if_neg h2, if_neg h3, if_neg (by rw [h4]; simp), if_neg (by rw [h5]; simp)]; exact ⟨rfl, rfl⟩
end
end Go.Proofs.Ytodphbnbljpegab

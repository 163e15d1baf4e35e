/- What a valid centre is. -/
import Derived.Test.YtiplbfpkfhlhcaaIsCI
namespace Go.Proofs.Ytiplbfpkfhlhcaa
open Go.RowKit
structure Valid (b : List It) (cs : List ChRD) (is : List NlRD) (p : List Int) (n : Int) : Prop where
  b2 : 2 ≤ b.length
  b24 : b.length ≤ 24
  n0 : 0 ≤ n
  nM : n ≤ 100000
  c1 : 1 ≤ cs.length
  c6 : cs.length ≤ 6
  ch : ∀ z ∈ cs, 1 ≤ z.r ∧ z.r ≤ 20 ∧ (z.h.length : Int) ≤ z.r
  cc : ∀ z ∈ cs, 0 ≤ z.c ∧ z.c < (b.length : Int)
  cd : (cs.map ChRD.c).Nodup
  i1 : 1 ≤ is.length
  i4 : is.length ≤ 4
  ih : ∀ z ∈ is, z.h.length ≤ 20
  ic : ∀ z ∈ is, 0 ≤ z.c ∧ z.c < (b.length : Int)
  id : (is.map NlRD.c).Nodup
  p1 : 1 ≤ p.length
  p8 : p.length ≤ 8
  pc : ∀ z ∈ p, 0 ≤ z ∧ z < (cs.length : Int)
  it : ∀ x ∈ allI b cs is, (1 ≤ x.i ∧ x.i ≤ 9999) ∧ 0 ≤ x.d ∧ x.d < (p.length : Int)
  ids : ((allI b cs is).map It.i).Nodup
theorem isC_iff {b : List It} {cs : List ChRD} {is : List NlRD} {p : List Int} {n : Int} : isCenB b cs is p n = true ↔ Valid b cs is p n := by
  unfold isCenB headB chsB nlsB planB itsB cellsB
  simp only [Bool.and_eq_true, decide_eq_true_iff, List.all_eq_true, List.mem_map, forall_exists_index, and_imp, forall_apply_eq_imp_iff₂]
  constructor
  · rintro ⟨⟨h1, h2, h3, h4⟩, ⟨⟨h5, h6⟩, h7, h8, h9⟩, ⟨⟨h10, h11⟩, h12, h13, h14⟩, ⟨h15, h16, h17⟩, h18, h19⟩
    exact ⟨h1, h2, h3, h4, h5, h6, fun z hz => of_decide_eq_true (h7 z hz), h8, h9, h10, h11, fun z hz => of_decide_eq_true (h12 z hz), h13, h14, h16, h17, h15, fun x hx => by
      have h := h18 x hx
      unfold itOk inRng at h
      rw [Bool.and_eq_true, decide_eq_true_iff, decide_eq_true_iff] at h
      exact h, h19⟩
  · intro h
    refine ⟨⟨h.b2, h.b24, h.n0, h.nM⟩, ⟨⟨h.c1, h.c6⟩, fun z hz => decide_eq_true (h.ch z hz), h.cc, h.cd⟩, ⟨⟨h.i1, h.i4⟩, fun z hz => decide_eq_true (h.ih z hz), h.ic, h.id⟩, ⟨h.pc, h.p1, h.p8⟩, fun x hx => ?_, h.ids⟩
    unfold itOk inRng
    rw [Bool.and_eq_true, decide_eq_true_iff, decide_eq_true_iff]
    exact h.it x hx
theorem mem_belt {b : List It} {x : It} (hx : x ∈ b) (h : x.i ≠ 0) (cs : List ChRD) (is : List NlRD) : x ∈ allI b cs is := by
  unfold allI beltI
  rw [List.mem_append, List.mem_append, List.mem_filter]
  exact .inl (.inl ⟨hx, by unfold zeroI; simp [h]⟩)
end Go.Proofs.Ytiplbfpkfhlhcaa

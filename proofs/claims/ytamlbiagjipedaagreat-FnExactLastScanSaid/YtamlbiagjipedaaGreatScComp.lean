/- slices.Compact on a row of scans of the call's own. -/
import Derived.Test.YtamlbiagjipedaaGreatScOps
namespace Go.Proofs.YtamlbiagjipedaaGreat
open Go.RowKit
theorem only_drew (w : World) (n : Nat) (g : Option Nat) : w.grownBy (w.drewN n) g := ⟨rfl, rfl, rfl, Nat.le_refl _, fun _ _ _ => rfl⟩
theorem rowC_drew {w : World} {b G c : Nat} {l : List Sc} (h : RowC w b G c l) (n : Nat) : RowC (w.drewN n) b G c l := h
theorem eqSc_iff {x y : Sc} : eqSc x y = true ↔ x = y := by
  unfold eqSc
  simp only [Bool.and_eq_true, beq_iff_eq]
  constructor
  · rintro ⟨h1, h2, h3, h4, h5, h6⟩
    cases x; cases y
    simp only at h1 h2 h3 h4 h5 h6
    have h4' := toList_inj h4
    subst h1 h2 h3 h4' h5 h6
    rfl
  · rintro rfl; exact ⟨rfl, rfl, rfl, rfl, rfl, rfl⟩
/-- place m of the list is kept: it is the first, or holds another scan than the one before -/
def keepC (l : List Sc) (m : Nat) : Bool := m == 0 || !eqSc (l.getD m default) (l.getD (m - 1) default)
/-- what is kept of the first m -/
def dedU (l : List Sc) : Nat → List Sc
  | 0 => []
  | m + 1 => dedU l m ++ (if keepC l m then [l.getD m default] else [])
def dedB (l : List Sc) : List Sc := dedU l l.length
theorem keep0 (l : List Sc) (j : Nat) (hj : j < 1) : keepC l j = true := by
  obtain rfl : j = 0 := by omega
  rfl
theorem keepC_at {l : List Sc} {m : Nat} (h : m + 1 < l.length) : keepC l (m + 1) = !eqSc l[m + 1] l[m] := by
  unfold keepC
  have e1 : l.getD (m + 1) default = l[m + 1] := by simp [List.getD, h]
  have e2 : l.getD (m + 1 - 1) default = l[m] := by simp [List.getD, show m < l.length by omega]
  rw [e1, e2]; simp
theorem dedU_yes {l : List Sc} {m : Nat} (h : m < l.length) (hk : keepC l m = true) : dedU l (m + 1) = dedU l m ++ [l[m]] := by
  show dedU l m ++ (if keepC l m then _ else _) = _
  rw [if_pos hk]; simp [List.getD, h]
theorem dedU_no {l : List Sc} {m : Nat} (hk : keepC l m = false) : dedU l (m + 1) = dedU l m := by
  show dedU l m ++ (if keepC l m then _ else _) = _
  rw [if_neg (by rw [hk]; decide), List.append_nil]
theorem dedU_all {l : List Sc} : ∀ m, m ≤ l.length → (∀ j, j < m → keepC l j = true) → dedU l m = l.take m
  | 0, _, _ => rfl
  | m + 1, h, hk => by rw [dedU_yes (by omega) (hk m (by omega)), dedU_all m (by omega) (fun j hj => hk j (by omega)), List.take_succ_eq_append_getElem]
theorem dedU_len (l : List Sc) : ∀ m, (dedU l m).length ≤ m
  | 0 => Nat.le_refl _
  | m + 1 => by
    have := dedU_len l m
    show (dedU l m ++ (if keepC l m then _ else _)).length ≤ _
    rw [List.length_append]
    split <;> simp <;> omega
theorem dedU_of {l : List Sc} (hl : l.Pairwise fun a b => cmpSc a b ≤ 0) : ∀ m, m ≤ l.length → (∀ x, x ∈ dedU l m ↔ ∃ j, ∃ h : j < l.length, j < m ∧ l[j] = x) ∧ UpSc (dedU l m)
  | 0, _ => by
    refine ⟨fun x => ⟨fun h => absurd h List.not_mem_nil, fun ⟨j, _, hj, _⟩ => by omega⟩, List.Pairwise.nil⟩
  | m + 1, hm => by
    obtain ⟨h1, h2⟩ := dedU_of hl m (by omega)
    have hmem : (∃ j, ∃ h : j < l.length, j < m + 1 ∧ l[j] = l[m]) := ⟨m, by omega, by omega, rfl⟩
    cases hk : keepC l m with
    | true =>
      rw [dedU_yes (by omega) hk]
      refine ⟨fun x => ?_, List.pairwise_append.2 ⟨h2, List.pairwise_singleton _ _, fun a ha b hb => ?_⟩⟩
      · rw [List.mem_append, h1, List.mem_singleton]
        constructor
        · rintro (⟨j, hjl, hj, e⟩ | rfl)
          · exact ⟨j, hjl, by omega, e⟩
          · exact hmem
        · rintro ⟨j, hjl, hj, e⟩
          by_cases hjm : j = m
          · subst hjm; exact .inr e.symm
          · exact .inl ⟨j, hjl, by omega, e⟩
      · rw [List.mem_singleton] at hb
        subst hb
        obtain ⟨j, hjl, hj, rfl⟩ := (h1 a).1 ha
        obtain ⟨m', rfl⟩ : ∃ m', m = m' + 1 := ⟨m - 1, by omega⟩
        rw [keepC_at (by omega)] at hk
        have hne : l[m' + 1] ≠ l[m'] := fun e => by rw [eqSc_iff.2 e] at hk; cases hk
        have c1 := List.pairwise_iff_getElem.1 hl m' (m' + 1) (by omega) (by omega) (by omega)
        have c2 : cmpSc l[m'] l[m' + 1] ≠ 0 := fun e => hne (cmpSc_zero e).symm
        by_cases hjm : j = m'
        · subst hjm; omega
        · have c3 := List.pairwise_iff_getElem.1 hl j m' (by omega) (by omega) (by omega)
          have c4 := cmpSc_tr _ _ _ c3 c1
          have c5 : cmpSc l[j] l[m' + 1] ≠ 0 := fun e => c2 (c4.2 e).2
          omega
    | false =>
      rw [dedU_no hk]
      refine ⟨fun x => ?_, h2⟩
      rw [h1]
      constructor
      · rintro ⟨j, hjl, hj, e⟩; exact ⟨j, hjl, by omega, e⟩
      · rintro ⟨j, hjl, hj, e⟩
        by_cases hjm : j = m
        · subst hjm
          have hj0 : j ≠ 0 := fun e0 => by subst e0; simp [keepC] at hk
          obtain ⟨m', rfl⟩ : ∃ m', j = m' + 1 := ⟨j - 1, by omega⟩
          rw [keepC_at (by omega)] at hk
          have he : l[m' + 1] = l[m'] := by
            apply eqSc_iff.1
            cases h : eqSc l[m' + 1] l[m'] with
            | true => rfl
            | false => rw [h] at hk; cases hk
          exact ⟨m', by omega, by omega, by rw [← he]; exact e⟩
        · exact ⟨j, hjl, by omega, e⟩
/-- the valid scans of a list in strictly ascending order -/
theorem ded_sort (l : List Sc) : UpSc (dedB (sortSc l)) ∧ ∀ y, y ∈ dedB (sortSc l) ↔ y ∈ l := by
  obtain ⟨h1, h2⟩ := dedU_of (sortSc_le l) (sortSc l).length (Nat.le_refl _)
  refine ⟨h2, fun y => ?_⟩
  unfold dedB
  rw [h1, ← sortSc_mem (l := l)]
  constructor
  · rintro ⟨j, hj, _, rfl⟩; exact List.getElem_mem hj
  · intro h
    obtain ⟨j, hj, e⟩ := List.getElem_of_mem h
    exact ⟨j, hj, hj, e⟩
/-- how the row stands in the second loop: k kept of the first j; from k on as it was -/
structure Comp (l L : List Sc) (k j : Nat) : Prop where
  len : L.length = l.length
  lt : k < j
  le : j ≤ l.length
  kept : L.take k = dedU l j
  rest : L.drop k = l.drop k
theorem Comp.get {l L : List Sc} {k j : Nat} (h : Comp l L k j) {i : Nat} (hi : k ≤ i) (hl : i < l.length) : ∃ h' : i < L.length, L[i] = l[i] := by
  refine ⟨by rw [h.len]; exact hl, ?_⟩
  have h1 := congrArg (fun q => q[i - k]?) h.rest
  simp only [List.getElem?_drop, show k + (i - k) = i by omega] at h1
  rw [List.getElem?_eq_getElem (by rw [h.len]; exact hl), List.getElem?_eq_getElem hl] at h1
  exact Option.some.inj h1
theorem Comp.skip {l L : List Sc} {k j : Nat} (h : Comp l L k j) (hj : j < l.length) (hk : keepC l j = false) : Comp l L k (j + 1) :=
  ⟨h.len, by have := h.lt; omega, hj, by rw [h.kept, dedU_no hk], h.rest⟩
theorem Comp.keep {l L : List Sc} {k j : Nat} (h : Comp l L k j) (hj : j < l.length) (hk : keepC l j = true) : Comp l (L.set k l[j]) (k + 1) (j + 1) := by
  have hlt := h.lt; have hl := h.len
  refine ⟨by rw [List.length_set, hl], by omega, hj, ?_, ?_⟩
  · rw [dedU_yes hj hk, ← h.kept, List.take_succ_eq_append_getElem (by rw [List.length_set]; omega), List.take_set_of_le (Nat.le_refl k), List.getElem_set_self]
  · rw [List.drop_set_of_lt (by omega)]
    have h1 := congrArg (List.drop 1) h.rest
    rwa [List.drop_drop, List.drop_drop] at h1
theorem Comp.done {l L : List Sc} {k : Nat} (h : Comp l L k l.length) : L.take k = dedB l ∧ (dedB l).length = k ∧ k ≤ L.length := by
  have h1 : L.take k = dedB l := h.kept
  exact ⟨h1, by rw [← h1, List.length_take, h.len]; have := h.lt; omega, by rw [h.len]; have := h.lt; omega⟩
set_option maxRecDepth 100000 in
set_option maxHeartbeats 8000000 in
theorem comp_sc (b G c : Nat) (l : List Sc) (w : World) (hr : RowC w b G c l) (hn : l.length ≤ 1048576) :
    Calls Tryz.prog 62 #[.slice (some ⟨G, 0, none⟩) l.length c] w fun e w' => e = .returned (.slice (some ⟨G, 0, none⟩) (dedB l).length c) ∧ RowC w' b G c (dedB l) ∧ w.grownBy w' (some G) := by
  have hc : l.length ≤ c := by
    rcases hr.2 with ⟨e, _⟩ | ⟨g, cap, cur, e, hb, hg, hnc, _⟩
    · cases e
    · cases e; exact hnc
  have hcm : c ≤ 9223372036854775807 := by
    rcases hr.2 with ⟨e, _⟩ | ⟨g, cap, cur, e, hb, hg, hnc, hm, _⟩
    · cases e
    · cases e; unfold maxLen at hm; omega
  have HR := Lib.hid hr; clear hr
  by_cases h2 : l.length < 2
  · have hd : dedB l = l := by
      unfold dedB
      rw [dedU_all l.length (Nat.le_refl _) (fun j hj => keep0 l j (by omega)), List.take_length]
    have HD := Lib.hid hd; clear hd
    have h2' : (l.length : Int) < 2 := by omega
    go_enter Tryz.func62, Tryz.ntmps62
    go_wp2
    go_ret
    rw [HD.out]
    exact ⟨rfl, HR.out, only_same _ _⟩
  have h2' : ¬ (l.length : Int) < 2 := by omega
  go_enter Tryz.func62, Tryz.ntmps62
  go_wp2
  go_loopw [3] (fun i wr => ∃ k : Nat, i = .int .i64 k ∧ 1 ≤ k ∧ k ≤ l.length ∧ Hid (∀ j, j < k → keepC l j = true) ∧ Hid (RowC wr b G c l) ∧ w.grownBy wr (some G)) (fun i _ => l.length - (intOf i).toNat)
  case atStart => exact ⟨1, rfl, Nat.le_refl _, by omega, Lib.hid (keep0 l), HR, only_same _ _⟩
  case round =>
    obtain ⟨k, rfl, hk1, hkn, hkp, hrw, hgr⟩ := hrel
    by_cases hlt : (k : Int) < (l.length : Int)
    · have hj : k < l.length := by omega
      obtain ⟨m, hm⟩ : ∃ m, m + 1 = k := ⟨k - 1, by omega⟩
      have hml : m < l.length := by omega
      obtain ⟨g0, e0, hg0, c0, c1, c2, c3, c4, c5⟩ := (ins_row hrw.out scC_len rfl).sc k hj
      obtain ⟨g1, e1, hg1, d0, d1, d2, d3, d4, d5⟩ := (ins_row hrw.out scC_len rfl).sc m hml
      cases e0; cases e1
      have hki : (k : Int) - 1 = (m : Int) := by omega
      have hmn : (m : Int) < (l.length : Int) := by omega
      have HK := Lib.hid (show keepC l k = !eqSc l[k] l[m] from by subst hm; exact keepC_at hj)
      have HY := Lib.hid (show ∀ h : k < l.length, Comp l l k (k + 1) → True from fun _ _ => trivial)
      generalize l[k] = y at c0 c1 c2 c3 c4 c5 HK
      generalize l[m] = x at d0 d1 d2 d3 d4 d5 HK
      have hEQ := sc_eql y.h y.a y.k y.p y.g y.d x.h x.a x.k x.p x.g x.d
      rw [show eqSc ⟨y.h, y.a, y.k, y.p, y.g, y.d⟩ ⟨x.h, x.a, x.k, x.p, x.g, x.d⟩ = eqSc y x from rfl] at hEQ
      clear HY hg1
      cases hq : eqSc y x with
      | true =>
        rw [hq] at hEQ HK
        clear hq
        have HGR := Lib.hid hgr; clear hgr
        have HST := Lib.hid (show Comp l l k (k + 1) from ⟨rfl, by omega, by omega, by rw [dedU_no HK.out, dedU_all k (by omega) hkp.out], rfl⟩)
        clear HK hkp
        have hkc : (k : Int) ≤ (c : Int) := by omega
        have hkl : (k : Int) ≤ (l.length : Int) := by omega
        go_wp2_with fail
        go_quiet (fail)
        clear c0 c1 c2 c3 c4 c5 d0 d1 d2 d3 d4 d5 hEQ
        have HRQ := Lib.hid (rowC_drew hrw.out nq)
        have HGQ := Lib.hid (only_trans HGR.out (only_drew _ nq _))
        clear hrw HGR hg0
        generalize wr.drewN nq = W0 at *
        obtain ⟨N2, hN2⟩ : ∃ N2, l.length - k = N2 := ⟨_, rfl⟩
        go_wp2
        go_loopw [3, 5] (fun i jv wr => ∃ kk j2 : Nat, i = .int .i64 kk ∧ jv = .int .i64 j2 ∧ 1 ≤ j2 ∧ j2 ≤ N2 ∧ ∃ L, Hid (Comp l L kk (k + j2)) ∧ Hid (RowC wr b G c L) ∧ Hid (w.grownBy wr (some G))) (fun _ jv _ => N2 - (intOf jv).toNat)
        case atStart => exact ⟨k, 1, rfl, rfl, by omega, by omega, l, HST, HRQ, HGQ⟩
        case round =>
          obtain ⟨kk, j2, rfl, rfl, hj1, hjn, L, hst, hrw, hgr⟩ := hrel
          have hLn : L.length = l.length := hst.out.len
          have hkk := hst.out.lt
          by_cases hlt2 : (j2 : Int) < (N2 : Int)
          · obtain ⟨n, hn2⟩ : ∃ n, n + 1 = j2 := ⟨j2 - 1, by omega⟩
            have hjl : k + j2 < l.length := by omega
            obtain ⟨hj', hge⟩ := hst.out.get (i := k + j2) (by omega) hjl
            obtain ⟨hm', hgm⟩ := hst.out.get (i := k + n) (by omega) (by omega)
            have hA := ins_row hrw.out scC_len rfl
            obtain ⟨g0, e0, hg0, c0, c1, c2, c3, c4, c5⟩ := hA.sc (k + j2) hj'
            obtain ⟨g1, e1, hg1, d0, d1, d2, d3, d4, d5⟩ := hA.sc (k + n) hm'
            obtain ⟨g2, e2, hg2, f0, f1, f2, f3, f4, f5⟩ := hA.sc kk (by omega)
            cases e0; cases e1; cases e2
            rw [hge] at c0 c1 c2 c3 c4 c5
            rw [hgm] at d0 d1 d2 d3 d4 d5
            rw [show (k + j2) * 6 = k * 6 + j2 * 6 by omega] at c0 c1 c2 c3 c4 c5
            rw [show (k + n) * 6 = k * 6 + n * 6 by omega] at d0 d1 d2 d3 d4 d5
            have hki2 : (j2 : Int) - 1 = (n : Int) := by omega
            have hnn : (n : Int) < (N2 : Int) := by omega
            have HK := Lib.hid (show keepC l (k + j2) = !eqSc l[k + j2] l[k + n] from by
              have h := keepC_at (l := l) (m := k + n) (by omega)
              have e : k + n + 1 = k + j2 := by omega
              simp only [e] at h; exact h)
            have HN := Lib.hid (fun h => hst.out.keep hjl h)
            have HY := Lib.hid (fun h => hst.out.skip hjl h)
            have hkL : kk < L.length := by omega
            have hkI : (kk : Int) < (l.length : Int) := by omega
            clear hA hg1 hg2 hst hge hgm
            generalize l[k + j2] = yy at c0 c1 c2 c3 c4 c5 HK HN
            generalize l[k + n] = xx at d0 d1 d2 d3 d4 d5 HK
            generalize L[kk] = zz at f0 f1 f2 f3 f4 f5
            have hNE := sc_neq yy.h yy.a yy.k yy.p yy.g yy.d xx.h xx.a xx.k xx.p xx.g xx.d
            rw [show eqSc ⟨yy.h, yy.a, yy.k, yy.p, yy.g, yy.d⟩ ⟨xx.h, xx.a, xx.k, xx.p, xx.g, xx.d⟩ = eqSc yy xx from rfl, ← HK.out] at hNE
            have hfr : ∀ o, wr.frozen? ⟨G, o, none⟩ = false := fun o => World.ownsRow.frozenAt hrw.out o
            cases hq : keepC l (k + j2) with
            | true =>
              rw [hq] at hNE
              have HT := Lib.hid (HN.out hq)
              clear HK HN HY hq
              go_wp2_with fail
              go_quiet (fail)
              go_wp2
              go_roundw
              case rel => exact ⟨kk + 1, j2 + 1, by go_num, by go_num, by omega, by omega, L.set kk yy, HT, Lib.hid (rowC_set (rowC_drew hrw.out nq) hkL yy.h yy.a yy.k yy.p yy.g yy.d), Lib.hid (only_trans hgr.out (only_trans (only_drew _ nq _) (rowC_grown yy.h yy.a yy.k yy.p yy.g yy.d)))⟩
              case measure => simp [intOf]; omega
            | false =>
              rw [hq] at hNE
              have HT := Lib.hid (HY.out hq)
              clear HK HN HY hq
              go_wp2_with fail
              go_quiet (fail)
              go_wp2
              go_roundw
              case rel => exact ⟨kk, j2 + 1, rfl, by go_num, by omega, by omega, L, HT, Lib.hid (rowC_drew hrw.out _), Lib.hid (only_trans hgr.out (only_drew _ _ _))⟩
              case measure => simp [intOf]; omega
          · obtain rfl : j2 = N2 := by omega
            rw [show k + j2 = l.length by omega] at hst
            obtain ⟨hd1, hd2, hd3⟩ := hst.out.done
            obtain ⟨w', hcl, hr', hg'⟩ := clear_rowC hrw.out kk hd3
            rw [hd1] at hr'
            rw [hLn] at hcl
            have HRZ := Lib.hid hr'; have HGZ := Lib.hid (only_trans hgr.out hg')
            clear hr' hg' hgr
            have hkc2 : (kk : Int) ≤ (c : Int) := by omega
            have hkn2 : (kk : Int) ≤ (l.length : Int) := by omega
            go_wp2
            go_ret
            exact ⟨by first | rfl | (rw [hd2]; rfl), HRZ.out, HGZ.out⟩
      | false =>
        rw [hq] at hEQ HK
        clear hq
        have HGR := Lib.hid hgr; clear hgr
        have HKP := Lib.hid (show ∀ j, j < k + 1 → keepC l j = true from fun j hjk => by
          by_cases e : j = k
          · subst e; exact HK.out
          · exact hkp.out j (by omega))
        clear HK hkp
        go_wp2_with fail
        go_quiet (fail)
        go_wp2
        go_roundw
        case rel => exact ⟨k + 1, by go_num, by omega, by omega, HKP, Lib.hid (rowC_drew hrw.out _), only_trans HGR.out (only_drew _ _ _)⟩
        case measure => simp [intOf]; omega
    · obtain rfl : k = l.length := by omega
      have HD := Lib.hid (show dedB l = l from by
        unfold dedB
        rw [dedU_all l.length (Nat.le_refl _) hkp.out, List.take_length])
      have HGR := Lib.hid hgr; clear hgr
      go_wp2
      go_ret
      rw [HD.out]
      exact ⟨rfl, hrw.out, HGR.out⟩
end Go.Proofs.YtamlbiagjipedaaGreat

/- The draw of two lists of sides. -/
import Derived.Test.YtichnpjpldkceaaDrawA
import Derived.StillTailTactics
namespace Go.Proofs.Ytichnpjpldkceaa
open Go.RowKit
theorem own_offI {w : World} {base g : Nat} {v : Value} {l : List Int} (h : OwnI w base v l) (hg : g < base) : v.ownBlock = none ∨ v.ownBlock ≠ some g := own_off h hg
theorem get3 {l : List Int} (h : l.length = 3) : ∃ p q r, l = [p, q, r] := by
  match l, h with
  | [p, q, r], _ => exact ⟨p, q, r, rfl⟩
theorem three_cell {w : World} {C j : Nat} {T : TypeId} {r p q : Int} (h : w.heap[C]? = some (.cells #[.int .i64 r, .int .i64 p, .int .i64 q] T (0, 0))) (hj : j < 3) : w.cell? ⟨C, j, none⟩ = some (.int .i64 ([r, p, q].getD j 0)) := by
  rw [cell_of_row w C j _ _ _ h]
  have hc : j = 0 ∨ j = 1 ∨ j = 2 := by omega
  rcases hc with rfl | rfl | rfl <;> rfl
theorem wrap64_i64 (x : Int) : i64B (wrap64 x) := by unfold i64B wrap64; omega
def FitV (w : World) (base : Nat) (e : Ending) : Prop := ∃ (va vb : Value) (la lb : List Int), e = .returned (.tuple #[va, vb]) ∧ OwnI w base va la ∧ OwnI w base vb lb ∧ la.length ≤ 4 ∧ lb.length = 3 ∧ (∀ x ∈ lb, i64B x)
set_option maxRecDepth 100000 in
set_option maxHeartbeats 4000000 in
theorem drawFitsIn_any (A : Option Addr) (n cap : Nat) (w : World) (hn : n ≤ 4096) (hb : BytesIn w A n) :
    Calls Try.prog 16 #[.slice A n cap] w fun e w' => FitV w' w.heap.size e ∧ Below w.heap.size w w' := by
  have HB := Lib.hid hb; clear hb
  go_enter Try.func16, Try.ntmps16
  go_wp2_with fail
  refine (new_any A n cap w hn HB.out).mono ?_; rintro e w1 ⟨g, rfl, hc1, hg, hb1⟩
  have hgl := hc1.lt
  have hz1 := hb1.size
  have H1 := Lib.hid hc1; clear hc1
  go_wp2_with fail
  refine (any_parcel_draw g _ H1.out).mono ?_; rintro e w2 ⟨⟨a, b, t, f, wt, sv, la, v, rfl, ⟨_, _, _, _, _, _, hla, hl4⟩, hO⟩, hc2, ho2⟩
  have H2 := Lib.hid hc2; clear hc2 H1
  have HO2 := Lib.hid (And.intro (OwnI.mono hO hz1) (And.intro hla (own_offI hO hgl))); clear hO hla
  have hz2 := ho2.size
  obtain ⟨A', ca, rfl⟩ := OwnI.opens (l := la) HO2.out.1
  have hfld : ∀ W : World, (Instr.field 35 (.agg #[.int .i64 a, .int .i64 b, .string t, .string f, .int .i64 wt, .slice A' la.length ca, .int .i64 v]) 3).run Try.prog W = .ok (.slice A' la.length ca) W := fun _ => by kernel_rfl
  go_wp2_with fail
  refine (sides_draw g _ H2.out).mono ?_; rintro e w3 ⟨⟨S, x, y, z, rfl, hS, hx, hy, hzz⟩, hc3, ho3⟩
  have H3 := Lib.hid hc3; clear hc3 H2
  have hSg : S ≠ g := by have := (World.ownsRow.lt hS S rfl).1; omega
  have hSb : w.heap.size ≤ S := by have := (World.ownsRow.lt hS S rfl).1; omega
  have HS3 := Lib.hid (OwnI.mono hS (show w.heap.size ≤ w2.heap.size by omega)); clear hS
  have HO3 := Lib.hid (World.ownsRow.kept HO2.out.1 ho3 HO2.out.2.2)
  have ho3' := only_trans ho2 ho3
  clear ho2 ho3
  have hz3 := ho3'.size
  go_wp2_with fail
  refine (once_any g 2 _ (by omega) H3.out).mono ?_; rintro e w4 ⟨⟨t', rfl⟩, hc4, ho4⟩
  have H4 := Lib.hid hc4; clear hc4 H3
  have HS4 := Lib.hid (World.ownsRow.kept HS3.out ho4 (.inr (fun e => by injection e with e; exact hSg e)))
  have HO4 := Lib.hid (World.ownsRow.kept HO3.out ho4 HO2.out.2.2)
  have ho4' := only_trans ho3' ho4
  clear ho3' ho4 HS3 HO3
  have hz4 := ho4'.size
  have HX := Lib.hid (show ∀ u ∈ [x, y, z], i64B u from three_ok ⟨by unfold i64B; omega, by unfold i64B; omega, by unfold i64B; omega⟩)
  clear hx hy hzz
  have HLA := Lib.hid HO2.out.2.1
  have hoff := HO2.out.2.2
  have HOF := Lib.hid hoff; clear hoff HO2
  have HBE := Lib.hid (hb1.trans (only_below ho4' hz1 hg))
  clear hfld
  cases t' with
  | false =>
    go_wp2
    exact bodyPost_ret (v := .tuple #[.slice A' la.length ca, .slice (some ⟨S, 0, none⟩) 3 3]) (by simp [results, Try.results16, go_sem]) rfl ⟨⟨_, _, la, [x, y, z], rfl, HO4.out, HS4.out, hl4, rfl, HX.out⟩, HBE.out⟩
  | true =>
    by_cases h3 : la.length = 3
    rotate_left
    · have h3b : ((la.length : Int) == 3) = false := by simp; omega
      go_wp2
      exact bodyPost_ret (v := .tuple #[.slice A' la.length ca, .slice (some ⟨S, 0, none⟩) 3 3]) (by simp [results, Try.results16, go_sem]) rfl ⟨⟨_, _, la, [x, y, z], rfl, HO4.out, HS4.out, hl4, rfl, HX.out⟩, HBE.out⟩
    obtain ⟨p, q, r, rfl⟩ := get3 h3
    clear h3 hl4
    have hI4 := (show OwnI w4 w.heap.size (.slice A' [p, q, r].length ca) [p, q, r] from HO4.out).ins.2
    obtain ⟨g0, e0, hg0, k0⟩ := hI4 0 (by simp)
    obtain ⟨_, e1, _, k1⟩ := hI4 1 (by simp)
    obtain ⟨_, e2, _, k2⟩ := hI4 2 (by simp)
    subst e0
    cases e1
    cases e2
    clear hI4
    rw [show [p, q, r].length = 3 from rfl] at *
    simp only [List.getElem_cons_zero, List.getElem_cons_succ] at k0 k1 k2
    have hg0g : g0 ≠ g := fun e => by rcases HOF.out with h | h <;> simp [Value.ownBlock] at h; exact h e
    have HPQ := Lib.hid (show (i64B p ∧ i64B q ∧ i64B r) from ⟨HLA.out p (by simp), HLA.out q (by simp), HLA.out r (by simp)⟩)
    clear HLA HX HS4
    have hgl4 := H4.out.lt
    go_wp2_with fail
    go_still_tail 9, (by kernel_rfl)
    have hC5 : (w4.alloc (.cells #[.int .i64 r, .int .i64 p, .int .i64 q] 3)).drew.heap[w4.heap.size]? = some (.cells #[.int .i64 r, .int .i64 p, .int .i64 q] 3 (0, 0)) := heap_alloc_new w4 _
    have H5 := Lib.hid (cur_drew (H4.out.alloc (.cells #[.int .i64 r, .int .i64 p, .int .i64 q] 3)))
    have ho5 := only_trans (only_alloc ho4' (.cells #[.int .i64 r, .int .i64 p, .int .i64 q] 3)) (only_drew _ g)
    have HO5 := Lib.hid (World.ownsRow.kept HO4.out (only_trans (only_alloc (only_refl w4 (some g)) (.cells #[.int .i64 r, .int .i64 p, .int .i64 q] 3)) (only_drew _ g)) HOF.out)
    have hCg : w4.heap.size ≠ g := by omega
    have hCw : w.heap.size ≤ w4.heap.size := by omega
    have hC1 : w1.heap.size ≤ w4.heap.size := by omega
    go_wp2_with fail
    clear k0 k1 k2 hg0 hgl4 hz4 ho4'
    generalize w4.heap.size = C at *
    generalize (w4.alloc (.cells #[.int .i64 r, .int .i64 p, .int .i64 q] 3)).drew = W5 at *
    have tok1 : True := trivial
    go_region_with (first
      | (go_at_call 64; (have _t := tok1); refine (below_any g 3 _ (by omega) ?_).mono ?_; (focus (first | exact H5.out | exact cur_drew H5.out)); (rintro e u1 ⟨⟨i, hi0, hi1, _, rfl⟩, hcu, hou⟩); (have hi3 := hi1 (by omega)); (obtain ⟨i', rfl⟩ := Int.eq_ofNat_of_zero_le hi0); (have hi' : i' < 3 := by omega); clear hi0 hi1 hi3; (first | (have hg1 : W5.grownBy u1 (some g) := hou) | (have hg1 : W5.grownBy u1 (some g) := only_trans (only_drew _ g) hou)); (have H6 := Lib.hid hcu); clear hcu hou tok1; (have tok2 : True := trivial))
      | (go_at_call 64; (have _t := tok2); refine (below_any g 3 _ (by omega) H6.out).mono ?_; (rintro e u2 ⟨⟨j, hj0, hj1, _, rfl⟩, hcu, hou⟩); (have hj3 := hj1 (by omega)); (obtain ⟨j', rfl⟩ := Int.eq_ofNat_of_zero_le hj0); (have hj' : j' < 3 := by omega); clear hj0 hj1 hj3; (have hg2 := only_trans hg1 hou); (have H7 := Lib.hid hcu); clear hcu hou tok2; (obtain ⟨zv, hzv⟩ : ∃ zv : Int, zv = [r, p, q].getD j' 0 := ⟨_, rfl⟩); (have z2 : u2.cell? ⟨C, j', none⟩ = some (.int .i64 zv) := by rw [hzv]; exact three_cell (row_only hC5 hg2 hCg) hj'); (have HZ := Lib.hid hzv); clear hzv; (have tok3 : True := trivial))
      | (go_at_call 64; (have _t := tok3); refine (below_any g 3 _ (by omega) H7.out).mono ?_; (rintro e u3 ⟨⟨m, hm0, hm1, _, rfl⟩, hcu, hou⟩); (have hm3 := hm1 (by omega)); clear hm1; (have hg3 := only_trans hg2 hou); (have H8 := Lib.hid hcu); clear hcu hou tok3; (have z3 : u3.cell? ⟨C, j', none⟩ = some (.int .i64 zv) := by rw [HZ.out]; exact three_cell (row_only hC5 hg3 hCg) hj'); (obtain ⟨yv, y3⟩ : ∃ yv : Int, u3.cell? ⟨C, i', none⟩ = some (.int .i64 yv) := ⟨_, three_cell (row_only hC5 hg3 hCg) hi'⟩); (have f3 : u3.frozen? ⟨C, i', none⟩ = false := frozen_of_row u3 C i' _ _ (row_only hC5 hg3 hCg))))
    all_goals
      have hrow := row_only hC5 hg3 hCg
      have HOl : OwnI u3 w.heap.size (.slice (some ⟨C, 0, none⟩) 3 3) [r, p, q] := ints_lit [r, p, q] hrow hCw (by simp)
      have HOs := Lib.hid (own_store HOl i' (wrap64 (wrap64 (zv + m) - 1)))
      have HL := Lib.hid (set_ok (k := i') (three_ok ⟨HPQ.out.2.2, HPQ.out.1, HPQ.out.2.1⟩) (wrap64_i64 (wrap64 (zv + m) - 1)))
      have hne : (Value.slice (some ⟨g0, 0, none⟩) 3 ca).ownBlock ≠ some C := fun e => by have e' : g0 = C := Option.some.inj e; omega
      have HA3 := Lib.hid (own_set (o := i') (u := .int .i64 (wrap64 (wrap64 (zv + m) - 1))) (World.ownsRow.kept HO5.out hg3 HOF.out) hne)
      have HB3 := Lib.hid (hb1.trans (only_below (only_new (only_trans ho5 hg3) (show w1.heap.size ≤ (⟨C, i', none⟩ : Addr).block from hC1) (.int .i64 (wrap64 (wrap64 (zv + m) - 1)))) hz1 hg))
      clear HOl hrow hne
      go_wp2
      exact bodyPost_ret (v := .tuple #[.slice (some ⟨g0, 0, none⟩) 3 ca, .slice (some ⟨C, 0, none⟩) 3 3]) (by simp [results, Try.results16, go_sem]) rfl ⟨⟨_, _, [p, q, r], [r, p, q].set i' _, rfl, HA3.out, HOs.out, by simp, by simp, HL.out⟩, HB3.out⟩
end Go.Proofs.Ytichnpjpldkceaa

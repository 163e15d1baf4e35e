/- Comparing, marking and holding a slice of Scan of the call's own. Written by mk/scanmk.py. -/
import Derived.Test.YtamlbiagjipedaaGreatBg
import Derived.Test.YtamlbiagjipedaaGreatMark
import Derived.Test.YtamlbiagjipedaaGreatMarkN
import Derived.Test.YtamlbiagjipedaaGreatMkB
import Derived.Test.YtamlbiagjipedaaGreatBa
import Derived.BigQuiet
namespace Go.Proofs.YtamlbiagjipedaaGreat
open Go.RowKit
abbrev OwnKsc (w : World) (b : Nat) (v : Value) (l : List Sc) : Prop := OwnK 34 6 scC w b v l
theorem below_sc {w w' : World} {b : Nat} {v : Value} {l : List Sc} (h : OwnKsc w b v l) (hb : Below w.heap.size w w') : OwnKsc w' b v l := OwnK.below h hb
def mk_sc (k n : Nat) : List Sc := (List.range n).map fun i => ⟨((k + 6 * i + 0 : Nat) : Int), ((k + 6 * i + 1 : Nat) : Int), ((k + 6 * i + 2 : Nat) : Int), mtxt (k + 6 * i + 3), ((k + 6 * i + 4 : Nat) : Int), ((k + 6 * i + 5 : Nat) : Int)⟩
theorem mk_sc_len (k n : Nat) : (mk_sc k n).length = n := by simp [mk_sc]
theorem mk_sc_succ (k n : Nat) : (mk_sc k (n + 1)).flatMap scC = (mk_sc k n).flatMap scC ++ [.int .i64 (((k + 6 * n + 0 : Nat) : Int)), .int .i64 (((k + 6 * n + 1 : Nat) : Int)), .int .i64 (((k + 6 * n + 2 : Nat) : Int)), .string (mtxt (k + 6 * n + 3)), .int .i64 (((k + 6 * n + 4 : Nat) : Int)), .int .i64 (((k + 6 * n + 5 : Nat) : Int))] := by
  simp [mk_sc, List.range_succ, scC]
theorem mk_sc_flen (k n : Nat) : ((mk_sc k n).flatMap scC).length = n * 6 := by rw [flat_len scC_len, mk_sc_len]
theorem eqo_sc (u v : Value) (l : List Sc) (b c : Nat) (w : World) (hu : OwnKsc w b u l) (hv : OwnKsc w c v l) (hn : l.length ≤ 1048576) :
    Calls Tryz.prog 41 #[u, v] w fun e w' => e = .returned (.bool true) ∧ Below w.heap.size w w' := by
  obtain ⟨A, ca, rfl⟩ := hu.opens
  obtain ⟨B, cb, rfl⟩ := hv.opens
  exact eq_scs A B ca cb l w (hu.ins scC_len).2 (hv.ins scC_len).2 (by omega)
set_option maxRecDepth 100000 in
set_option maxHeartbeats 2000000 in
theorem mark_sc (v : Value) (k0 b : Nat) (l : List Sc) (w : World) (hv : OwnKsc w b v l) (hn : l.length ≤ 1048576) (_h0 : 0 < k0) (hk : k0 ≤ 1000000000) :
    Calls Tryz.prog 44 #[v, .int .i64 k0] w fun e w' => e = .returned (.int .i64 ((k0 + 6 * l.length : Nat) : Int)) ∧ OwnKsc w' b v (mk_sc k0 l.length) ∧ w.grownBy w' v.ownBlock := by
  by_cases h0 : l = []
  · subst h0
    obtain ⟨A, cap, rfl⟩ := hv.opens
    have HV := Lib.hid hv; clear hv
    rw [show ([] : List Sc).length = 0 from rfl] at *
    go_enter Tryz.func44, Tryz.ntmps44
    go_wp2
    go_loopw [1, 5] (fun k' i wr => i = .int .i64 0 ∧ k' = .int .i64 k0 ∧ wr = w) (fun _ _ _ => 0)
    case atStart => exact ⟨rfl, rfl, rfl⟩
    case round =>
      obtain ⟨rfl, rfl, rfl⟩ := hrel
      go_wp2
      go_ret
      exact ⟨rfl, HV.out, ⟨rfl, rfl, rfl, Nat.le_refl _, fun _ _ _ => rfl⟩⟩
  · obtain ⟨g, cap, rfl, _, _⟩ := hv.row h0
    clear h0
    have hcl : (l.flatMap scC).length = l.length * 6 := flat_len scC_len l
    have hv' : w.ownsRow b 34 6 (.slice (some ⟨g, 0, none⟩) l.length cap) l.length ((mk_sc k0 0).flatMap scC ++ (l.flatMap scC).drop 0) := by
      have h : w.ownsRow b 34 6 (.slice (some ⟨g, 0, none⟩) l.length cap) l.length (l.flatMap scC) := hv
      simpa [mk_sc] using h
    have HV := Lib.hid hv'; clear hv hv'
    generalize l.flatMap scC = cs at *
    rw [show (Value.slice (some ⟨g, 0, none⟩) l.length cap).ownBlock = some g from rfl]
    go_enter Tryz.func44, Tryz.ntmps44
    go_wp2
    go_loopw [1, 5] (fun k i wr => ∃ j : Nat, j ≤ l.length ∧ i = .int .i64 j ∧ k = .int .i64 ((k0 + 6 * j : Nat) : Int) ∧ wr.ownsRow b 34 6 (.slice (some ⟨g, 0, none⟩) l.length cap) l.length ((mk_sc k0 j).flatMap scC ++ cs.drop (j * 6)) ∧ w.grownBy wr (some g)) (fun _ i _ => l.length - (intOf i).toNat)
    case atStart => exact ⟨0, Nat.zero_le _, rfl, rfl, by simpa using HV.out, ⟨rfl, rfl, rfl, Nat.le_refl _, fun _ _ _ => rfl⟩⟩
    case round =>
      obtain ⟨j, hj, rfl, rfl, hown, hgr⟩ := hrel
      clear HV
      by_cases hlt : (j : Int) < (l.length : Int)
      · have hjn : j < l.length := by omega
        have HSU := Lib.hid (mk_sc_succ k0 j)
        have hpl := mk_sc_flen k0 j
        obtain ⟨K, hK⟩ : ∃ K, K = k0 + 6 * j := ⟨_, rfl⟩
        rw [← hK] at HSU ⊢
        have HK := Lib.hid hK
        have hKb : K ≤ 9223372036854775000 := by omega
        have hKp : 0 < K := by omega
        clear hK
        have hjj : (j + 1) * 6 ≤ l.length * 6 := Nat.mul_le_mul_right 6 hjn
        have hj1 : (j + 1) * 6 = j * 6 + 6 := by omega
        generalize (mk_sc k0 j).flatMap scC = P at *
        have HM := Lib.hid (show ∀ W : World, Calls Tryz.prog 91 #[.int .i64 ((K : Int) + 1 + 1 + 1)] W fun e w' => e = .returned (.string (mtxt (K + 3))) ∧ Below W.heap.size W w' from fun W => by
          have h := mark_text (K + 3) W (by omega) (by omega)
          rw [show (((K + 3 : Nat) : Int)) = (K : Int) + 1 + 1 + 1 by omega] at h
          exact h)
        have R0 := hown
        have f0 : wr.frozen? ⟨g, j * 6, none⟩ = false := R0.frozenAt (j * 6)
        obtain ⟨v0, e0⟩ : ∃ v, wr.cell? ⟨g, j * 6, none⟩ = some v := by
          rw [R0.cellAt (j * 6) (by first | omega | (simp; omega))]
          exact ⟨_, List.getElem?_eq_getElem (by simp; omega)⟩
        have f1 : wr.frozen? ⟨g, j * 6 + 1, none⟩ = false := R0.frozenAt (j * 6 + 1)
        obtain ⟨v1, e1⟩ : ∃ v, wr.cell? ⟨g, j * 6 + 1, none⟩ = some v := by
          rw [R0.cellAt (j * 6 + 1) (by first | omega | (simp; omega))]
          exact ⟨_, List.getElem?_eq_getElem (by simp; omega)⟩
        have f2 : wr.frozen? ⟨g, j * 6 + 2, none⟩ = false := R0.frozenAt (j * 6 + 2)
        obtain ⟨v2, e2⟩ : ∃ v, wr.cell? ⟨g, j * 6 + 2, none⟩ = some v := by
          rw [R0.cellAt (j * 6 + 2) (by first | omega | (simp; omega))]
          exact ⟨_, List.getElem?_eq_getElem (by simp; omega)⟩
        have S0 := R0.stored (j * 6) (.int .i64 ((K : Int)))
        have R1 := S0.1
        have S1 := R1.stored (j * 6 + 1) (.int .i64 ((K : Int) + 1))
        have R2 := S1.1
        have S2 := R2.stored (j * 6 + 2) (.int .i64 ((K : Int) + 1 + 1))
        have R3 := S2.1
        have HR3 := Lib.hid R3
        have HG3 := Lib.hid (only_trans (only_trans (only_trans hgr S0.2) S1.2) S2.2)
        clear R0 S0 R1 S1 R2 S2 R3 hown hgr
        go_wp2_with fail
        refine (HM.out _).mono ?_; rintro e w4 ⟨rfl, hb4⟩
        have R4 := World.ownsRow.kept HR3.out (row := none) ⟨hb4.os, hb4.tape, hb4.output, hb4.size, fun i hi _ => hb4.block i hi⟩ (.inr (fun e => by cases e))
        have HG4 := Lib.hid (only_trans HG3.out (only_of_below hb4 g))
        clear hb4 HG3 HR3 e0 e1 e2 f0 f1 f2
        have f3 : w4.frozen? ⟨g, j * 6 + 3, none⟩ = false := R4.frozenAt (j * 6 + 3)
        obtain ⟨v3, e3⟩ : ∃ v, w4.cell? ⟨g, j * 6 + 3, none⟩ = some v := by
          rw [R4.cellAt (j * 6 + 3) (by first | omega | (simp; omega))]
          exact ⟨_, List.getElem?_eq_getElem (by simp; omega)⟩
        have f4 : w4.frozen? ⟨g, j * 6 + 4, none⟩ = false := R4.frozenAt (j * 6 + 4)
        obtain ⟨v4, e4⟩ : ∃ v, w4.cell? ⟨g, j * 6 + 4, none⟩ = some v := by
          rw [R4.cellAt (j * 6 + 4) (by first | omega | (simp; omega))]
          exact ⟨_, List.getElem?_eq_getElem (by simp; omega)⟩
        have f5 : w4.frozen? ⟨g, j * 6 + 5, none⟩ = false := R4.frozenAt (j * 6 + 5)
        obtain ⟨v5, e5⟩ : ∃ v, w4.cell? ⟨g, j * 6 + 5, none⟩ = some v := by
          rw [R4.cellAt (j * 6 + 5) (by first | omega | (simp; omega))]
          exact ⟨_, List.getElem?_eq_getElem (by simp; omega)⟩
        have S3 := R4.stored (j * 6 + 3) (.string (mtxt (K + 3)))
        have R5 := S3.1
        have S4 := R5.stored (j * 6 + 4) (.int .i64 ((K : Int) + 1 + 1 + 1 + 1))
        have R6 := S4.1
        have S5 := R6.stored (j * 6 + 5) (.int .i64 ((K : Int) + 1 + 1 + 1 + 1 + 1))
        have R7 := S5.1
        have EQ := Lib.hid (show (((((((P ++ cs.drop (j * 6)).set (j * 6) (.int .i64 ((K : Int)))).set (j * 6 + 1) (.int .i64 ((K : Int) + 1))).set (j * 6 + 2) (.int .i64 ((K : Int) + 1 + 1))).set (j * 6 + 3) (.string (mtxt (K + 3)))).set (j * 6 + 4) (.int .i64 ((K : Int) + 1 + 1 + 1 + 1))).set (j * 6 + 5) (.int .i64 ((K : Int) + 1 + 1 + 1 + 1 + 1))) = (mk_sc k0 (j + 1)).flatMap scC ++ cs.drop ((j + 1) * 6) from by
          rw [HSU.out]
          rw [set_app (p := j * 6) _ (by first | exact hpl | (simp only [List.length_append, List.length_cons, List.length_nil]; omega)) (by omega)]
          rw [set_app (p := j * 6 + 1) _ (by first | exact hpl | (simp only [List.length_append, List.length_cons, List.length_nil]; omega)) (by omega)]
          rw [set_app (p := j * 6 + 2) _ (by first | exact hpl | (simp only [List.length_append, List.length_cons, List.length_nil]; omega)) (by omega)]
          rw [set_app (p := j * 6 + 3) _ (by first | exact hpl | (simp only [List.length_append, List.length_cons, List.length_nil]; omega)) (by omega)]
          rw [set_app (p := j * 6 + 4) _ (by first | exact hpl | (simp only [List.length_append, List.length_cons, List.length_nil]; omega)) (by omega)]
          rw [set_app (p := j * 6 + 5) _ (by first | exact hpl | (simp only [List.length_append, List.length_cons, List.length_nil]; omega)) (by omega)]
          rw [show (j + 1) * 6 = j * 6 + 6 by omega]
          rw [show ((K + 0 : Nat) : Int) = (K : Int) by omega, show ((K + 1 : Nat) : Int) = (K : Int) + 1 by omega, show ((K + 2 : Nat) : Int) = (K : Int) + 1 + 1 by omega, show ((K + 4 : Nat) : Int) = (K : Int) + 1 + 1 + 1 + 1 by omega, show ((K + 5 : Nat) : Int) = (K : Int) + 1 + 1 + 1 + 1 + 1 by omega]
          simp only [List.append_assoc, List.cons_append, List.nil_append])
        have HG := Lib.hid (only_trans (only_trans (only_trans HG4.out S3.2) S4.2) S5.2)
        have HST := Lib.hid R7
        clear hpl S3 S4 S5 R4 R5 R6 R7 HG4
        go_wp2
        go_roundw
        case rel =>
          refine ⟨j + 1, by omega, by go_num, by rw [HK.out]; go_num, ?_, HG.out⟩
          rw [← EQ.out]
          exact HST.out
        case measure => simp [intOf]; omega
      · obtain rfl : j = l.length := by omega
        have HO := Lib.hid hown; clear hown
        go_wp2
        go_ret
        refine ⟨rfl, ?_, hgr⟩
        have h := HO.out
        rw [List.drop_of_length_le (by omega), List.append_nil] at h
        unfold OwnKsc OwnK
        rw [mk_sc_len]
        exact h
set_option maxRecDepth 100000 in
set_option maxHeartbeats 2000000 in
theorem held_sc (v : Value) (k0 b n : Nat) (w : World) (hv : OwnKsc w b v (mk_sc k0 n)) (hn : n ≤ 1048576) (_h0 : 0 < k0) (hk : k0 ≤ 1000000000) :
    Calls Tryz.prog 45 #[v, .int .i64 k0] w fun e w' => e = .returned (.int .i64 ((k0 + 6 * n : Nat) : Int)) ∧ Below w.heap.size w w' := by
  obtain ⟨A, cap, rfl⟩ := hv.opens
  have HI := Lib.hid (hv.ins scC_len).2
  rw [mk_sc_len] at hv ⊢
  clear hv
  go_enter Tryz.func45, Tryz.ntmps45
  go_wp2
  go_loopw [1, 5] (fun k i wr => ∃ j : Nat, j ≤ n ∧ i = .int .i64 j ∧ k = .int .i64 ((k0 + 6 * j : Nat) : Int) ∧ Below w.heap.size w wr) (fun _ i _ => n - (intOf i).toNat)
  case atStart => exact ⟨0, Nat.zero_le _, rfl, rfl, Below.refl _ _⟩
  case round =>
    obtain ⟨j, hj, rfl, rfl, hb⟩ := hrel
    by_cases hlt : (j : Int) < (n : Int)
    · have hjn : j < n := by omega
      obtain ⟨K, hK⟩ : ∃ K, K = k0 + 6 * j := ⟨_, rfl⟩
      rw [← hK]
      have HK := Lib.hid hK
      have hKb : K ≤ 9223372036854775000 := by omega
      have hKp : 0 < K := by omega
      clear hK
      obtain ⟨g, rfl, hg, c0, c1, c2, c3, c4, c5⟩ := (HI.out.below hb).sc j (by rw [mk_sc_len]; exact hjn)
      have d0 : wr.cell? ⟨g, j * 6, none⟩ = some (.int .i64 ((K : Int))) := by
        rw [c0, HK.out]; simp only [mk_sc, List.getElem_map, List.getElem_range]; congr 2 <;> omega
      have d1 : wr.cell? ⟨g, j * 6 + 1, none⟩ = some (.int .i64 ((K : Int) + 1)) := by
        rw [c1, HK.out]; simp only [mk_sc, List.getElem_map, List.getElem_range]; congr 2 <;> omega
      have d2 : wr.cell? ⟨g, j * 6 + 2, none⟩ = some (.int .i64 ((K : Int) + 1 + 1)) := by
        rw [c2, HK.out]; simp only [mk_sc, List.getElem_map, List.getElem_range]; congr 2 <;> omega
      have d3 : wr.cell? ⟨g, j * 6 + 3, none⟩ = some (.string (mtxt (K + 3))) := by
        rw [c3, HK.out]; simp only [mk_sc, List.getElem_map, List.getElem_range]
      have d4 : wr.cell? ⟨g, j * 6 + 4, none⟩ = some (.int .i64 ((K : Int) + 1 + 1 + 1 + 1)) := by
        rw [c4, HK.out]; simp only [mk_sc, List.getElem_map, List.getElem_range]; congr 2 <;> omega
      have d5 : wr.cell? ⟨g, j * 6 + 5, none⟩ = some (.int .i64 ((K : Int) + 1 + 1 + 1 + 1 + 1)) := by
        rw [c5, HK.out]; simp only [mk_sc, List.getElem_map, List.getElem_range]; congr 2 <;> omega
      clear c0 c1 c2 c3 c4 c5
      have q0 : ((K : Int) != (K : Int)) = false := by simp
      have q1 : ((K : Int) + 1 != (K : Int) + 1) = false := by simp
      have q2 : ((K : Int) + 1 + 1 != (K : Int) + 1 + 1) = false := by simp
      have q4 : ((K : Int) + 1 + 1 + 1 + 1 != (K : Int) + 1 + 1 + 1 + 1) = false := by simp
      have q5 : ((K : Int) + 1 + 1 + 1 + 1 + 1 != (K : Int) + 1 + 1 + 1 + 1 + 1) = false := by simp
      have q3 : ((mtxt (K + 3)).toList != (mtxt (K + 3)).toList) = false := by simp
      have HM := Lib.hid (show ∀ W : World, Calls Tryz.prog 91 #[.int .i64 ((K : Int) + 1 + 1 + 1)] W fun e w' => e = .returned (.string (mtxt (K + 3))) ∧ Below W.heap.size W w' from fun W => by
        have h := mark_text (K + 3) W (by omega) (by omega)
        rw [show (((K + 3 : Nat) : Int)) = (K : Int) + 1 + 1 + 1 by omega] at h
        exact h)
      have HB := Lib.hid hb; clear hb
      go_wp2_with fail
      have HMF := Lib.hid (fun u => HM.out (far wr u))
      have e3 := far_cell hg d3
      refine wp_region_far (by kernel_rfl) (by kernel_rfl) ?_
      repeat (any_goals (first | go_big_quiet_step ((go_at_call 91; with_reducible exact call_far (HMF.out _))) | quiet_step ((go_at_call 91; with_reducible exact call_far (HMF.out _)))))
      refine wpQuiet_nil ?_; intro w2 hw2
      have hb2 : Below wr.heap.size wr w2 := by obtain ⟨u, rfl⟩ := hw2; exact below_far wr u
      clear hw2 e3
      have d4' := (hb2.cell (p := ⟨g, j * 6 + 4, none⟩) hg).trans d4
      have d5' := (hb2.cell (p := ⟨g, j * 6 + 5, none⟩) hg).trans d5
      have HB2 := Lib.hid (HB.out.trans (hb2.mono HB.out.size))
      clear hb2 d0 d1 d2 d3 d4 d5 HB
      go_wp2
      go_roundw
      case rel => exact ⟨j + 1, by omega, by go_num, by rw [HK.out]; go_num, HB2.out⟩
      case measure => simp [intOf]; omega
    · obtain rfl : j = n := by omega
      go_wp2
      go_ret
      exact ⟨rfl, hb⟩
end Go.Proofs.YtamlbiagjipedaaGreat

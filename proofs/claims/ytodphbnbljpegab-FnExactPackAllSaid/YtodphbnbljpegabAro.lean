/- Contracts of areListed, around, areShallow. -/
import Derived.Test.YtodphbnbljpegabAroI
import Derived.Test.YtodphbnbljpegabThingMk
import Derived.Maps.AppendAt
import Derived.Deep.RegionHeld3
namespace Go.Proofs.Ytodphbnbljpegab
open Go.RowKit
theorem one_th (t : Th) : ∀ u ∈ thC t, u.oneCell' = true := by
  intro u hu
  simp only [thC, List.mem_cons, List.not_mem_nil, or_false] at hu
  rcases hu with rfl | rfl | rfl | rfl | rfl | rfl <;> rfl
theorem th_news (wr : World) (T : TypeId) (t : Th) : ∀ j u, (thC t)[j]? = some u → (wr.alloc (.cells #[.int .i64 t.d, .int .i64 t.o, .int .i64 t.r, .int .i64 t.n, .bool t.x, .bool t.s] T)).cell? ((⟨wr.heap.size, 0, none⟩ : Addr).add j) = some u := by
  intro j u h
  rw [add_own]
  have hj : j < 6 := by
    have := (List.getElem?_eq_some_iff.1 h).1
    rwa [thC_len] at this
  rw [cell_of_row _ _ _ _ _ _ (heap_alloc_new wr _)]
  simpa [thC] using h
theorem app_th {w : World} {base : Nat} {T : TypeId} {v : Value} {l : List Th} {z : Th} (h : w.ownsRow base T 6 v (l.length + 1) (l.flatMap thC ++ thC z)) : OwnK T 6 thC w base v (l ++ [z]) := by
  unfold OwnK
  rw [List.length_append, List.flatMap_append]
  simpa using h
/-- a box that holds a thing -/
def BoxT (W : World) (b : Nat) (t : Th) : Prop := W.heap[b]? = some (.cells #[.int .i64 t.d, .int .i64 t.o, .int .i64 t.r, .int .i64 t.n, .bool t.x, .bool t.s] 90 (0, 0))
theorem BoxT.new (w : World) (t : Th) : BoxT (w.alloc (.cells #[.int .i64 t.d, .int .i64 t.o, .int .i64 t.r, .int .i64 t.n, .bool t.x, .bool t.s] 90)) w.heap.size t := heap_alloc_new w _
theorem BoxT.lt {W : World} {b : Nat} {t : Th} (h : BoxT W b t) : b < W.heap.size := (Array.getElem?_eq_some_iff.1 h).1
theorem BoxT.below {W W' : World} {b : Nat} {t : Th} (h : BoxT W b t) (hb : Below W.heap.size W W') : BoxT W' b t := (hb.block b h.lt).trans h
theorem BoxT.only {W W' : World} {b : Nat} {r : Option Nat} {t : Th} (h : BoxT W b t) (ho : W.grownBy W' r) (hn : some b ≠ r) : BoxT W' b t := (ho.block b h.lt hn).trans h
theorem BoxT.cells {W : World} {b : Nat} {t : Th} (h : BoxT W b t) :
    W.cell? ⟨b, 0, none⟩ = some (.int .i64 t.d) ∧ W.cell? ⟨b, 1, none⟩ = some (.int .i64 t.o) ∧ W.cell? ⟨b, 2, none⟩ = some (.int .i64 t.r) ∧ W.cell? ⟨b, 3, none⟩ = some (.int .i64 t.n) ∧ W.cell? ⟨b, 4, none⟩ = some (.bool t.x) ∧ W.cell? ⟨b, 5, none⟩ = some (.bool t.s) := by
  refine ⟨?_, ?_, ?_, ?_, ?_, ?_⟩ <;> (rw [cell_of_row W b _ _ _ _ h]; rfl)
theorem BoxT.free {W : World} {b : Nat} {t : Th} (h : BoxT W b t) (o : Nat) : W.frozen? ⟨b, o, none⟩ = false := frozen_of_row W b o _ _ h
theorem BoxT.put {W : World} {b : Nat} {t : Th} (h : BoxT W b t) (u : Th) : BoxT ((((((W.setCell ⟨b, 0, none⟩ (.int .i64 u.d)).setCell ⟨b, 1, none⟩ (.int .i64 u.o)).setCell ⟨b, 2, none⟩ (.int .i64 u.r)).setCell ⟨b, 3, none⟩ (.int .i64 u.n)).setCell ⟨b, 4, none⟩ (.bool u.x)).setCell ⟨b, 5, none⟩ (.bool u.s)) b u := by
  have h1 := heap_set h 0 (.int .i64 u.d)
  have h2 := heap_set h1 1 (.int .i64 u.o)
  have h3 := heap_set h2 2 (.int .i64 u.r)
  have h4 := heap_set h3 3 (.int .i64 u.n)
  have h5 := heap_set h4 4 (.bool u.x)
  have h6 := heap_set h5 5 (.bool u.s)
  exact h6
theorem cell_alloc_old (W : World) (o : Obj) {g k : Nat} (h : g < W.heap.size) : (W.alloc o).cell? ⟨g, k, none⟩ = W.cell? ⟨g, k, none⟩ := ((Below.refl _ W).alloc (Nat.le_refl _) o).cell (p := ⟨g, k, none⟩) h
theorem lis_false {b : Bool} {Q : Prop} (h : b = true ↔ Q) (hn : ¬ Q) : b = false := by
  cases b with
  | false => rfl
  | true => exact absurd (h.1 rfl) hn
set_option maxRecDepth 100000 in
set_option maxHeartbeats 8000000 in
theorem are_listed (A : Option Addr) (ca : Nat) (l : List Th) (w : World) (hA : InK 6 thC w A l) (hn : l.length ≤ 1048576) :
    Calls Try.prog 123 #[.slice A l.length ca] w fun e w' => e = .returned (.bool (lisB l)) ∧ Below w.heap.size w w' := by
  have HA := Lib.hid hA; clear hA
  go_enter Try.func123, Try.ntmps123
  go_wp2
  go_loopw [7] (fun i wr => ∃ k : Nat, k ≤ l.length ∧ i = .int .i64 k ∧ Hid (∀ j, j < k → lisAt l j = true) ∧ Below w.heap.size w wr) (fun i _ => l.length - (intOf i).toNat)
  case atStart => exact ⟨0, Nat.zero_le _, rfl, Lib.hid (fun j h => by omega), Below.refl _ _⟩
  case round =>
    obtain ⟨k, hk, rfl, HD, hb⟩ := hrel
    by_cases hlt : (k : Int) < (l.length : Int)
    · have hkn : k < l.length := by omega
      have hbz := hb.size
      obtain ⟨g, rfl, hg, c0, c1, c2, c3, c4, c5⟩ := (HA.out.below hb).th k hkn
      have HY := Lib.hid (lisAt_iff hkn)
      have HNO := Lib.hid (fun h => lisB_no hkn h)
      have HP0 := Lib.hid (fun h : 0 < k => show (HA.out.below hb).th (k - 1) (by omega) = (HA.out.below hb).th (k - 1) (by omega) from rfl)
      clear HP0
      by_cases hk0 : k = 0
      · subst hk0
        generalize l[0] = y at *
        obtain ⟨d, o, r, n, x, s⟩ := y
        simp only at c0 c1 c2 c3 c4 c5
        cases hok : okT ⟨d, o, r, n, x, s⟩ with
        | false =>
          have HN := Lib.hid (HNO.out (lis_false HY.out (fun h => by rw [hok] at h; cases h.1)))
          go_wp2_with fail
          obtain ⟨W1, hW1⟩ : ∃ W1, W1 = wr.alloc (.cells #[.int .i64 d, .int .i64 o, .int .i64 r, .int .i64 n, .bool x, .bool s] 90) := ⟨_, rfl⟩
          rw [← hW1]
          have hbx : Below w.heap.size w W1 := by rw [hW1]; exact hb.alloc hbz _
          have HX : BoxT W1 wr.heap.size ⟨d, o, r, n, x, s⟩ := by rw [hW1]; exact BoxT.new wr ⟨d, o, r, n, x, s⟩
          obtain ⟨q0, q1, q2, q3, q4, q5⟩ := HX.cells; simp only at q0 q1 q2 q3 q4 q5
          have F0 := far_cell HX.lt q0; have F1 := far_cell HX.lt q1; have F2 := far_cell HX.lt q2; have F3 := far_cell HX.lt q3; have F4 := far_cell HX.lt q4; have F5 := far_cell HX.lt q5
          have HB := Lib.hid (fun x => is_box n _ ca l (far W1 x) ((HA.out.below hbx).below (below_far W1 x)) hn)
          have HT := Lib.hid (show ∀ W, Calls Try.prog 172 #[.agg #[.int .i64 d, .int .i64 o, .int .i64 r, .int .i64 n, .bool x, .bool s]] W fun e w' => e = .returned (.bool (okT ⟨d, o, r, n, x, s⟩)) ∧ Below W.heap.size W w' from fun W => is_thing ⟨d, o, r, n, x, s⟩ W)
          rw [hok] at HT
          skip
          clear q0 q1 q2 q3 q4 q5 HX hW1
          refine wp_region_far (by kernel_rfl) (by kernel_rfl) ?_
          repeat (any_goals (first | go_big_quiet_step ((first | (go_at_call 172; with_reducible exact call_far (HT.out _)) | (go_at_call 173; with_reducible exact call_far (HB.out _)))) | quiet_step ((first | (go_at_call 172; with_reducible exact call_far (HT.out _)) | (go_at_call 173; with_reducible exact call_far (HB.out _))))))
          refine wpQuiet_nil ?_; intro w2 hw2
          have hb2 : Below w.heap.size w w2 := by obtain ⟨u, rfl⟩ := hw2; exact hbx.trans ((below_far W1 u).mono hbx.size)
          clear hw2
          go_wp2
          go_ret
          exact ⟨ret_bool HN.out.symm, hb2⟩
        | true =>
          rw [hok] at HY
          by_cases h0 : n = 0
          · have HN := Lib.hid (HY.out.2 ⟨rfl, fun h => absurd h (by omega), .inl h0⟩)
            have hn0 : (n == 0) = true := by simpa using h0
            have hn1 : (n != 0) = false := by simpa using h0
            clear h0
            go_wp2_with fail
            obtain ⟨W1, hW1⟩ : ∃ W1, W1 = wr.alloc (.cells #[.int .i64 d, .int .i64 o, .int .i64 r, .int .i64 n, .bool x, .bool s] 90) := ⟨_, rfl⟩
            rw [← hW1]
            have hbx : Below w.heap.size w W1 := by rw [hW1]; exact hb.alloc hbz _
            have HX : BoxT W1 wr.heap.size ⟨d, o, r, n, x, s⟩ := by rw [hW1]; exact BoxT.new wr ⟨d, o, r, n, x, s⟩
            obtain ⟨q0, q1, q2, q3, q4, q5⟩ := HX.cells; simp only at q0 q1 q2 q3 q4 q5
            have F0 := far_cell HX.lt q0; have F1 := far_cell HX.lt q1; have F2 := far_cell HX.lt q2; have F3 := far_cell HX.lt q3; have F4 := far_cell HX.lt q4; have F5 := far_cell HX.lt q5
            have HB := Lib.hid (fun x => is_box n _ ca l (far W1 x) ((HA.out.below hbx).below (below_far W1 x)) hn)
            have HT := Lib.hid (show ∀ W, Calls Try.prog 172 #[.agg #[.int .i64 d, .int .i64 o, .int .i64 r, .int .i64 n, .bool x, .bool s]] W fun e w' => e = .returned (.bool (okT ⟨d, o, r, n, x, s⟩)) ∧ Below W.heap.size W w' from fun W => is_thing ⟨d, o, r, n, x, s⟩ W)
            rw [hok] at HT
            skip
            clear q0 q1 q2 q3 q4 q5 HX hW1
            refine wp_region_far (by kernel_rfl) (by kernel_rfl) ?_
            repeat (any_goals (first | go_big_quiet_step ((first | (go_at_call 172; with_reducible exact call_far (HT.out _)) | (go_at_call 173; with_reducible exact call_far (HB.out _)))) | quiet_step ((first | (go_at_call 172; with_reducible exact call_far (HT.out _)) | (go_at_call 173; with_reducible exact call_far (HB.out _))))))
            refine wpQuiet_nil ?_; intro w2 hw2
            have hb2 : Below w.heap.size w w2 := by obtain ⟨u, rfl⟩ := hw2; exact hbx.trans ((below_far W1 u).mono hbx.size)
            clear hw2
            go_wp2
            go_roundw
            case rel => exact ⟨1, by omega, by go_num, Lib.hid (fun j hj => by
              by_cases e : j = 0
              · subst e; exact HN.out
              · exact absurd e (by omega)), hb2⟩
            case measure => simp [intOf]; omega
          · have hn0 : (n == 0) = false := by simpa using h0
            have hn1 : (n != 0) = true := by simpa using h0
            cases hbx0 : boxB l n with
            | false =>
              have HN := Lib.hid (HNO.out (lis_false HY.out (fun h => by rcases h.2.2 with h | h; exact h0 h; rw [hbx0] at h; cases h)))
              go_wp2_with fail
              obtain ⟨W1, hW1⟩ : ∃ W1, W1 = wr.alloc (.cells #[.int .i64 d, .int .i64 o, .int .i64 r, .int .i64 n, .bool x, .bool s] 90) := ⟨_, rfl⟩
              rw [← hW1]
              have hbx : Below w.heap.size w W1 := by rw [hW1]; exact hb.alloc hbz _
              have HX : BoxT W1 wr.heap.size ⟨d, o, r, n, x, s⟩ := by rw [hW1]; exact BoxT.new wr ⟨d, o, r, n, x, s⟩
              obtain ⟨q0, q1, q2, q3, q4, q5⟩ := HX.cells; simp only at q0 q1 q2 q3 q4 q5
              have F0 := far_cell HX.lt q0; have F1 := far_cell HX.lt q1; have F2 := far_cell HX.lt q2; have F3 := far_cell HX.lt q3; have F4 := far_cell HX.lt q4; have F5 := far_cell HX.lt q5
              have HB := Lib.hid (fun x => is_box n _ ca l (far W1 x) ((HA.out.below hbx).below (below_far W1 x)) hn)
              have HT := Lib.hid (show ∀ W, Calls Try.prog 172 #[.agg #[.int .i64 d, .int .i64 o, .int .i64 r, .int .i64 n, .bool x, .bool s]] W fun e w' => e = .returned (.bool (okT ⟨d, o, r, n, x, s⟩)) ∧ Below W.heap.size W w' from fun W => is_thing ⟨d, o, r, n, x, s⟩ W)
              rw [hok] at HT
              rw [hbx0] at HB
              clear q0 q1 q2 q3 q4 q5 HX hW1
              refine wp_region_far (by kernel_rfl) (by kernel_rfl) ?_
              repeat (any_goals (first | go_big_quiet_step ((first | (go_at_call 172; with_reducible exact call_far (HT.out _)) | (go_at_call 173; with_reducible exact call_far (HB.out _)))) | quiet_step ((first | (go_at_call 172; with_reducible exact call_far (HT.out _)) | (go_at_call 173; with_reducible exact call_far (HB.out _))))))
              refine wpQuiet_nil ?_; intro w2 hw2
              have hb2 : Below w.heap.size w w2 := by obtain ⟨u, rfl⟩ := hw2; exact hbx.trans ((below_far W1 u).mono hbx.size)
              clear hw2
              go_wp2
              go_ret
              exact ⟨ret_bool HN.out.symm, hb2⟩
            | true =>
              have HN := Lib.hid (HY.out.2 ⟨rfl, fun h => absurd h (by omega), .inr hbx0⟩)
              go_wp2_with fail
              obtain ⟨W1, hW1⟩ : ∃ W1, W1 = wr.alloc (.cells #[.int .i64 d, .int .i64 o, .int .i64 r, .int .i64 n, .bool x, .bool s] 90) := ⟨_, rfl⟩
              rw [← hW1]
              have hbx : Below w.heap.size w W1 := by rw [hW1]; exact hb.alloc hbz _
              have HX : BoxT W1 wr.heap.size ⟨d, o, r, n, x, s⟩ := by rw [hW1]; exact BoxT.new wr ⟨d, o, r, n, x, s⟩
              obtain ⟨q0, q1, q2, q3, q4, q5⟩ := HX.cells; simp only at q0 q1 q2 q3 q4 q5
              have F0 := far_cell HX.lt q0; have F1 := far_cell HX.lt q1; have F2 := far_cell HX.lt q2; have F3 := far_cell HX.lt q3; have F4 := far_cell HX.lt q4; have F5 := far_cell HX.lt q5
              have HB := Lib.hid (fun x => is_box n _ ca l (far W1 x) ((HA.out.below hbx).below (below_far W1 x)) hn)
              have HT := Lib.hid (show ∀ W, Calls Try.prog 172 #[.agg #[.int .i64 d, .int .i64 o, .int .i64 r, .int .i64 n, .bool x, .bool s]] W fun e w' => e = .returned (.bool (okT ⟨d, o, r, n, x, s⟩)) ∧ Below W.heap.size W w' from fun W => is_thing ⟨d, o, r, n, x, s⟩ W)
              rw [hok] at HT
              rw [hbx0] at HB
              clear q0 q1 q2 q3 q4 q5 HX hW1
              refine wp_region_far (by kernel_rfl) (by kernel_rfl) ?_
              repeat (any_goals (first | go_big_quiet_step ((first | (go_at_call 172; with_reducible exact call_far (HT.out _)) | (go_at_call 173; with_reducible exact call_far (HB.out _)))) | quiet_step ((first | (go_at_call 172; with_reducible exact call_far (HT.out _)) | (go_at_call 173; with_reducible exact call_far (HB.out _))))))
              refine wpQuiet_nil ?_; intro w2 hw2
              have hb2 : Below w.heap.size w w2 := by obtain ⟨u, rfl⟩ := hw2; exact hbx.trans ((below_far W1 u).mono hbx.size)
              clear hw2
              go_wp2
              go_roundw
              case rel => exact ⟨1, by omega, by go_num, Lib.hid (fun j hj => by
                by_cases e : j = 0
                · subst e; exact HN.out
                · exact absurd e (by omega)), hb2⟩
              case measure => simp [intOf]; omega
      · obtain ⟨k', hkk⟩ : ∃ k', k = k' + 1 := ⟨k - 1, by omega⟩
        obtain ⟨g', e', hz1, p0, hz2⟩ := (HA.out.below hb).th k' (by omega)
        clear hz1 hz2
        obtain rfl : g' = g := by cases e'; rfl
        obtain ⟨p, hp⟩ : ∃ p, p = (l[k']'(by omega)).d := ⟨_, rfl⟩
        rw [← hp] at p0
        have HY2 := Lib.hid (show lisAt l k = true ↔ okT l[k] = true ∧ (p < l[k].d) ∧ (l[k].n = 0 ∨ boxB l l[k].n = true) from by
          rw [HY.out]
          subst hkk
          simp only [Nat.add_sub_cancel, hp]
          exact ⟨fun ⟨a, b, c⟩ => ⟨a, b (by omega), c⟩, fun ⟨a, b, c⟩ => ⟨a, fun _ => b, c⟩⟩)
        clear HY hp
        have HY := Lib.hid HY2.out
        clear HY2
        generalize l[k] = y at *
        obtain ⟨d, o, r, n, x, s⟩ := y
        simp only at c0 c1 c2 c3 c4 c5
        have hk0' : (0 : Int) < (k : Int) := by omega
        have hk0a : decide ((0 : Int) < (k : Int)) = true := by simp; omega
        have hk0b : decide (0 < k) = true := by simp; omega
        have hki : (k : Int) - 1 = (k' : Int) := by omega
        have hk1 : k' < l.length := by omega
        have P0 := Lib.hid p0
        have hgw := hg
        clear p0 hkk e' hk0
        cases hok : okT ⟨d, o, r, n, x, s⟩ with
        | false =>
          have HN := Lib.hid (HNO.out (lis_false HY.out (fun h => by rw [hok] at h; cases h.1)))
          go_wp2_with fail
          obtain ⟨W1, hW1⟩ : ∃ W1, W1 = wr.alloc (.cells #[.int .i64 d, .int .i64 o, .int .i64 r, .int .i64 n, .bool x, .bool s] 90) := ⟨_, rfl⟩
          rw [← hW1]
          have hbx : Below w.heap.size w W1 := by rw [hW1]; exact hb.alloc hbz _
          have HX : BoxT W1 wr.heap.size ⟨d, o, r, n, x, s⟩ := by rw [hW1]; exact BoxT.new wr ⟨d, o, r, n, x, s⟩
          obtain ⟨q0, q1, q2, q3, q4, q5⟩ := HX.cells; simp only at q0 q1 q2 q3 q4 q5
          have F0 := far_cell HX.lt q0; have F1 := far_cell HX.lt q1; have F2 := far_cell HX.lt q2; have F3 := far_cell HX.lt q3; have F4 := far_cell HX.lt q4; have F5 := far_cell HX.lt q5
          have HB := Lib.hid (fun x => is_box n _ ca l (far W1 x) ((HA.out.below hbx).below (below_far W1 x)) hn)
          have HT := Lib.hid (show ∀ W, Calls Try.prog 172 #[.agg #[.int .i64 d, .int .i64 o, .int .i64 r, .int .i64 n, .bool x, .bool s]] W fun e w' => e = .returned (.bool (okT ⟨d, o, r, n, x, s⟩)) ∧ Below W.heap.size W w' from fun W => is_thing ⟨d, o, r, n, x, s⟩ W)
          rw [hok] at HT
          skip
          clear q0 q1 q2 q3 q4 q5 HX hW1
          refine wp_region_far (by kernel_rfl) (by kernel_rfl) ?_
          repeat (any_goals (first | go_big_quiet_step ((first | (go_at_call 172; with_reducible exact call_far (HT.out _)) | (go_at_call 173; with_reducible exact call_far (HB.out _)))) | quiet_step ((first | (go_at_call 172; with_reducible exact call_far (HT.out _)) | (go_at_call 173; with_reducible exact call_far (HB.out _))))))
          refine wpQuiet_nil ?_; intro w2 hw2
          have hb2 : Below w.heap.size w w2 := by obtain ⟨u, rfl⟩ := hw2; exact hbx.trans ((below_far W1 u).mono hbx.size)
          clear hw2
          go_wp2
          go_ret
          exact ⟨ret_bool HN.out.symm, hb2⟩
        | true =>
          rw [hok] at HY
          by_cases h3 : d ≤ p
          · have HN := Lib.hid (HNO.out (lis_false HY.out (fun h => by have := h.2.1; simp only at this; omega)))
            go_wp2_with fail
            obtain ⟨W1, hW1⟩ : ∃ W1, W1 = wr.alloc (.cells #[.int .i64 d, .int .i64 o, .int .i64 r, .int .i64 n, .bool x, .bool s] 90) := ⟨_, rfl⟩
            rw [← hW1]
            have hbx : Below w.heap.size w W1 := by rw [hW1]; exact hb.alloc hbz _
            have HX : BoxT W1 wr.heap.size ⟨d, o, r, n, x, s⟩ := by rw [hW1]; exact BoxT.new wr ⟨d, o, r, n, x, s⟩
            obtain ⟨q0, q1, q2, q3, q4, q5⟩ := HX.cells; simp only at q0 q1 q2 q3 q4 q5
            have F0 := far_cell HX.lt q0; have F1 := far_cell HX.lt q1; have F2 := far_cell HX.lt q2; have F3 := far_cell HX.lt q3; have F4 := far_cell HX.lt q4; have F5 := far_cell HX.lt q5
            have HB := Lib.hid (fun x => is_box n _ ca l (far W1 x) ((HA.out.below hbx).below (below_far W1 x)) hn)
            have HT := Lib.hid (show ∀ W, Calls Try.prog 172 #[.agg #[.int .i64 d, .int .i64 o, .int .i64 r, .int .i64 n, .bool x, .bool s]] W fun e w' => e = .returned (.bool (okT ⟨d, o, r, n, x, s⟩)) ∧ Below W.heap.size W w' from fun W => is_thing ⟨d, o, r, n, x, s⟩ W)
            rw [hok] at HT
            have FP := far_cell (W := W1) (g := g') (by have := hbx.size; rw [hW1]; simp; omega) (show W1.cell? ⟨g', k' * 6, none⟩ = some (.int .i64 p) by rw [hW1]; exact (cell_alloc_old wr _ hg).trans P0.out)
            clear q0 q1 q2 q3 q4 q5 HX hW1
            refine wp_region_far (by kernel_rfl) (by kernel_rfl) ?_
            repeat (any_goals (first | go_big_quiet_step ((first | (go_at_call 172; with_reducible exact call_far (HT.out _)) | (go_at_call 173; with_reducible exact call_far (HB.out _)))) | quiet_step ((first | (go_at_call 172; with_reducible exact call_far (HT.out _)) | (go_at_call 173; with_reducible exact call_far (HB.out _))))))
            refine wpQuiet_nil ?_; intro w2 hw2
            have hb2 : Below w.heap.size w w2 := by obtain ⟨u, rfl⟩ := hw2; exact hbx.trans ((below_far W1 u).mono hbx.size)
            clear hw2
            go_wp2
            go_ret
            exact ⟨ret_bool HN.out.symm, hb2⟩
          · have h3' : p < d := by omega
            by_cases h0 : n = 0
            · have HN := Lib.hid (HY.out.2 ⟨rfl, h3', .inl h0⟩)
              have hn0 : (n == 0) = true := by simpa using h0
              have hn1 : (n != 0) = false := by simpa using h0
              clear h0
              go_wp2_with fail
              obtain ⟨W1, hW1⟩ : ∃ W1, W1 = wr.alloc (.cells #[.int .i64 d, .int .i64 o, .int .i64 r, .int .i64 n, .bool x, .bool s] 90) := ⟨_, rfl⟩
              rw [← hW1]
              have hbx : Below w.heap.size w W1 := by rw [hW1]; exact hb.alloc hbz _
              have HX : BoxT W1 wr.heap.size ⟨d, o, r, n, x, s⟩ := by rw [hW1]; exact BoxT.new wr ⟨d, o, r, n, x, s⟩
              obtain ⟨q0, q1, q2, q3, q4, q5⟩ := HX.cells; simp only at q0 q1 q2 q3 q4 q5
              have F0 := far_cell HX.lt q0; have F1 := far_cell HX.lt q1; have F2 := far_cell HX.lt q2; have F3 := far_cell HX.lt q3; have F4 := far_cell HX.lt q4; have F5 := far_cell HX.lt q5
              have HB := Lib.hid (fun x => is_box n _ ca l (far W1 x) ((HA.out.below hbx).below (below_far W1 x)) hn)
              have HT := Lib.hid (show ∀ W, Calls Try.prog 172 #[.agg #[.int .i64 d, .int .i64 o, .int .i64 r, .int .i64 n, .bool x, .bool s]] W fun e w' => e = .returned (.bool (okT ⟨d, o, r, n, x, s⟩)) ∧ Below W.heap.size W w' from fun W => is_thing ⟨d, o, r, n, x, s⟩ W)
              rw [hok] at HT
              have FP := far_cell (W := W1) (g := g') (by have := hbx.size; rw [hW1]; simp; omega) (show W1.cell? ⟨g', k' * 6, none⟩ = some (.int .i64 p) by rw [hW1]; exact (cell_alloc_old wr _ hg).trans P0.out)
              clear q0 q1 q2 q3 q4 q5 HX hW1
              refine wp_region_far (by kernel_rfl) (by kernel_rfl) ?_
              repeat (any_goals (first | go_big_quiet_step ((first | (go_at_call 172; with_reducible exact call_far (HT.out _)) | (go_at_call 173; with_reducible exact call_far (HB.out _)))) | quiet_step ((first | (go_at_call 172; with_reducible exact call_far (HT.out _)) | (go_at_call 173; with_reducible exact call_far (HB.out _))))))
              refine wpQuiet_nil ?_; intro w2 hw2
              have hb2 : Below w.heap.size w w2 := by obtain ⟨u, rfl⟩ := hw2; exact hbx.trans ((below_far W1 u).mono hbx.size)
              clear hw2
              go_wp2
              go_roundw
              case rel => exact ⟨k + 1, by omega, by go_num, Lib.hid (fun j hj => by
                by_cases e : j = k
                · subst e; exact HN.out
                · exact HD.out j (by omega)), hb2⟩
              case measure => simp [intOf]; omega
            · have hn0 : (n == 0) = false := by simpa using h0
              have hn1 : (n != 0) = true := by simpa using h0
              cases hbx0 : boxB l n with
              | false =>
                have HN := Lib.hid (HNO.out (lis_false HY.out (fun h => by rcases h.2.2 with h | h; exact h0 h; rw [hbx0] at h; cases h)))
                go_wp2_with fail
                obtain ⟨W1, hW1⟩ : ∃ W1, W1 = wr.alloc (.cells #[.int .i64 d, .int .i64 o, .int .i64 r, .int .i64 n, .bool x, .bool s] 90) := ⟨_, rfl⟩
                rw [← hW1]
                have hbx : Below w.heap.size w W1 := by rw [hW1]; exact hb.alloc hbz _
                have HX : BoxT W1 wr.heap.size ⟨d, o, r, n, x, s⟩ := by rw [hW1]; exact BoxT.new wr ⟨d, o, r, n, x, s⟩
                obtain ⟨q0, q1, q2, q3, q4, q5⟩ := HX.cells; simp only at q0 q1 q2 q3 q4 q5
                have F0 := far_cell HX.lt q0; have F1 := far_cell HX.lt q1; have F2 := far_cell HX.lt q2; have F3 := far_cell HX.lt q3; have F4 := far_cell HX.lt q4; have F5 := far_cell HX.lt q5
                have HB := Lib.hid (fun x => is_box n _ ca l (far W1 x) ((HA.out.below hbx).below (below_far W1 x)) hn)
                have HT := Lib.hid (show ∀ W, Calls Try.prog 172 #[.agg #[.int .i64 d, .int .i64 o, .int .i64 r, .int .i64 n, .bool x, .bool s]] W fun e w' => e = .returned (.bool (okT ⟨d, o, r, n, x, s⟩)) ∧ Below W.heap.size W w' from fun W => is_thing ⟨d, o, r, n, x, s⟩ W)
                rw [hok] at HT
                rw [hbx0] at HB; have FP := far_cell (W := W1) (g := g') (by have := hbx.size; rw [hW1]; simp; omega) (show W1.cell? ⟨g', k' * 6, none⟩ = some (.int .i64 p) by rw [hW1]; exact (cell_alloc_old wr _ hg).trans P0.out)
                clear q0 q1 q2 q3 q4 q5 HX hW1
                refine wp_region_far (by kernel_rfl) (by kernel_rfl) ?_
                repeat (any_goals (first | go_big_quiet_step ((first | (go_at_call 172; with_reducible exact call_far (HT.out _)) | (go_at_call 173; with_reducible exact call_far (HB.out _)))) | quiet_step ((first | (go_at_call 172; with_reducible exact call_far (HT.out _)) | (go_at_call 173; with_reducible exact call_far (HB.out _))))))
                refine wpQuiet_nil ?_; intro w2 hw2
                have hb2 : Below w.heap.size w w2 := by obtain ⟨u, rfl⟩ := hw2; exact hbx.trans ((below_far W1 u).mono hbx.size)
                clear hw2
                go_wp2
                go_ret
                exact ⟨ret_bool HN.out.symm, hb2⟩
              | true =>
                have HN := Lib.hid (HY.out.2 ⟨rfl, h3', .inr hbx0⟩)
                go_wp2_with fail
                obtain ⟨W1, hW1⟩ : ∃ W1, W1 = wr.alloc (.cells #[.int .i64 d, .int .i64 o, .int .i64 r, .int .i64 n, .bool x, .bool s] 90) := ⟨_, rfl⟩
                rw [← hW1]
                have hbx : Below w.heap.size w W1 := by rw [hW1]; exact hb.alloc hbz _
                have HX : BoxT W1 wr.heap.size ⟨d, o, r, n, x, s⟩ := by rw [hW1]; exact BoxT.new wr ⟨d, o, r, n, x, s⟩
                obtain ⟨q0, q1, q2, q3, q4, q5⟩ := HX.cells; simp only at q0 q1 q2 q3 q4 q5
                have F0 := far_cell HX.lt q0; have F1 := far_cell HX.lt q1; have F2 := far_cell HX.lt q2; have F3 := far_cell HX.lt q3; have F4 := far_cell HX.lt q4; have F5 := far_cell HX.lt q5
                have HB := Lib.hid (fun x => is_box n _ ca l (far W1 x) ((HA.out.below hbx).below (below_far W1 x)) hn)
                have HT := Lib.hid (show ∀ W, Calls Try.prog 172 #[.agg #[.int .i64 d, .int .i64 o, .int .i64 r, .int .i64 n, .bool x, .bool s]] W fun e w' => e = .returned (.bool (okT ⟨d, o, r, n, x, s⟩)) ∧ Below W.heap.size W w' from fun W => is_thing ⟨d, o, r, n, x, s⟩ W)
                rw [hok] at HT
                rw [hbx0] at HB; have FP := far_cell (W := W1) (g := g') (by have := hbx.size; rw [hW1]; simp; omega) (show W1.cell? ⟨g', k' * 6, none⟩ = some (.int .i64 p) by rw [hW1]; exact (cell_alloc_old wr _ hg).trans P0.out)
                clear q0 q1 q2 q3 q4 q5 HX hW1
                refine wp_region_far (by kernel_rfl) (by kernel_rfl) ?_
                repeat (any_goals (first | go_big_quiet_step ((first | (go_at_call 172; with_reducible exact call_far (HT.out _)) | (go_at_call 173; with_reducible exact call_far (HB.out _)))) | quiet_step ((first | (go_at_call 172; with_reducible exact call_far (HT.out _)) | (go_at_call 173; with_reducible exact call_far (HB.out _))))))
                refine wpQuiet_nil ?_; intro w2 hw2
                have hb2 : Below w.heap.size w w2 := by obtain ⟨u, rfl⟩ := hw2; exact hbx.trans ((below_far W1 u).mono hbx.size)
                clear hw2
                go_wp2
                go_roundw
                case rel => exact ⟨k + 1, by omega, by go_num, Lib.hid (fun j hj => by
                  by_cases e : j = k
                  · subst e; exact HN.out
                  · exact HD.out j (by omega)), hb2⟩
                case measure => simp [intOf]; omega
    · obtain rfl : k = l.length := by omega
      have HN := Lib.hid (lisB_iff.2 HD.out)
      go_wp2
      go_ret
      exact ⟨ret_bool HN.out.symm, hb⟩
end Go.Proofs.Ytodphbnbljpegab

/- Several texts in one: ScF Fol Can CanS. -/
import Derived.Test.YtinijleelhbpoaaGreatBh
import Derived.Test.YtinijleelhbpoaaGreatEarS
import Derived.Test.YtinijleelhbpoaaGreatBj
import Derived.Test.YtinijleelhbpoaaGreatEarI
import Derived.Test.YtinijleelhbpoaaGreatBg
import Derived.Deep.Cut
/- What can follow, the plain mathematics. -/
namespace Go.Proofs.YtinijleelhbpoaaGreat
open Go.RowKit
theorem arr_ge {l : List Lg} {zs : List Int} {ch : Int} {fr : ByteArray} {a : Int} (hok : ∀ x ∈ l, legOk x = true) (hc : 0 ≤ ch) : ∀ (k : Nat) (q : ByteArray) (b : Int), arrT l zs ch fr a k q = some b → a ≤ b
 | 0, q, b, h => by
  have h' : (if q = fr then some a else none) = some b := h
  by_cases e : q = fr
  ·rw [if_pos e] at h'; have := Option.some.inj h'; omega
  ·rw [if_neg e] at h'; cases h'
 | k + 1, q, b, h => by
  have h' : roundT zs ch fr l (arrT l zs ch fr a k) q = some b := h
  by_cases e : roundT zs ch fr l (arrT l zs ch fr a k) q = arrT l zs ch fr a k q
  ·exact arr_ge hok hc k q b (e ▸ h')
  ·obtain ⟨y, hy, _, e1, he1, he2, _⟩ := round_new e
   obtain ⟨a1, h1, h2⟩ := legOut_some he1
   have h3 := arr_ge hok hc k y.f a1 h1
   have h4 := legEnd_gt (hok y hy) h2
   have h5 := ready_ge (ch := ch) (fr := fr) (p := y.f) (a := a1) hc
   rw [he2] at h'
   have := Option.some.inj h'
   omega
theorem arr_self {l : List Lg} {zs : List Int} {ch : Int} {fr : ByteArray} {a : Int} (hok : ∀ x ∈ l, legOk x = true) (hc : 0 ≤ ch) : ∀ k, arrT l zs ch fr a k fr = some a
 | 0 => if_pos rfl
 | k + 1 => by
  obtain ⟨e, he, hle⟩ := round_le (zs := zs) (ch := ch) (fr := fr) (l := l) (arr_self hok hc k)
  have h2 := arr_ge (l := l) (zs := zs) (ch := ch) (fr := fr) (a := a) hok hc (k + 1) fr e he
  have : e = a := by omega
  subst this
  exact he
/-- from a place to itself it takes no time -/
theorem ear_self {l : List Lg} {zs : List Int} {x : Int} {p : ByteArray} {at_ : Int} (hn : netB l zs x = true) (hp : p ∈ placesB l) (ha : 0 ≤ at_ ∧ at_ ≤ 100000) : earB l zs x p p at_ = at_ := by
 obtain ⟨hok', hx⟩ : (∀ j (hj : j < l.length), legOk l[j] = true) ∧ (0 ≤ x ∧ x ≤ 240) := ⟨(net_at hn).2.1, (net_at hn).2.2.2⟩
 have hok : ∀ z ∈ l, legOk z = true := fun z hz => by obtain ⟨j, hj, rfl⟩ := List.getElem_of_mem hz; exact hok' j hj
 obtain ⟨k, hk, hkl, hkp⟩ := idx_mem (pl_nodup l) hp
 unfold earB timeB
 rw [best_yes ⟨serv_iff.2 ⟨hn, hp⟩, ha.2, by omega⟩, listT_len, hk]
 rw [if_neg (by omega), show ((k : Nat) : Int).toNat = k from Int.toNat_natCast k, listT_at _ _ _ hkl, hkp, arr_self hok hx.1]
 show max at_ 0 = at_
 omega
/-- a scan can follow an earlier one of one thing -/
def folB (l : List Lg) (zs : List Int) (x : Int) (a b : Sc) : Bool :=
 if a.k = 4 then false
 else if a.k = 3 ∧ b.k = 2 ∧ a.g = b.g ∧ a.d = b.d then true
 else decide (0 ≤ earB l zs x (behP l zs x a) (befP l zs x b) (behA l zs x a)) && decide (earB l zs x (behP l zs x a) (befP l zs x b) (behA l zs x a) ≤ befA l zs x b)
def canB (l : List Lg) (zs : List Int) (x : Int) (a b : Sc) : Bool := scB l zs x a && (scB l zs x b && (decide (a.h = b.h) && (decide (cmpSc a b < 0) && folB l zs x a b)))
theorem fol_done {l : List Lg} {zs : List Int} {x : Int} {a b : Sc} (h : a.k = 4) : folB l zs x a b = false := if_pos h
theorem fol_same {l : List Lg} {zs : List Int} {x : Int} {a b : Sc} (h : a.k = 3 ∧ b.k = 2 ∧ a.g = b.g ∧ a.d = b.d) : folB l zs x a b = true := by unfold folB; rw [if_neg (by omega), if_pos h]
theorem fol_else {l : List Lg} {zs : List Int} {x : Int} {a b : Sc} (h4 : a.k ≠ 4) (h : ¬ (a.k = 3 ∧ b.k = 2 ∧ a.g = b.g ∧ a.d = b.d)) : folB l zs x a b = (decide (0 ≤ earB l zs x (behP l zs x a) (befP l zs x b) (behA l zs x a)) && decide (earB l zs x (behP l zs x a) (befP l zs x b) (behA l zs x a) ≤ befA l zs x b)) := by
 unfold folB; rw [if_neg h4, if_neg h]
/-- the place behind a valid scan is one of the network, and its time in the range -/
theorem beh_place {l : List Lg} {zs : List Int} {x : Int} {r : Sc} (h : scB l zs x r = true) : netB l zs x = true ∧ behP l zs x r ∈ placesB l ∧ 0 ≤ behA l zs x r ∧ behA l zs x r ≤ 100000 := by
 obtain ⟨hn, _, ha, hk⟩ := scB_iff.1 h
 refine ⟨hn, ?_⟩
 by_cases h3 : r.k = 3
 ·obtain ⟨e1, e2⟩ := beh_load h h3
  obtain ⟨_, _, k, hg, hkl, hl, _, hs1, hs2, hs3⟩ := trB_of (sc_trip h (Or.inr h3))
  dsimp only at hg hl
  rw [e1, e2, hl]
  exact ⟨(pl_place (List.getElem_mem hkl)).2, by omega, hs3⟩
 ·obtain ⟨e1, e2⟩ := beh_else h h3
  rw [e1, e2]
  refine ⟨?_, ha⟩
  by_cases h2 : r.k = 2
  ·rw [place_drop h h2]
   obtain ⟨_, _, k, hg, hkl, hl, _⟩ := trB_of (sc_trip h (Or.inl h2))
   dsimp only at hg hl
   rw [hl]
   exact (pl_place (List.getElem_mem hkl)).2
  ·rw [place_here h h3 h2]
   have hk' := sc_kind h
   rw [kind_here (by omega)] at hk
   simp only [Bool.and_eq_true] at hk
   exact (Lib.containsS_iff _ _).1 hk.2
end Go.Proofs.YtinijleelhbpoaaGreat

/- The contract of impl.follows. Written by mk/fol.py. -/
namespace Go.Proofs.YtinijleelhbpoaaGreat
open Go.RowKit
theorem place_size {l : List Lg} {zs : List Int} {x : Int} {r : Sc} (hs : ∀ z ∈ l, z.f.size ≤ maxLen ∧ z.t.size ≤ maxLen) (hp : r.p.size ≤ maxLen) : (placeSc l zs x r).size ≤ maxLen ∧ (behP l zs x r).size ≤ maxLen ∧ (befP l zs x r).size ≤ maxLen := by
 have h0 : ((⟨#[]⟩ : ByteArray).size) ≤ maxLen := by unfold maxLen; decide
 cases h : scB l zs x r with
 | false => rw [place_no h, (beh_no h).1, (bef_no h).1]; exact ⟨h0, h0, h0⟩
 | true =>
  have hk := sc_kind h
  by_cases h3 : r.k = 3 ∨ r.k = 2
  ·obtain ⟨_, _, k, hg, hkl, hl, _⟩ := trB_of (sc_trip h (by omega))
   dsimp only at hg hl
   have hz := hs _ (List.getElem_mem hkl)
   rw [(bef_trip h h3).1]
   rcases h3 with h3 | h2
   ·rw [place_load h h3, (beh_load h h3).1, hl]; exact ⟨hz.1, hz.2, hz.1⟩
   ·rw [(beh_else h (by omega)).1, place_drop h h2, hl]; exact ⟨hz.2, hz.2, hz.1⟩
  ·rw [(bef_else h h3).1, (beh_else h (by omega)).1, place_here h (by omega) (by omega)]; exact ⟨hp, hp, hp⟩
theorem beh_ge {l : List Lg} {zs : List Int} {x : Int} {r : Sc} : 0 ≤ behA l zs x r ∧ behA l zs x r ≤ 100000 := by
 cases h : scB l zs x r with
 | false => rw [(beh_no h).2]; omega
 | true => exact (beh_place h).2.2
set_option maxRecDepth 100000 in
set_option maxHeartbeats 8000000 in
theorem fol_impl (h a k : Int) (p : ByteArray) (g d : Int) (h' a' k' : Int) (p' : ByteArray) (g' d' : Int) (A : Option Addr) (ca : Nat) (l : List Lg) (D : Option Addr) (cd : Nat) (zs : List Int) (x : Int) (w : World) (hA : InK 6 lgC w A l) (hD : IntsIn w D zs) (hs : ∀ z ∈ l, z.f.size ≤ maxLen ∧ z.t.size ≤ maxLen) (hn : l.length ≤ 1048576) (hm : zs.length ≤ 1048576) (hp : p.size ≤ maxLen) :
  Calls Tryz.prog 84 #[.agg #[.slice A l.length ca, .slice D zs.length cd, .int .i64 x], .agg #[.int .i64 h, .int .i64 a, .int .i64 k, .string p, .int .i64 g, .int .i64 d], .agg #[.int .i64 h', .int .i64 a', .int .i64 k', .string p', .int .i64 g', .int .i64 d']] w fun e w' => e = .returned (.bool (folB l zs x ⟨h, a, k, p, g, d⟩ ⟨h', a', k', p', g', d'⟩)) ∧ Below w.heap.size w w' := by
 have H3 := Lib.hid (three w (.cells #[.slice A l.length ca, .slice D zs.length cd, .int .i64 x] 27) (.cells #[.int .i64 h, .int .i64 a, .int .i64 k, .string p, .int .i64 g, .int .i64 d] 34) (.cells #[.int .i64 h', .int .i64 a', .int .i64 k', .string p', .int .i64 g', .int .i64 d'] 34))
 have HA := Lib.hid (hA.below H3.out.2.2.2.1); have HD := Lib.hid (hD.below H3.out.2.2.2.1); clear hA hD
 have HBH := Lib.hid (fun W (h1 : InK 6 lgC W A l) (h2 : IntsIn W D zs) => behind_impl h a k p g d A ca l D cd zs x W h1 h2 hs hn hm)
 have HBF := Lib.hid (fun W (h1 : InK 6 lgC W A l) (h2 : IntsIn W D zs) => before_impl h' a' k' p' g' d' A ca l D cd zs x W h1 h2 hs hn hm)
 have HEA := Lib.hid (fun W (h1 : InK 6 lgC W A l) (h2 : IntsIn W D zs) => early_impl (behP l zs x ⟨h, a, k, p, g, d⟩) (befP l zs x ⟨h', a', k', p', g', d'⟩) (behA l zs x ⟨h, a, k, p, g, d⟩) (place_size hs hp).2.1 (by have := (beh_ge (l := l) (zs := zs) (x := x) (r := ⟨h, a, k, p, g, d⟩)).1; omega) A ca l D cd zs x W h1 h2 hs hn hm)
 have HEB := Lib.hid (ear_bd l zs x (behP l zs x ⟨h, a, k, p, g, d⟩) (befP l zs x ⟨h', a', k', p', g', d'⟩) (behA l zs x ⟨h, a, k, p, g, d⟩))
 have HV4 := Lib.hid (fun q => fol_done (l := l) (zs := zs) (x := x) (a := ⟨h, a, k, p, g, d⟩) (b := ⟨h', a', k', p', g', d'⟩) q)
 have HVS := Lib.hid (fun q => fol_same (l := l) (zs := zs) (x := x) (a := ⟨h, a, k, p, g, d⟩) (b := ⟨h', a', k', p', g', d'⟩) q)
 have HVE := Lib.hid (fun q q2 => fol_else (l := l) (zs := zs) (x := x) (a := ⟨h, a, k, p, g, d⟩) (b := ⟨h', a', k', p', g', d'⟩) q q2)
 dsimp only at HV4 HVS HVE
 clear hs
 generalize folB l zs x ⟨h, a, k, p, g, d⟩ ⟨h', a', k', p', g', d'⟩ = V at *
 generalize earB l zs x (behP l zs x ⟨h, a, k, p, g, d⟩) (befP l zs x ⟨h', a', k', p', g', d'⟩) (behA l zs x ⟨h, a, k, p, g, d⟩) = E at *
 generalize behP l zs x ⟨h, a, k, p, g, d⟩ = BP at *
 generalize behA l zs x ⟨h, a, k, p, g, d⟩ = BA at *
 generalize befP l zs x ⟨h', a', k', p', g', d'⟩ = FP at *
 generalize befA l zs x ⟨h', a', k', p', g', d'⟩ = FT at *
 by_cases k4 : k = 4
 ·have HV := Lib.hid (HV4.out k4)
  have HB0 := Lib.hid H3.out.2.2.2.1
  have t4 : (k == 4) = true := by simp [k4]
  clear HV4 HVS HVE HBH HBF HEA HEB k4 HA HD H3
  go_enter Tryz.func84, Tryz.ntmps84
  go_wp2
  go_ret
  exact ⟨ret_bool HV.out.symm, HB0.out⟩
 have t4 : (k == 4) = false := by simp [k4]
 have hEQ := trip_eql g d g' d'
 by_cases q0 : k = 3 ∧ k' = 2 ∧ g = g' ∧ d = d'
 ·have HV := Lib.hid (HVS.out q0)
  have HB0 := Lib.hid H3.out.2.2.2.1
  have t3 : (k == 3) = true := by simp [q0.1]
  have t2 : (k' == 2) = true := by simp [q0.2.1]
  rw [show (g == g' && d == d') = true by simp [q0.2.2.1, q0.2.2.2]] at hEQ
  clear HV4 HVS HVE HBH HBF HEA HEB k4 q0 HA HD H3
  go_enter Tryz.func84, Tryz.ntmps84
  go_wp2
  go_ret
  exact ⟨ret_bool HV.out.symm, HB0.out⟩
 have HV := Lib.hid (HVE.out k4 q0); clear HV4 HVS HVE k4
 have HF := Lib.hid (show (k == 3) = false ∨ ((k == 3) = true ∧ (k' == 2) = false) ∨ ((k == 3) = true ∧ (k' == 2) = true ∧ (g == g' && d == d') = false) by
  by_cases e3 : k = 3
  ·by_cases e2 : k' = 2
   ·refine .inr (.inr ⟨by simp [e3], by simp [e2], ?_⟩)
    cases e : (g == g' && d == d') with
    | false => rfl
    | true => simp only [Bool.and_eq_true, beq_iff_eq] at e; exact absurd ⟨e3, e2, e.1, e.2⟩ q0
   ·exact .inr (.inl ⟨by simp [e3], by simp [e2]⟩)
  ·exact .inl (by simp [e3]))
 clear q0
 go_enter Tryz.func84, Tryz.ntmps84
 go_upto_region 3 with (fail)
 generalize hB : w.heap.size = B at *
 have HBE := Lib.hid hB; clear hB
 generalize ((w.alloc (.cells #[.slice A l.length ca, .slice D zs.length cd, .int .i64 x] 27)).alloc (.cells #[.int .i64 h, .int .i64 a, .int .i64 k, .string p, .int .i64 g, .int .i64 d] 34)).alloc (.cells #[.int .i64 h', .int .i64 a', .int .i64 k', .string p', .int .i64 g', .int .i64 d'] 34) = W at *
 obtain ⟨h1, h2, h3, h4, h5⟩ := H3.out
 have FN := Lib.hid (show Box3 27 W B (.slice A l.length ca) (.slice D zs.length cd) (.int .i64 x) from h1)
 have FA := Lib.hid h2; have FB := Lib.hid h3
 have HB0 := Lib.hid h4
 have hW0 : B < W.heap.size := by omega
 have hW1 : B + 1 < W.heap.size := by omega
 have hW2 : B + 2 < W.heap.size := by omega
 clear h1 h2 h3 h4
 obtain ⟨b0, b1, b2⟩ := FN.out.cells
 obtain ⟨s0, s1, s2, s3, s4, s5⟩ := row6 FA.out
 obtain ⟨q0, q1, q2, q3, q4, q5⟩ := row6 FB.out
 go_cut [27] from 10 (fun v wx => v = .bool false ∧ W = wx)
 case first =>
  rcases HF.out with t3 | ⟨t3, t2⟩ | ⟨t3, t2, tq⟩
  ·clear hEQ
   go_wp2
   go_meet
   exact ⟨rfl, rfl⟩
  ·clear hEQ
   go_wp2
   go_meet
   exact ⟨rfl, rfl⟩
  ·rw [tq] at hEQ
   clear tq
   go_wp2
   go_meet
   exact ⟨rfl, rfl⟩
 case rest =>
  obtain ⟨rfl, rfl⟩ := hcut
  clear hEQ t4 HF
  go_wp2_with fail
  have HBH1 := Lib.hid (fun W' (hh : Below W.heap.size W W') => HBH.out W' (HA.out.below hh) (HD.out.below hh))
  have HBF1 := Lib.hid (fun W' (hh : Below W.heap.size W W') => HBF.out W' (HA.out.below hh) (HD.out.below hh))
  clear HBH HBF
  go_cut [7, 8] from 9 (fun v7 v8 wx => ∃ X Y, v7 = .pointer (some ⟨X, 0, none⟩) ∧ v8 = .pointer (some ⟨Y, 0, none⟩) ∧ wx.cell? ⟨X, 0, none⟩ = some (.string BP) ∧ wx.cell? ⟨X, 1, none⟩ = some (.int .i64 BA) ∧ wx.cell? ⟨Y, 0, none⟩ = some (.string FP) ∧ wx.cell? ⟨Y, 1, none⟩ = some (.int .i64 FT) ∧ Below W.heap.size W wx)
  case first =>
   refine wp_region_held_drew (S := fun w' => Below W.heap.size W w') (by kernel_rfl) (Below.refl _ _).drew (fun hHeld => ?_)
   try dsimp only
   try simp only [Act.put]
   try simp only [List.setIfInBounds_toArray]
   try simp only [List.set_cons_zero, List.set_cons_succ]
   refine wpAnyH_take (i := 0) (oi := _) (v := ?vq0) rfl (by kernel_rfl) (by kernel_rfl) (by kernel_rfl) (fun _ _ _ h => h) (Or.inl ⟨by rfl, ?hyq0⟩) (by assumption) ?restq0
   case hyq0 => (intro w hSw; (have y0 := (Below.cell (show Below W.heap.size W w from hSw) (p := ⟨B, 0, none⟩) hW0).trans b0); (have y1 := (Below.cell (show Below W.heap.size W w from hSw) (p := ⟨B, 1, none⟩) hW0).trans b1); (have y2 := (Below.cell (show Below W.heap.size W w from hSw) (p := ⟨B, 2, none⟩) hW0).trans b2); clear hSw; go_simp <;> try with_reducible rfl)
   try dsimp only
   try simp only [List.getElem_toArray, List.getElem_cons_zero]
   try simp only [Act.put]
   try simp only [List.setIfInBounds_toArray]
   try simp only [List.set_cons_zero, List.set_cons_succ]
   refine wpAnyH_take (i := 1) (oi := _) (v := ?vq1) rfl (by kernel_rfl) (by kernel_rfl) (by kernel_rfl) (fun _ _ _ h => h) (Or.inl ⟨by rfl, ?hyq1⟩) (by assumption) ?restq1
   case hyq1 => (intro w hSw; (have y0 := (Below.cell (show Below W.heap.size W w from hSw) (p := ⟨B + 1, 0, none⟩) hW1).trans s0); (have y1 := (Below.cell (show Below W.heap.size W w from hSw) (p := ⟨B + 1, 1, none⟩) hW1).trans s1); (have y2 := (Below.cell (show Below W.heap.size W w from hSw) (p := ⟨B + 1, 2, none⟩) hW1).trans s2); (have y3 := (Below.cell (show Below W.heap.size W w from hSw) (p := ⟨B + 1, 3, none⟩) hW1).trans s3); (have y4 := (Below.cell (show Below W.heap.size W w from hSw) (p := ⟨B + 1, 4, none⟩) hW1).trans s4); (have y5 := (Below.cell (show Below W.heap.size W w from hSw) (p := ⟨B + 1, 5, none⟩) hW1).trans s5); clear hSw; go_simp <;> try with_reducible rfl)
   try dsimp only
   try simp only [List.getElem_toArray, List.getElem_cons_succ, List.getElem_cons_zero]
   try simp only [Act.put]
   try simp only [List.setIfInBounds_toArray]
   try simp only [List.set_cons_zero, List.set_cons_succ]
   refine wpAnyH_take (i := 3) (oi := _) (v := ?vq3) rfl (by kernel_rfl) (by kernel_rfl) (by kernel_rfl) (fun _ _ _ h => h) (Or.inl ⟨by rfl, ?hyq3⟩) (by assumption) ?restq3
   case hyq3 => (intro w hSw; (have y0 := (Below.cell (show Below W.heap.size W w from hSw) (p := ⟨B, 0, none⟩) hW0).trans b0); (have y1 := (Below.cell (show Below W.heap.size W w from hSw) (p := ⟨B, 1, none⟩) hW0).trans b1); (have y2 := (Below.cell (show Below W.heap.size W w from hSw) (p := ⟨B, 2, none⟩) hW0).trans b2); clear hSw; go_simp <;> try with_reducible rfl)
   try dsimp only
   try simp only [List.getElem_toArray, List.getElem_cons_succ, List.getElem_cons_zero]
   try simp only [Act.put]
   try simp only [List.setIfInBounds_toArray]
   try simp only [List.set_cons_zero, List.set_cons_succ]
   refine wpAnyH_take (i := 4) (oi := _) (v := ?vq4) rfl (by kernel_rfl) (by kernel_rfl) (by kernel_rfl) (fun _ _ _ h => h) (Or.inl ⟨by rfl, ?hyq4⟩) (by assumption) ?restq4
   case hyq4 => (intro w hSw; (have y0 := (Below.cell (show Below W.heap.size W w from hSw) (p := ⟨B + 2, 0, none⟩) hW2).trans q0); (have y1 := (Below.cell (show Below W.heap.size W w from hSw) (p := ⟨B + 2, 1, none⟩) hW2).trans q1); (have y2 := (Below.cell (show Below W.heap.size W w from hSw) (p := ⟨B + 2, 2, none⟩) hW2).trans q2); (have y3 := (Below.cell (show Below W.heap.size W w from hSw) (p := ⟨B + 2, 3, none⟩) hW2).trans q3); (have y4 := (Below.cell (show Below W.heap.size W w from hSw) (p := ⟨B + 2, 4, none⟩) hW2).trans q4); (have y5 := (Below.cell (show Below W.heap.size W w from hSw) (p := ⟨B + 2, 5, none⟩) hW2).trans q5); clear hSw; go_simp <;> try with_reducible rfl)
   try dsimp only
   try simp only [List.getElem_toArray, List.getElem_cons_succ, List.getElem_cons_zero]
   try simp only [Act.put]
   try simp only [List.setIfInBounds_toArray]
   try simp only [List.set_cons_zero, List.set_cons_succ]
   clear b0 b1 b2 s0 s1 s2 s3 s4 s5 q0 q1 q2 q3 q4 q5
   generalize W.drew = V at *
   refine wpAnyH_ready (rs := [2, 6, 7]) (by kernel_rfl) (by simp) ?_
   refine AllReadyH.cons (o := _) rfl (fun K hK => ?_) ?_
   ·skip
    go_simp
    go_at_call 130
    refine (HBH1.out V hHeld).mono ?_; rintro e V1 ⟨rfl, hu⟩
    have hbu : Below W.heap.size W V1 := hHeld.trans (hu.mono hHeld.size)
    clear hu hHeld
    refine hK.out _ _ ?_ (fun hH1 => ?_)
    ·exact hbu
    clear hK K
    clear hbu
    try dsimp only
    try simp only [List.getElem_toArray, List.getElem_cons_succ, List.getElem_cons_zero]
    try simp only [Act.put]
    try simp only [List.setIfInBounds_toArray]
    try simp only [List.set_cons_zero, List.set_cons_succ]
    refine wpAnyH_ready (rs := [5, 6, 7]) (by kernel_rfl) (by simp) ?_
    refine AllReadyH.cons (o := _) rfl (fun K hK => ?_) ?_
    ·skip
     go_simp
     go_at_call 148
     refine (HBF1.out V1 hH1).mono ?_; rintro e V2 ⟨rfl, hu⟩
     have hbu : Below W.heap.size W V2 := hH1.trans (hu.mono hH1.size)
     clear hu hH1
     refine hK.out _ _ ?_ (fun hH2 => ?_)
     ·exact hbu
     clear hK K
     clear hbu
     try dsimp only
     try simp only [List.getElem_toArray, List.getElem_cons_succ, List.getElem_cons_zero]
     try simp only [Act.put]
     try simp only [List.setIfInBounds_toArray]
     try simp only [List.set_cons_zero, List.set_cons_succ]
     refine wpAnyH_ready (rs := [6, 7]) (by kernel_rfl) (by simp) ?_
     refine AllReadyH.cons (o := _) rfl (fun K hK => ?_) ?_
     ·skip
      go_simp
      have hba := hH2.alloc hH2.size (.cells #[.string ⟨#[]⟩, .int .i64 0] 127)
      have FX := Lib.hid (Box2.new (T := 127) (v0 := .string ⟨#[]⟩) (v1 := .int .i64 0) V2)
      have hlX := hH2.size
      clear hH2
      refine hK.out _ _ ?_ (fun hH3 => ?_)
      ·exact hba
      clear hK K
      clear hba
      generalize V2.heap.size = X at *
      generalize V2.alloc (.cells #[.string ⟨#[]⟩, .int .i64 0] 127) = V3 at *
      clear V2
      try dsimp only
      try simp only [List.getElem_toArray, List.getElem_cons_succ, List.getElem_cons_zero]
      try simp only [Act.put]
      try simp only [List.setIfInBounds_toArray]
      try simp only [List.set_cons_zero, List.set_cons_succ]
      refine wpAnyH_ready (rs := [7]) (by kernel_rfl) (by simp) ?_
      refine AllReadyH.cons (o := _) rfl (fun K hK => ?_) ?_
      ·skip
       go_simp
       have hba := hH3.alloc hH3.size (.cells #[.string ⟨#[]⟩, .int .i64 0] 127)
       have FY := Lib.hid (Box2.new (T := 127) (v0 := .string ⟨#[]⟩) (v1 := .int .i64 0) V3)
       have hlY := hH3.size
       have hne : ¬ X = V3.heap.size := by have := FX.out.lt; omega
       replace FX := Lib.hid (FX.out.below ((Below.refl _ _).alloc (Nat.le_refl _) (.cells #[.string ⟨#[]⟩, .int .i64 0] 127)))
       clear hH3
       refine hK.out _ _ ?_ (fun hH4 => ?_)
       ·exact hba
       clear hK K
       clear hba
       generalize V3.heap.size = Y at *
       generalize V3.alloc (.cells #[.string ⟨#[]⟩, .int .i64 0] 127) = V4 at *
       clear V3
       try dsimp only
       try simp only [List.getElem_toArray, List.getElem_cons_succ, List.getElem_cons_zero]
       try simp only [Act.put]
       try simp only [List.setIfInBounds_toArray]
       try simp only [List.set_cons_zero, List.set_cons_succ]
       refine wpAnyH_ready (rs := [8]) (by kernel_rfl) (by simp) ?_
       refine AllReadyH.cons (o := _) rfl (fun K hK => ?_) ?_
       ·skip
        obtain ⟨x0, x1⟩ := FX.out.cells
        obtain ⟨y0, y1⟩ := FX.out.free
        go_simp
        clear x0 x1 y0 y1
        have hba := (hH4.setCell (p := ⟨X, 0, none⟩) hlX (.string BP)).setCell (p := ⟨X, 1, none⟩) hlX (.int .i64 BA)
        replace FX := Lib.hid (box_put (v0 := .string BP) (v1 := .int .i64 BA) FX.out)
        replace FY := Lib.hid ((FY.out.other (C := X) (o := 0) (x := .string BP) (fun e => hne (by omega))).other (C := X) (o := 1) (x := .int .i64 BA) (fun e => hne (by omega)))
        clear hH4
        refine hK.out _ _ ?_ (fun hH5 => ?_)
        ·exact hba
        clear hK K
        clear hba
        generalize (V4.setCell ⟨X, 0, none⟩ (.string BP)).setCell ⟨X, 1, none⟩ (.int .i64 BA) = V5 at *
        clear V4
        try dsimp only
        try simp only [List.getElem_toArray, List.getElem_cons_succ, List.getElem_cons_zero]
        try simp only [Act.put]
        try simp only [List.setIfInBounds_toArray]
        try simp only [List.set_cons_zero, List.set_cons_succ]
        refine wpAnyH_ready (rs := [9]) (by kernel_rfl) (by simp) ?_
        refine AllReadyH.cons (o := _) rfl (fun K hK => ?_) ?_
        ·skip
         obtain ⟨x0, x1⟩ := FY.out.cells
         obtain ⟨y0, y1⟩ := FY.out.free
         go_simp
         clear x0 x1 y0 y1
         have hba := (hH5.setCell (p := ⟨Y, 0, none⟩) hlY (.string FP)).setCell (p := ⟨Y, 1, none⟩) hlY (.int .i64 FT)
         replace FY := Lib.hid (box_put (v0 := .string FP) (v1 := .int .i64 FT) FY.out)
         replace FX := Lib.hid ((FX.out.other (C := Y) (o := 0) (x := .string FP) (fun e => hne (by omega))).other (C := Y) (o := 1) (x := .int .i64 FT) (fun e => hne (by omega)))
         clear hH5
         refine hK.out _ _ ?_ (fun hH6 => ?_)
         ·exact hba
         clear hK K
         clear hba
         generalize (V5.setCell ⟨Y, 0, none⟩ (.string FP)).setCell ⟨Y, 1, none⟩ (.int .i64 FT) = V6 at *
         clear V5
         try dsimp only
         try simp only [List.getElem_toArray, List.getElem_cons_succ, List.getElem_cons_zero]
         try simp only [Act.put]
         try simp only [List.setIfInBounds_toArray]
         try simp only [List.set_cons_zero, List.set_cons_succ]
         refine wpAnyH_done (by kernel_rfl) ?_ _
         try dsimp only [Act.put, Oper.dst]
         try dsimp only
         try simp only [Act.put]
         try simp only [List.setIfInBounds_toArray]
         try simp only [List.set_cons_zero, List.set_cons_succ]
         go_wp2_with fail
         go_meet
         exact ⟨X, Y, rfl, rfl, FX.out.cells.1, FX.out.cells.2, FY.out.cells.1, FY.out.cells.2, hH6⟩
        exact AllReadyH.nil
       exact AllReadyH.nil
      exact AllReadyH.nil
     refine AllReadyH.cons (o := _) rfl (fun K hK => ?_) ?_
     ·skip
      go_simp
      have hba := hH2.alloc hH2.size (.cells #[.string ⟨#[]⟩, .int .i64 0] 127)
      have FY := Lib.hid (Box2.new (T := 127) (v0 := .string ⟨#[]⟩) (v1 := .int .i64 0) V2)
      have hlY := hH2.size
      clear hH2
      refine hK.out _ _ ?_ (fun hH3 => ?_)
      ·exact hba
      clear hK K
      clear hba
      generalize V2.heap.size = Y at *
      generalize V2.alloc (.cells #[.string ⟨#[]⟩, .int .i64 0] 127) = V3 at *
      clear V2
      try dsimp only
      try simp only [List.getElem_toArray, List.getElem_cons_succ, List.getElem_cons_zero]
      try simp only [Act.put]
      try simp only [List.setIfInBounds_toArray]
      try simp only [List.set_cons_zero, List.set_cons_succ]
      refine wpAnyH_ready (rs := [6]) (by kernel_rfl) (by simp) ?_
      refine AllReadyH.cons (o := _) rfl (fun K hK => ?_) ?_
      ·skip
       go_simp
       have hba := hH3.alloc hH3.size (.cells #[.string ⟨#[]⟩, .int .i64 0] 127)
       have FX := Lib.hid (Box2.new (T := 127) (v0 := .string ⟨#[]⟩) (v1 := .int .i64 0) V3)
       have hlX := hH3.size
       have hne : ¬ Y = V3.heap.size := by have := FY.out.lt; omega
       replace FY := Lib.hid (FY.out.below ((Below.refl _ _).alloc (Nat.le_refl _) (.cells #[.string ⟨#[]⟩, .int .i64 0] 127)))
       clear hH3
       refine hK.out _ _ ?_ (fun hH4 => ?_)
       ·exact hba
       clear hK K
       clear hba
       generalize V3.heap.size = X at *
       generalize V3.alloc (.cells #[.string ⟨#[]⟩, .int .i64 0] 127) = V4 at *
       clear V3
       try dsimp only
       try simp only [List.getElem_toArray, List.getElem_cons_succ, List.getElem_cons_zero]
       try simp only [Act.put]
       try simp only [List.setIfInBounds_toArray]
       try simp only [List.set_cons_zero, List.set_cons_succ]
       refine wpAnyH_ready (rs := [8]) (by kernel_rfl) (by simp) ?_
       refine AllReadyH.cons (o := _) rfl (fun K hK => ?_) ?_
       ·skip
        obtain ⟨x0, x1⟩ := FX.out.cells
        obtain ⟨y0, y1⟩ := FX.out.free
        go_simp
        clear x0 x1 y0 y1
        have hba := (hH4.setCell (p := ⟨X, 0, none⟩) hlX (.string BP)).setCell (p := ⟨X, 1, none⟩) hlX (.int .i64 BA)
        replace FX := Lib.hid (box_put (v0 := .string BP) (v1 := .int .i64 BA) FX.out)
        replace FY := Lib.hid ((FY.out.other (C := X) (o := 0) (x := .string BP) (fun e => hne (by omega))).other (C := X) (o := 1) (x := .int .i64 BA) (fun e => hne (by omega)))
        clear hH4
        refine hK.out _ _ ?_ (fun hH5 => ?_)
        ·exact hba
        clear hK K
        clear hba
        generalize (V4.setCell ⟨X, 0, none⟩ (.string BP)).setCell ⟨X, 1, none⟩ (.int .i64 BA) = V5 at *
        clear V4
        try dsimp only
        try simp only [List.getElem_toArray, List.getElem_cons_succ, List.getElem_cons_zero]
        try simp only [Act.put]
        try simp only [List.setIfInBounds_toArray]
        try simp only [List.set_cons_zero, List.set_cons_succ]
        refine wpAnyH_ready (rs := [9]) (by kernel_rfl) (by simp) ?_
        refine AllReadyH.cons (o := _) rfl (fun K hK => ?_) ?_
        ·skip
         obtain ⟨x0, x1⟩ := FY.out.cells
         obtain ⟨y0, y1⟩ := FY.out.free
         go_simp
         clear x0 x1 y0 y1
         have hba := (hH5.setCell (p := ⟨Y, 0, none⟩) hlY (.string FP)).setCell (p := ⟨Y, 1, none⟩) hlY (.int .i64 FT)
         replace FY := Lib.hid (box_put (v0 := .string FP) (v1 := .int .i64 FT) FY.out)
         replace FX := Lib.hid ((FX.out.other (C := Y) (o := 0) (x := .string FP) (fun e => hne (by omega))).other (C := Y) (o := 1) (x := .int .i64 FT) (fun e => hne (by omega)))
         clear hH5
         refine hK.out _ _ ?_ (fun hH6 => ?_)
         ·exact hba
         clear hK K
         clear hba
         generalize (V5.setCell ⟨Y, 0, none⟩ (.string FP)).setCell ⟨Y, 1, none⟩ (.int .i64 FT) = V6 at *
         clear V5
         try dsimp only
         try simp only [List.getElem_toArray, List.getElem_cons_succ, List.getElem_cons_zero]
         try simp only [Act.put]
         try simp only [List.setIfInBounds_toArray]
         try simp only [List.set_cons_zero, List.set_cons_succ]
         refine wpAnyH_done (by kernel_rfl) ?_ _
         try dsimp only [Act.put, Oper.dst]
         try dsimp only
         try simp only [Act.put]
         try simp only [List.setIfInBounds_toArray]
         try simp only [List.set_cons_zero, List.set_cons_succ]
         go_wp2_with fail
         go_meet
         exact ⟨X, Y, rfl, rfl, FX.out.cells.1, FX.out.cells.2, FY.out.cells.1, FY.out.cells.2, hH6⟩
        exact AllReadyH.nil
       exact AllReadyH.nil
      exact AllReadyH.nil
     exact AllReadyH.nil
    refine AllReadyH.cons (o := _) rfl (fun K hK => ?_) ?_
    ·skip
     go_simp
     have hba := hH1.alloc hH1.size (.cells #[.string ⟨#[]⟩, .int .i64 0] 127)
     have FX := Lib.hid (Box2.new (T := 127) (v0 := .string ⟨#[]⟩) (v1 := .int .i64 0) V1)
     have hlX := hH1.size
     clear hH1
     refine hK.out _ _ ?_ (fun hH2 => ?_)
     ·exact hba
     clear hK K
     clear hba
     generalize V1.heap.size = X at *
     generalize V1.alloc (.cells #[.string ⟨#[]⟩, .int .i64 0] 127) = V2 at *
     clear V1
     try dsimp only
     try simp only [List.getElem_toArray, List.getElem_cons_succ, List.getElem_cons_zero]
     try simp only [Act.put]
     try simp only [List.setIfInBounds_toArray]
     try simp only [List.set_cons_zero, List.set_cons_succ]
     refine wpAnyH_ready (rs := [5, 7]) (by kernel_rfl) (by simp) ?_
     refine AllReadyH.cons (o := _) rfl (fun K hK => ?_) ?_
     ·skip
      go_simp
      go_at_call 148
      refine (HBF1.out V2 hH2).mono ?_; rintro e V3 ⟨rfl, hu⟩
      have hbu : Below W.heap.size W V3 := hH2.trans (hu.mono hH2.size)
      replace FX := Lib.hid (FX.out.below hu)
      clear hu hH2
      refine hK.out _ _ ?_ (fun hH3 => ?_)
      ·exact hbu
      clear hK K
      clear hbu
      try dsimp only
      try simp only [List.getElem_toArray, List.getElem_cons_succ, List.getElem_cons_zero]
      try simp only [Act.put]
      try simp only [List.setIfInBounds_toArray]
      try simp only [List.set_cons_zero, List.set_cons_succ]
      refine wpAnyH_ready (rs := [7]) (by kernel_rfl) (by simp) ?_
      refine AllReadyH.cons (o := _) rfl (fun K hK => ?_) ?_
      ·skip
       go_simp
       have hba := hH3.alloc hH3.size (.cells #[.string ⟨#[]⟩, .int .i64 0] 127)
       have FY := Lib.hid (Box2.new (T := 127) (v0 := .string ⟨#[]⟩) (v1 := .int .i64 0) V3)
       have hlY := hH3.size
       have hne : ¬ X = V3.heap.size := by have := FX.out.lt; omega
       replace FX := Lib.hid (FX.out.below ((Below.refl _ _).alloc (Nat.le_refl _) (.cells #[.string ⟨#[]⟩, .int .i64 0] 127)))
       clear hH3
       refine hK.out _ _ ?_ (fun hH4 => ?_)
       ·exact hba
       clear hK K
       clear hba
       generalize V3.heap.size = Y at *
       generalize V3.alloc (.cells #[.string ⟨#[]⟩, .int .i64 0] 127) = V4 at *
       clear V3
       try dsimp only
       try simp only [List.getElem_toArray, List.getElem_cons_succ, List.getElem_cons_zero]
       try simp only [Act.put]
       try simp only [List.setIfInBounds_toArray]
       try simp only [List.set_cons_zero, List.set_cons_succ]
       refine wpAnyH_ready (rs := [8]) (by kernel_rfl) (by simp) ?_
       refine AllReadyH.cons (o := _) rfl (fun K hK => ?_) ?_
       ·skip
        obtain ⟨x0, x1⟩ := FX.out.cells
        obtain ⟨y0, y1⟩ := FX.out.free
        go_simp
        clear x0 x1 y0 y1
        have hba := (hH4.setCell (p := ⟨X, 0, none⟩) hlX (.string BP)).setCell (p := ⟨X, 1, none⟩) hlX (.int .i64 BA)
        replace FX := Lib.hid (box_put (v0 := .string BP) (v1 := .int .i64 BA) FX.out)
        replace FY := Lib.hid ((FY.out.other (C := X) (o := 0) (x := .string BP) (fun e => hne (by omega))).other (C := X) (o := 1) (x := .int .i64 BA) (fun e => hne (by omega)))
        clear hH4
        refine hK.out _ _ ?_ (fun hH5 => ?_)
        ·exact hba
        clear hK K
        clear hba
        generalize (V4.setCell ⟨X, 0, none⟩ (.string BP)).setCell ⟨X, 1, none⟩ (.int .i64 BA) = V5 at *
        clear V4
        try dsimp only
        try simp only [List.getElem_toArray, List.getElem_cons_succ, List.getElem_cons_zero]
        try simp only [Act.put]
        try simp only [List.setIfInBounds_toArray]
        try simp only [List.set_cons_zero, List.set_cons_succ]
        refine wpAnyH_ready (rs := [9]) (by kernel_rfl) (by simp) ?_
        refine AllReadyH.cons (o := _) rfl (fun K hK => ?_) ?_
        ·skip
         obtain ⟨x0, x1⟩ := FY.out.cells
         obtain ⟨y0, y1⟩ := FY.out.free
         go_simp
         clear x0 x1 y0 y1
         have hba := (hH5.setCell (p := ⟨Y, 0, none⟩) hlY (.string FP)).setCell (p := ⟨Y, 1, none⟩) hlY (.int .i64 FT)
         replace FY := Lib.hid (box_put (v0 := .string FP) (v1 := .int .i64 FT) FY.out)
         replace FX := Lib.hid ((FX.out.other (C := Y) (o := 0) (x := .string FP) (fun e => hne (by omega))).other (C := Y) (o := 1) (x := .int .i64 FT) (fun e => hne (by omega)))
         clear hH5
         refine hK.out _ _ ?_ (fun hH6 => ?_)
         ·exact hba
         clear hK K
         clear hba
         generalize (V5.setCell ⟨Y, 0, none⟩ (.string FP)).setCell ⟨Y, 1, none⟩ (.int .i64 FT) = V6 at *
         clear V5
         try dsimp only
         try simp only [List.getElem_toArray, List.getElem_cons_succ, List.getElem_cons_zero]
         try simp only [Act.put]
         try simp only [List.setIfInBounds_toArray]
         try simp only [List.set_cons_zero, List.set_cons_succ]
         refine wpAnyH_done (by kernel_rfl) ?_ _
         try dsimp only [Act.put, Oper.dst]
         try dsimp only
         try simp only [Act.put]
         try simp only [List.setIfInBounds_toArray]
         try simp only [List.set_cons_zero, List.set_cons_succ]
         go_wp2_with fail
         go_meet
         exact ⟨X, Y, rfl, rfl, FX.out.cells.1, FX.out.cells.2, FY.out.cells.1, FY.out.cells.2, hH6⟩
        exact AllReadyH.nil
       exact AllReadyH.nil
      exact AllReadyH.nil
     refine AllReadyH.cons (o := _) rfl (fun K hK => ?_) ?_
     ·skip
      go_simp
      have hba := hH2.alloc hH2.size (.cells #[.string ⟨#[]⟩, .int .i64 0] 127)
      have FY := Lib.hid (Box2.new (T := 127) (v0 := .string ⟨#[]⟩) (v1 := .int .i64 0) V2)
      have hlY := hH2.size
      have hne : ¬ X = V2.heap.size := by have := FX.out.lt; omega
      replace FX := Lib.hid (FX.out.below ((Below.refl _ _).alloc (Nat.le_refl _) (.cells #[.string ⟨#[]⟩, .int .i64 0] 127)))
      clear hH2
      refine hK.out _ _ ?_ (fun hH3 => ?_)
      ·exact hba
      clear hK K
      clear hba
      generalize V2.heap.size = Y at *
      generalize V2.alloc (.cells #[.string ⟨#[]⟩, .int .i64 0] 127) = V3 at *
      clear V2
      try dsimp only
      try simp only [List.getElem_toArray, List.getElem_cons_succ, List.getElem_cons_zero]
      try simp only [Act.put]
      try simp only [List.setIfInBounds_toArray]
      try simp only [List.set_cons_zero, List.set_cons_succ]
      refine wpAnyH_ready (rs := [5]) (by kernel_rfl) (by simp) ?_
      refine AllReadyH.cons (o := _) rfl (fun K hK => ?_) ?_
      ·skip
       go_simp
       go_at_call 148
       refine (HBF1.out V3 hH3).mono ?_; rintro e V4 ⟨rfl, hu⟩
       have hbu : Below W.heap.size W V4 := hH3.trans (hu.mono hH3.size)
       replace FX := Lib.hid (FX.out.below hu)
       replace FY := Lib.hid (FY.out.below hu)
       clear hu hH3
       refine hK.out _ _ ?_ (fun hH4 => ?_)
       ·exact hbu
       clear hK K
       clear hbu
       try dsimp only
       try simp only [List.getElem_toArray, List.getElem_cons_succ, List.getElem_cons_zero]
       try simp only [Act.put]
       try simp only [List.setIfInBounds_toArray]
       try simp only [List.set_cons_zero, List.set_cons_succ]
       refine wpAnyH_ready (rs := [8]) (by kernel_rfl) (by simp) ?_
       refine AllReadyH.cons (o := _) rfl (fun K hK => ?_) ?_
       ·skip
        obtain ⟨x0, x1⟩ := FX.out.cells
        obtain ⟨y0, y1⟩ := FX.out.free
        go_simp
        clear x0 x1 y0 y1
        have hba := (hH4.setCell (p := ⟨X, 0, none⟩) hlX (.string BP)).setCell (p := ⟨X, 1, none⟩) hlX (.int .i64 BA)
        replace FX := Lib.hid (box_put (v0 := .string BP) (v1 := .int .i64 BA) FX.out)
        replace FY := Lib.hid ((FY.out.other (C := X) (o := 0) (x := .string BP) (fun e => hne (by omega))).other (C := X) (o := 1) (x := .int .i64 BA) (fun e => hne (by omega)))
        clear hH4
        refine hK.out _ _ ?_ (fun hH5 => ?_)
        ·exact hba
        clear hK K
        clear hba
        generalize (V4.setCell ⟨X, 0, none⟩ (.string BP)).setCell ⟨X, 1, none⟩ (.int .i64 BA) = V5 at *
        clear V4
        try dsimp only
        try simp only [List.getElem_toArray, List.getElem_cons_succ, List.getElem_cons_zero]
        try simp only [Act.put]
        try simp only [List.setIfInBounds_toArray]
        try simp only [List.set_cons_zero, List.set_cons_succ]
        refine wpAnyH_ready (rs := [9]) (by kernel_rfl) (by simp) ?_
        refine AllReadyH.cons (o := _) rfl (fun K hK => ?_) ?_
        ·skip
         obtain ⟨x0, x1⟩ := FY.out.cells
         obtain ⟨y0, y1⟩ := FY.out.free
         go_simp
         clear x0 x1 y0 y1
         have hba := (hH5.setCell (p := ⟨Y, 0, none⟩) hlY (.string FP)).setCell (p := ⟨Y, 1, none⟩) hlY (.int .i64 FT)
         replace FY := Lib.hid (box_put (v0 := .string FP) (v1 := .int .i64 FT) FY.out)
         replace FX := Lib.hid ((FX.out.other (C := Y) (o := 0) (x := .string FP) (fun e => hne (by omega))).other (C := Y) (o := 1) (x := .int .i64 FT) (fun e => hne (by omega)))
         clear hH5
         refine hK.out _ _ ?_ (fun hH6 => ?_)
         ·exact hba
         clear hK K
         clear hba
         generalize (V5.setCell ⟨Y, 0, none⟩ (.string FP)).setCell ⟨Y, 1, none⟩ (.int .i64 FT) = V6 at *
         clear V5
         try dsimp only
         try simp only [List.getElem_toArray, List.getElem_cons_succ, List.getElem_cons_zero]
         try simp only [Act.put]
         try simp only [List.setIfInBounds_toArray]
         try simp only [List.set_cons_zero, List.set_cons_succ]
         refine wpAnyH_done (by kernel_rfl) ?_ _
         try dsimp only [Act.put, Oper.dst]
         try dsimp only
         try simp only [Act.put]
         try simp only [List.setIfInBounds_toArray]
         try simp only [List.set_cons_zero, List.set_cons_succ]
         go_wp2_with fail
         go_meet
         exact ⟨X, Y, rfl, rfl, FX.out.cells.1, FX.out.cells.2, FY.out.cells.1, FY.out.cells.2, hH6⟩
        exact AllReadyH.nil
       exact AllReadyH.nil
      exact AllReadyH.nil
     exact AllReadyH.nil
    refine AllReadyH.cons (o := _) rfl (fun K hK => ?_) ?_
    ·skip
     go_simp
     have hba := hH1.alloc hH1.size (.cells #[.string ⟨#[]⟩, .int .i64 0] 127)
     have FY := Lib.hid (Box2.new (T := 127) (v0 := .string ⟨#[]⟩) (v1 := .int .i64 0) V1)
     have hlY := hH1.size
     clear hH1
     refine hK.out _ _ ?_ (fun hH2 => ?_)
     ·exact hba
     clear hK K
     clear hba
     generalize V1.heap.size = Y at *
     generalize V1.alloc (.cells #[.string ⟨#[]⟩, .int .i64 0] 127) = V2 at *
     clear V1
     try dsimp only
     try simp only [List.getElem_toArray, List.getElem_cons_succ, List.getElem_cons_zero]
     try simp only [Act.put]
     try simp only [List.setIfInBounds_toArray]
     try simp only [List.set_cons_zero, List.set_cons_succ]
     refine wpAnyH_ready (rs := [5, 6]) (by kernel_rfl) (by simp) ?_
     refine AllReadyH.cons (o := _) rfl (fun K hK => ?_) ?_
     ·skip
      go_simp
      go_at_call 148
      refine (HBF1.out V2 hH2).mono ?_; rintro e V3 ⟨rfl, hu⟩
      have hbu : Below W.heap.size W V3 := hH2.trans (hu.mono hH2.size)
      replace FY := Lib.hid (FY.out.below hu)
      clear hu hH2
      refine hK.out _ _ ?_ (fun hH3 => ?_)
      ·exact hbu
      clear hK K
      clear hbu
      try dsimp only
      try simp only [List.getElem_toArray, List.getElem_cons_succ, List.getElem_cons_zero]
      try simp only [Act.put]
      try simp only [List.setIfInBounds_toArray]
      try simp only [List.set_cons_zero, List.set_cons_succ]
      refine wpAnyH_ready (rs := [6]) (by kernel_rfl) (by simp) ?_
      refine AllReadyH.cons (o := _) rfl (fun K hK => ?_) ?_
      ·skip
       go_simp
       have hba := hH3.alloc hH3.size (.cells #[.string ⟨#[]⟩, .int .i64 0] 127)
       have FX := Lib.hid (Box2.new (T := 127) (v0 := .string ⟨#[]⟩) (v1 := .int .i64 0) V3)
       have hlX := hH3.size
       have hne : ¬ Y = V3.heap.size := by have := FY.out.lt; omega
       replace FY := Lib.hid (FY.out.below ((Below.refl _ _).alloc (Nat.le_refl _) (.cells #[.string ⟨#[]⟩, .int .i64 0] 127)))
       clear hH3
       refine hK.out _ _ ?_ (fun hH4 => ?_)
       ·exact hba
       clear hK K
       clear hba
       generalize V3.heap.size = X at *
       generalize V3.alloc (.cells #[.string ⟨#[]⟩, .int .i64 0] 127) = V4 at *
       clear V3
       try dsimp only
       try simp only [List.getElem_toArray, List.getElem_cons_succ, List.getElem_cons_zero]
       try simp only [Act.put]
       try simp only [List.setIfInBounds_toArray]
       try simp only [List.set_cons_zero, List.set_cons_succ]
       refine wpAnyH_ready (rs := [8]) (by kernel_rfl) (by simp) ?_
       refine AllReadyH.cons (o := _) rfl (fun K hK => ?_) ?_
       ·skip
        obtain ⟨x0, x1⟩ := FX.out.cells
        obtain ⟨y0, y1⟩ := FX.out.free
        go_simp
        clear x0 x1 y0 y1
        have hba := (hH4.setCell (p := ⟨X, 0, none⟩) hlX (.string BP)).setCell (p := ⟨X, 1, none⟩) hlX (.int .i64 BA)
        replace FX := Lib.hid (box_put (v0 := .string BP) (v1 := .int .i64 BA) FX.out)
        replace FY := Lib.hid ((FY.out.other (C := X) (o := 0) (x := .string BP) (fun e => hne (by omega))).other (C := X) (o := 1) (x := .int .i64 BA) (fun e => hne (by omega)))
        clear hH4
        refine hK.out _ _ ?_ (fun hH5 => ?_)
        ·exact hba
        clear hK K
        clear hba
        generalize (V4.setCell ⟨X, 0, none⟩ (.string BP)).setCell ⟨X, 1, none⟩ (.int .i64 BA) = V5 at *
        clear V4
        try dsimp only
        try simp only [List.getElem_toArray, List.getElem_cons_succ, List.getElem_cons_zero]
        try simp only [Act.put]
        try simp only [List.setIfInBounds_toArray]
        try simp only [List.set_cons_zero, List.set_cons_succ]
        refine wpAnyH_ready (rs := [9]) (by kernel_rfl) (by simp) ?_
        refine AllReadyH.cons (o := _) rfl (fun K hK => ?_) ?_
        ·skip
         obtain ⟨x0, x1⟩ := FY.out.cells
         obtain ⟨y0, y1⟩ := FY.out.free
         go_simp
         clear x0 x1 y0 y1
         have hba := (hH5.setCell (p := ⟨Y, 0, none⟩) hlY (.string FP)).setCell (p := ⟨Y, 1, none⟩) hlY (.int .i64 FT)
         replace FY := Lib.hid (box_put (v0 := .string FP) (v1 := .int .i64 FT) FY.out)
         replace FX := Lib.hid ((FX.out.other (C := Y) (o := 0) (x := .string FP) (fun e => hne (by omega))).other (C := Y) (o := 1) (x := .int .i64 FT) (fun e => hne (by omega)))
         clear hH5
         refine hK.out _ _ ?_ (fun hH6 => ?_)
         ·exact hba
         clear hK K
         clear hba
         generalize (V5.setCell ⟨Y, 0, none⟩ (.string FP)).setCell ⟨Y, 1, none⟩ (.int .i64 FT) = V6 at *
         clear V5
         try dsimp only
         try simp only [List.getElem_toArray, List.getElem_cons_succ, List.getElem_cons_zero]
         try simp only [Act.put]
         try simp only [List.setIfInBounds_toArray]
         try simp only [List.set_cons_zero, List.set_cons_succ]
         refine wpAnyH_done (by kernel_rfl) ?_ _
         try dsimp only [Act.put, Oper.dst]
         try dsimp only
         try simp only [Act.put]
         try simp only [List.setIfInBounds_toArray]
         try simp only [List.set_cons_zero, List.set_cons_succ]
         go_wp2_with fail
         go_meet
         exact ⟨X, Y, rfl, rfl, FX.out.cells.1, FX.out.cells.2, FY.out.cells.1, FY.out.cells.2, hH6⟩
        exact AllReadyH.nil
       exact AllReadyH.nil
      exact AllReadyH.nil
     refine AllReadyH.cons (o := _) rfl (fun K hK => ?_) ?_
     ·skip
      go_simp
      have hba := hH2.alloc hH2.size (.cells #[.string ⟨#[]⟩, .int .i64 0] 127)
      have FX := Lib.hid (Box2.new (T := 127) (v0 := .string ⟨#[]⟩) (v1 := .int .i64 0) V2)
      have hlX := hH2.size
      have hne : ¬ Y = V2.heap.size := by have := FY.out.lt; omega
      replace FY := Lib.hid (FY.out.below ((Below.refl _ _).alloc (Nat.le_refl _) (.cells #[.string ⟨#[]⟩, .int .i64 0] 127)))
      clear hH2
      refine hK.out _ _ ?_ (fun hH3 => ?_)
      ·exact hba
      clear hK K
      clear hba
      generalize V2.heap.size = X at *
      generalize V2.alloc (.cells #[.string ⟨#[]⟩, .int .i64 0] 127) = V3 at *
      clear V2
      try dsimp only
      try simp only [List.getElem_toArray, List.getElem_cons_succ, List.getElem_cons_zero]
      try simp only [Act.put]
      try simp only [List.setIfInBounds_toArray]
      try simp only [List.set_cons_zero, List.set_cons_succ]
      refine wpAnyH_ready (rs := [5]) (by kernel_rfl) (by simp) ?_
      refine AllReadyH.cons (o := _) rfl (fun K hK => ?_) ?_
      ·skip
       go_simp
       go_at_call 148
       refine (HBF1.out V3 hH3).mono ?_; rintro e V4 ⟨rfl, hu⟩
       have hbu : Below W.heap.size W V4 := hH3.trans (hu.mono hH3.size)
       replace FX := Lib.hid (FX.out.below hu)
       replace FY := Lib.hid (FY.out.below hu)
       clear hu hH3
       refine hK.out _ _ ?_ (fun hH4 => ?_)
       ·exact hbu
       clear hK K
       clear hbu
       try dsimp only
       try simp only [List.getElem_toArray, List.getElem_cons_succ, List.getElem_cons_zero]
       try simp only [Act.put]
       try simp only [List.setIfInBounds_toArray]
       try simp only [List.set_cons_zero, List.set_cons_succ]
       refine wpAnyH_ready (rs := [8]) (by kernel_rfl) (by simp) ?_
       refine AllReadyH.cons (o := _) rfl (fun K hK => ?_) ?_
       ·skip
        obtain ⟨x0, x1⟩ := FX.out.cells
        obtain ⟨y0, y1⟩ := FX.out.free
        go_simp
        clear x0 x1 y0 y1
        have hba := (hH4.setCell (p := ⟨X, 0, none⟩) hlX (.string BP)).setCell (p := ⟨X, 1, none⟩) hlX (.int .i64 BA)
        replace FX := Lib.hid (box_put (v0 := .string BP) (v1 := .int .i64 BA) FX.out)
        replace FY := Lib.hid ((FY.out.other (C := X) (o := 0) (x := .string BP) (fun e => hne (by omega))).other (C := X) (o := 1) (x := .int .i64 BA) (fun e => hne (by omega)))
        clear hH4
        refine hK.out _ _ ?_ (fun hH5 => ?_)
        ·exact hba
        clear hK K
        clear hba
        generalize (V4.setCell ⟨X, 0, none⟩ (.string BP)).setCell ⟨X, 1, none⟩ (.int .i64 BA) = V5 at *
        clear V4
        try dsimp only
        try simp only [List.getElem_toArray, List.getElem_cons_succ, List.getElem_cons_zero]
        try simp only [Act.put]
        try simp only [List.setIfInBounds_toArray]
        try simp only [List.set_cons_zero, List.set_cons_succ]
        refine wpAnyH_ready (rs := [9]) (by kernel_rfl) (by simp) ?_
        refine AllReadyH.cons (o := _) rfl (fun K hK => ?_) ?_
        ·skip
         obtain ⟨x0, x1⟩ := FY.out.cells
         obtain ⟨y0, y1⟩ := FY.out.free
         go_simp
         clear x0 x1 y0 y1
         have hba := (hH5.setCell (p := ⟨Y, 0, none⟩) hlY (.string FP)).setCell (p := ⟨Y, 1, none⟩) hlY (.int .i64 FT)
         replace FY := Lib.hid (box_put (v0 := .string FP) (v1 := .int .i64 FT) FY.out)
         replace FX := Lib.hid ((FX.out.other (C := Y) (o := 0) (x := .string FP) (fun e => hne (by omega))).other (C := Y) (o := 1) (x := .int .i64 FT) (fun e => hne (by omega)))
         clear hH5
         refine hK.out _ _ ?_ (fun hH6 => ?_)
         ·exact hba
         clear hK K
         clear hba
         generalize (V5.setCell ⟨Y, 0, none⟩ (.string FP)).setCell ⟨Y, 1, none⟩ (.int .i64 FT) = V6 at *
         clear V5
         try dsimp only
         try simp only [List.getElem_toArray, List.getElem_cons_succ, List.getElem_cons_zero]
         try simp only [Act.put]
         try simp only [List.setIfInBounds_toArray]
         try simp only [List.set_cons_zero, List.set_cons_succ]
         refine wpAnyH_done (by kernel_rfl) ?_ _
         try dsimp only [Act.put, Oper.dst]
         try dsimp only
         try simp only [Act.put]
         try simp only [List.setIfInBounds_toArray]
         try simp only [List.set_cons_zero, List.set_cons_succ]
         go_wp2_with fail
         go_meet
         exact ⟨X, Y, rfl, rfl, FX.out.cells.1, FX.out.cells.2, FY.out.cells.1, FY.out.cells.2, hH6⟩
        exact AllReadyH.nil
       exact AllReadyH.nil
      exact AllReadyH.nil
     exact AllReadyH.nil
    exact AllReadyH.nil
   refine AllReadyH.cons (o := _) rfl (fun K hK => ?_) ?_
   ·skip
    go_simp
    have hba := hHeld.alloc hHeld.size (.cells #[.string ⟨#[]⟩, .int .i64 0] 127)
    have FX := Lib.hid (Box2.new (T := 127) (v0 := .string ⟨#[]⟩) (v1 := .int .i64 0) V)
    have hlX := hHeld.size
    clear hHeld
    refine hK.out _ _ ?_ (fun hH1 => ?_)
    ·exact hba
    clear hK K
    clear hba
    generalize V.heap.size = X at *
    generalize V.alloc (.cells #[.string ⟨#[]⟩, .int .i64 0] 127) = V1 at *
    clear V
    try dsimp only
    try simp only [List.getElem_toArray, List.getElem_cons_succ, List.getElem_cons_zero]
    try simp only [Act.put]
    try simp only [List.setIfInBounds_toArray]
    try simp only [List.set_cons_zero, List.set_cons_succ]
    refine wpAnyH_ready (rs := [2, 7]) (by kernel_rfl) (by simp) ?_
    refine AllReadyH.cons (o := _) rfl (fun K hK => ?_) ?_
    ·skip
     go_simp
     go_at_call 130
     refine (HBH1.out V1 hH1).mono ?_; rintro e V2 ⟨rfl, hu⟩
     have hbu : Below W.heap.size W V2 := hH1.trans (hu.mono hH1.size)
     replace FX := Lib.hid (FX.out.below hu)
     clear hu hH1
     refine hK.out _ _ ?_ (fun hH2 => ?_)
     ·exact hbu
     clear hK K
     clear hbu
     try dsimp only
     try simp only [List.getElem_toArray, List.getElem_cons_succ, List.getElem_cons_zero]
     try simp only [Act.put]
     try simp only [List.setIfInBounds_toArray]
     try simp only [List.set_cons_zero, List.set_cons_succ]
     refine wpAnyH_ready (rs := [5, 7]) (by kernel_rfl) (by simp) ?_
     refine AllReadyH.cons (o := _) rfl (fun K hK => ?_) ?_
     ·skip
      go_simp
      go_at_call 148
      refine (HBF1.out V2 hH2).mono ?_; rintro e V3 ⟨rfl, hu⟩
      have hbu : Below W.heap.size W V3 := hH2.trans (hu.mono hH2.size)
      replace FX := Lib.hid (FX.out.below hu)
      clear hu hH2
      refine hK.out _ _ ?_ (fun hH3 => ?_)
      ·exact hbu
      clear hK K
      clear hbu
      try dsimp only
      try simp only [List.getElem_toArray, List.getElem_cons_succ, List.getElem_cons_zero]
      try simp only [Act.put]
      try simp only [List.setIfInBounds_toArray]
      try simp only [List.set_cons_zero, List.set_cons_succ]
      refine wpAnyH_ready (rs := [7]) (by kernel_rfl) (by simp) ?_
      refine AllReadyH.cons (o := _) rfl (fun K hK => ?_) ?_
      ·skip
       go_simp
       have hba := hH3.alloc hH3.size (.cells #[.string ⟨#[]⟩, .int .i64 0] 127)
       have FY := Lib.hid (Box2.new (T := 127) (v0 := .string ⟨#[]⟩) (v1 := .int .i64 0) V3)
       have hlY := hH3.size
       have hne : ¬ X = V3.heap.size := by have := FX.out.lt; omega
       replace FX := Lib.hid (FX.out.below ((Below.refl _ _).alloc (Nat.le_refl _) (.cells #[.string ⟨#[]⟩, .int .i64 0] 127)))
       clear hH3
       refine hK.out _ _ ?_ (fun hH4 => ?_)
       ·exact hba
       clear hK K
       clear hba
       generalize V3.heap.size = Y at *
       generalize V3.alloc (.cells #[.string ⟨#[]⟩, .int .i64 0] 127) = V4 at *
       clear V3
       try dsimp only
       try simp only [List.getElem_toArray, List.getElem_cons_succ, List.getElem_cons_zero]
       try simp only [Act.put]
       try simp only [List.setIfInBounds_toArray]
       try simp only [List.set_cons_zero, List.set_cons_succ]
       refine wpAnyH_ready (rs := [8]) (by kernel_rfl) (by simp) ?_
       refine AllReadyH.cons (o := _) rfl (fun K hK => ?_) ?_
       ·skip
        obtain ⟨x0, x1⟩ := FX.out.cells
        obtain ⟨y0, y1⟩ := FX.out.free
        go_simp
        clear x0 x1 y0 y1
        have hba := (hH4.setCell (p := ⟨X, 0, none⟩) hlX (.string BP)).setCell (p := ⟨X, 1, none⟩) hlX (.int .i64 BA)
        replace FX := Lib.hid (box_put (v0 := .string BP) (v1 := .int .i64 BA) FX.out)
        replace FY := Lib.hid ((FY.out.other (C := X) (o := 0) (x := .string BP) (fun e => hne (by omega))).other (C := X) (o := 1) (x := .int .i64 BA) (fun e => hne (by omega)))
        clear hH4
        refine hK.out _ _ ?_ (fun hH5 => ?_)
        ·exact hba
        clear hK K
        clear hba
        generalize (V4.setCell ⟨X, 0, none⟩ (.string BP)).setCell ⟨X, 1, none⟩ (.int .i64 BA) = V5 at *
        clear V4
        try dsimp only
        try simp only [List.getElem_toArray, List.getElem_cons_succ, List.getElem_cons_zero]
        try simp only [Act.put]
        try simp only [List.setIfInBounds_toArray]
        try simp only [List.set_cons_zero, List.set_cons_succ]
        refine wpAnyH_ready (rs := [9]) (by kernel_rfl) (by simp) ?_
        refine AllReadyH.cons (o := _) rfl (fun K hK => ?_) ?_
        ·skip
         obtain ⟨x0, x1⟩ := FY.out.cells
         obtain ⟨y0, y1⟩ := FY.out.free
         go_simp
         clear x0 x1 y0 y1
         have hba := (hH5.setCell (p := ⟨Y, 0, none⟩) hlY (.string FP)).setCell (p := ⟨Y, 1, none⟩) hlY (.int .i64 FT)
         replace FY := Lib.hid (box_put (v0 := .string FP) (v1 := .int .i64 FT) FY.out)
         replace FX := Lib.hid ((FX.out.other (C := Y) (o := 0) (x := .string FP) (fun e => hne (by omega))).other (C := Y) (o := 1) (x := .int .i64 FT) (fun e => hne (by omega)))
         clear hH5
         refine hK.out _ _ ?_ (fun hH6 => ?_)
         ·exact hba
         clear hK K
         clear hba
         generalize (V5.setCell ⟨Y, 0, none⟩ (.string FP)).setCell ⟨Y, 1, none⟩ (.int .i64 FT) = V6 at *
         clear V5
         try dsimp only
         try simp only [List.getElem_toArray, List.getElem_cons_succ, List.getElem_cons_zero]
         try simp only [Act.put]
         try simp only [List.setIfInBounds_toArray]
         try simp only [List.set_cons_zero, List.set_cons_succ]
         refine wpAnyH_done (by kernel_rfl) ?_ _
         try dsimp only [Act.put, Oper.dst]
         try dsimp only
         try simp only [Act.put]
         try simp only [List.setIfInBounds_toArray]
         try simp only [List.set_cons_zero, List.set_cons_succ]
         go_wp2_with fail
         go_meet
         exact ⟨X, Y, rfl, rfl, FX.out.cells.1, FX.out.cells.2, FY.out.cells.1, FY.out.cells.2, hH6⟩
        exact AllReadyH.nil
       exact AllReadyH.nil
      exact AllReadyH.nil
     refine AllReadyH.cons (o := _) rfl (fun K hK => ?_) ?_
     ·skip
      go_simp
      have hba := hH2.alloc hH2.size (.cells #[.string ⟨#[]⟩, .int .i64 0] 127)
      have FY := Lib.hid (Box2.new (T := 127) (v0 := .string ⟨#[]⟩) (v1 := .int .i64 0) V2)
      have hlY := hH2.size
      have hne : ¬ X = V2.heap.size := by have := FX.out.lt; omega
      replace FX := Lib.hid (FX.out.below ((Below.refl _ _).alloc (Nat.le_refl _) (.cells #[.string ⟨#[]⟩, .int .i64 0] 127)))
      clear hH2
      refine hK.out _ _ ?_ (fun hH3 => ?_)
      ·exact hba
      clear hK K
      clear hba
      generalize V2.heap.size = Y at *
      generalize V2.alloc (.cells #[.string ⟨#[]⟩, .int .i64 0] 127) = V3 at *
      clear V2
      try dsimp only
      try simp only [List.getElem_toArray, List.getElem_cons_succ, List.getElem_cons_zero]
      try simp only [Act.put]
      try simp only [List.setIfInBounds_toArray]
      try simp only [List.set_cons_zero, List.set_cons_succ]
      refine wpAnyH_ready (rs := [5]) (by kernel_rfl) (by simp) ?_
      refine AllReadyH.cons (o := _) rfl (fun K hK => ?_) ?_
      ·skip
       go_simp
       go_at_call 148
       refine (HBF1.out V3 hH3).mono ?_; rintro e V4 ⟨rfl, hu⟩
       have hbu : Below W.heap.size W V4 := hH3.trans (hu.mono hH3.size)
       replace FX := Lib.hid (FX.out.below hu)
       replace FY := Lib.hid (FY.out.below hu)
       clear hu hH3
       refine hK.out _ _ ?_ (fun hH4 => ?_)
       ·exact hbu
       clear hK K
       clear hbu
       try dsimp only
       try simp only [List.getElem_toArray, List.getElem_cons_succ, List.getElem_cons_zero]
       try simp only [Act.put]
       try simp only [List.setIfInBounds_toArray]
       try simp only [List.set_cons_zero, List.set_cons_succ]
       refine wpAnyH_ready (rs := [8]) (by kernel_rfl) (by simp) ?_
       refine AllReadyH.cons (o := _) rfl (fun K hK => ?_) ?_
       ·skip
        obtain ⟨x0, x1⟩ := FX.out.cells
        obtain ⟨y0, y1⟩ := FX.out.free
        go_simp
        clear x0 x1 y0 y1
        have hba := (hH4.setCell (p := ⟨X, 0, none⟩) hlX (.string BP)).setCell (p := ⟨X, 1, none⟩) hlX (.int .i64 BA)
        replace FX := Lib.hid (box_put (v0 := .string BP) (v1 := .int .i64 BA) FX.out)
        replace FY := Lib.hid ((FY.out.other (C := X) (o := 0) (x := .string BP) (fun e => hne (by omega))).other (C := X) (o := 1) (x := .int .i64 BA) (fun e => hne (by omega)))
        clear hH4
        refine hK.out _ _ ?_ (fun hH5 => ?_)
        ·exact hba
        clear hK K
        clear hba
        generalize (V4.setCell ⟨X, 0, none⟩ (.string BP)).setCell ⟨X, 1, none⟩ (.int .i64 BA) = V5 at *
        clear V4
        try dsimp only
        try simp only [List.getElem_toArray, List.getElem_cons_succ, List.getElem_cons_zero]
        try simp only [Act.put]
        try simp only [List.setIfInBounds_toArray]
        try simp only [List.set_cons_zero, List.set_cons_succ]
        refine wpAnyH_ready (rs := [9]) (by kernel_rfl) (by simp) ?_
        refine AllReadyH.cons (o := _) rfl (fun K hK => ?_) ?_
        ·skip
         obtain ⟨x0, x1⟩ := FY.out.cells
         obtain ⟨y0, y1⟩ := FY.out.free
         go_simp
         clear x0 x1 y0 y1
         have hba := (hH5.setCell (p := ⟨Y, 0, none⟩) hlY (.string FP)).setCell (p := ⟨Y, 1, none⟩) hlY (.int .i64 FT)
         replace FY := Lib.hid (box_put (v0 := .string FP) (v1 := .int .i64 FT) FY.out)
         replace FX := Lib.hid ((FX.out.other (C := Y) (o := 0) (x := .string FP) (fun e => hne (by omega))).other (C := Y) (o := 1) (x := .int .i64 FT) (fun e => hne (by omega)))
         clear hH5
         refine hK.out _ _ ?_ (fun hH6 => ?_)
         ·exact hba
         clear hK K
         clear hba
         generalize (V5.setCell ⟨Y, 0, none⟩ (.string FP)).setCell ⟨Y, 1, none⟩ (.int .i64 FT) = V6 at *
         clear V5
         try dsimp only
         try simp only [List.getElem_toArray, List.getElem_cons_succ, List.getElem_cons_zero]
         try simp only [Act.put]
         try simp only [List.setIfInBounds_toArray]
         try simp only [List.set_cons_zero, List.set_cons_succ]
         refine wpAnyH_done (by kernel_rfl) ?_ _
         try dsimp only [Act.put, Oper.dst]
         try dsimp only
         try simp only [Act.put]
         try simp only [List.setIfInBounds_toArray]
         try simp only [List.set_cons_zero, List.set_cons_succ]
         go_wp2_with fail
         go_meet
         exact ⟨X, Y, rfl, rfl, FX.out.cells.1, FX.out.cells.2, FY.out.cells.1, FY.out.cells.2, hH6⟩
        exact AllReadyH.nil
       exact AllReadyH.nil
      exact AllReadyH.nil
     exact AllReadyH.nil
    refine AllReadyH.cons (o := _) rfl (fun K hK => ?_) ?_
    ·skip
     go_simp
     have hba := hH1.alloc hH1.size (.cells #[.string ⟨#[]⟩, .int .i64 0] 127)
     have FY := Lib.hid (Box2.new (T := 127) (v0 := .string ⟨#[]⟩) (v1 := .int .i64 0) V1)
     have hlY := hH1.size
     have hne : ¬ X = V1.heap.size := by have := FX.out.lt; omega
     replace FX := Lib.hid (FX.out.below ((Below.refl _ _).alloc (Nat.le_refl _) (.cells #[.string ⟨#[]⟩, .int .i64 0] 127)))
     clear hH1
     refine hK.out _ _ ?_ (fun hH2 => ?_)
     ·exact hba
     clear hK K
     clear hba
     generalize V1.heap.size = Y at *
     generalize V1.alloc (.cells #[.string ⟨#[]⟩, .int .i64 0] 127) = V2 at *
     clear V1
     try dsimp only
     try simp only [List.getElem_toArray, List.getElem_cons_succ, List.getElem_cons_zero]
     try simp only [Act.put]
     try simp only [List.setIfInBounds_toArray]
     try simp only [List.set_cons_zero, List.set_cons_succ]
     refine wpAnyH_ready (rs := [2]) (by kernel_rfl) (by simp) ?_
     refine AllReadyH.cons (o := _) rfl (fun K hK => ?_) ?_
     ·skip
      go_simp
      go_at_call 130
      refine (HBH1.out V2 hH2).mono ?_; rintro e V3 ⟨rfl, hu⟩
      have hbu : Below W.heap.size W V3 := hH2.trans (hu.mono hH2.size)
      replace FX := Lib.hid (FX.out.below hu)
      replace FY := Lib.hid (FY.out.below hu)
      clear hu hH2
      refine hK.out _ _ ?_ (fun hH3 => ?_)
      ·exact hbu
      clear hK K
      clear hbu
      try dsimp only
      try simp only [List.getElem_toArray, List.getElem_cons_succ, List.getElem_cons_zero]
      try simp only [Act.put]
      try simp only [List.setIfInBounds_toArray]
      try simp only [List.set_cons_zero, List.set_cons_succ]
      refine wpAnyH_ready (rs := [5]) (by kernel_rfl) (by simp) ?_
      refine AllReadyH.cons (o := _) rfl (fun K hK => ?_) ?_
      ·skip
       go_simp
       go_at_call 148
       refine (HBF1.out V3 hH3).mono ?_; rintro e V4 ⟨rfl, hu⟩
       have hbu : Below W.heap.size W V4 := hH3.trans (hu.mono hH3.size)
       replace FX := Lib.hid (FX.out.below hu)
       replace FY := Lib.hid (FY.out.below hu)
       clear hu hH3
       refine hK.out _ _ ?_ (fun hH4 => ?_)
       ·exact hbu
       clear hK K
       clear hbu
       try dsimp only
       try simp only [List.getElem_toArray, List.getElem_cons_succ, List.getElem_cons_zero]
       try simp only [Act.put]
       try simp only [List.setIfInBounds_toArray]
       try simp only [List.set_cons_zero, List.set_cons_succ]
       refine wpAnyH_ready (rs := [8]) (by kernel_rfl) (by simp) ?_
       refine AllReadyH.cons (o := _) rfl (fun K hK => ?_) ?_
       ·skip
        obtain ⟨x0, x1⟩ := FX.out.cells
        obtain ⟨y0, y1⟩ := FX.out.free
        go_simp
        clear x0 x1 y0 y1
        have hba := (hH4.setCell (p := ⟨X, 0, none⟩) hlX (.string BP)).setCell (p := ⟨X, 1, none⟩) hlX (.int .i64 BA)
        replace FX := Lib.hid (box_put (v0 := .string BP) (v1 := .int .i64 BA) FX.out)
        replace FY := Lib.hid ((FY.out.other (C := X) (o := 0) (x := .string BP) (fun e => hne (by omega))).other (C := X) (o := 1) (x := .int .i64 BA) (fun e => hne (by omega)))
        clear hH4
        refine hK.out _ _ ?_ (fun hH5 => ?_)
        ·exact hba
        clear hK K
        clear hba
        generalize (V4.setCell ⟨X, 0, none⟩ (.string BP)).setCell ⟨X, 1, none⟩ (.int .i64 BA) = V5 at *
        clear V4
        try dsimp only
        try simp only [List.getElem_toArray, List.getElem_cons_succ, List.getElem_cons_zero]
        try simp only [Act.put]
        try simp only [List.setIfInBounds_toArray]
        try simp only [List.set_cons_zero, List.set_cons_succ]
        refine wpAnyH_ready (rs := [9]) (by kernel_rfl) (by simp) ?_
        refine AllReadyH.cons (o := _) rfl (fun K hK => ?_) ?_
        ·skip
         obtain ⟨x0, x1⟩ := FY.out.cells
         obtain ⟨y0, y1⟩ := FY.out.free
         go_simp
         clear x0 x1 y0 y1
         have hba := (hH5.setCell (p := ⟨Y, 0, none⟩) hlY (.string FP)).setCell (p := ⟨Y, 1, none⟩) hlY (.int .i64 FT)
         replace FY := Lib.hid (box_put (v0 := .string FP) (v1 := .int .i64 FT) FY.out)
         replace FX := Lib.hid ((FX.out.other (C := Y) (o := 0) (x := .string FP) (fun e => hne (by omega))).other (C := Y) (o := 1) (x := .int .i64 FT) (fun e => hne (by omega)))
         clear hH5
         refine hK.out _ _ ?_ (fun hH6 => ?_)
         ·exact hba
         clear hK K
         clear hba
         generalize (V5.setCell ⟨Y, 0, none⟩ (.string FP)).setCell ⟨Y, 1, none⟩ (.int .i64 FT) = V6 at *
         clear V5
         try dsimp only
         try simp only [List.getElem_toArray, List.getElem_cons_succ, List.getElem_cons_zero]
         try simp only [Act.put]
         try simp only [List.setIfInBounds_toArray]
         try simp only [List.set_cons_zero, List.set_cons_succ]
         refine wpAnyH_done (by kernel_rfl) ?_ _
         try dsimp only [Act.put, Oper.dst]
         try dsimp only
         try simp only [Act.put]
         try simp only [List.setIfInBounds_toArray]
         try simp only [List.set_cons_zero, List.set_cons_succ]
         go_wp2_with fail
         go_meet
         exact ⟨X, Y, rfl, rfl, FX.out.cells.1, FX.out.cells.2, FY.out.cells.1, FY.out.cells.2, hH6⟩
        exact AllReadyH.nil
       exact AllReadyH.nil
      exact AllReadyH.nil
     exact AllReadyH.nil
    exact AllReadyH.nil
   refine AllReadyH.cons (o := _) rfl (fun K hK => ?_) ?_
   ·skip
    go_simp
    have hba := hHeld.alloc hHeld.size (.cells #[.string ⟨#[]⟩, .int .i64 0] 127)
    have FY := Lib.hid (Box2.new (T := 127) (v0 := .string ⟨#[]⟩) (v1 := .int .i64 0) V)
    have hlY := hHeld.size
    clear hHeld
    refine hK.out _ _ ?_ (fun hH1 => ?_)
    ·exact hba
    clear hK K
    clear hba
    generalize V.heap.size = Y at *
    generalize V.alloc (.cells #[.string ⟨#[]⟩, .int .i64 0] 127) = V1 at *
    clear V
    try dsimp only
    try simp only [List.getElem_toArray, List.getElem_cons_succ, List.getElem_cons_zero]
    try simp only [Act.put]
    try simp only [List.setIfInBounds_toArray]
    try simp only [List.set_cons_zero, List.set_cons_succ]
    refine wpAnyH_ready (rs := [2, 6]) (by kernel_rfl) (by simp) ?_
    refine AllReadyH.cons (o := _) rfl (fun K hK => ?_) ?_
    ·skip
     go_simp
     go_at_call 130
     refine (HBH1.out V1 hH1).mono ?_; rintro e V2 ⟨rfl, hu⟩
     have hbu : Below W.heap.size W V2 := hH1.trans (hu.mono hH1.size)
     replace FY := Lib.hid (FY.out.below hu)
     clear hu hH1
     refine hK.out _ _ ?_ (fun hH2 => ?_)
     ·exact hbu
     clear hK K
     clear hbu
     try dsimp only
     try simp only [List.getElem_toArray, List.getElem_cons_succ, List.getElem_cons_zero]
     try simp only [Act.put]
     try simp only [List.setIfInBounds_toArray]
     try simp only [List.set_cons_zero, List.set_cons_succ]
     refine wpAnyH_ready (rs := [5, 6]) (by kernel_rfl) (by simp) ?_
     refine AllReadyH.cons (o := _) rfl (fun K hK => ?_) ?_
     ·skip
      go_simp
      go_at_call 148
      refine (HBF1.out V2 hH2).mono ?_; rintro e V3 ⟨rfl, hu⟩
      have hbu : Below W.heap.size W V3 := hH2.trans (hu.mono hH2.size)
      replace FY := Lib.hid (FY.out.below hu)
      clear hu hH2
      refine hK.out _ _ ?_ (fun hH3 => ?_)
      ·exact hbu
      clear hK K
      clear hbu
      try dsimp only
      try simp only [List.getElem_toArray, List.getElem_cons_succ, List.getElem_cons_zero]
      try simp only [Act.put]
      try simp only [List.setIfInBounds_toArray]
      try simp only [List.set_cons_zero, List.set_cons_succ]
      refine wpAnyH_ready (rs := [6]) (by kernel_rfl) (by simp) ?_
      refine AllReadyH.cons (o := _) rfl (fun K hK => ?_) ?_
      ·skip
       go_simp
       have hba := hH3.alloc hH3.size (.cells #[.string ⟨#[]⟩, .int .i64 0] 127)
       have FX := Lib.hid (Box2.new (T := 127) (v0 := .string ⟨#[]⟩) (v1 := .int .i64 0) V3)
       have hlX := hH3.size
       have hne : ¬ Y = V3.heap.size := by have := FY.out.lt; omega
       replace FY := Lib.hid (FY.out.below ((Below.refl _ _).alloc (Nat.le_refl _) (.cells #[.string ⟨#[]⟩, .int .i64 0] 127)))
       clear hH3
       refine hK.out _ _ ?_ (fun hH4 => ?_)
       ·exact hba
       clear hK K
       clear hba
       generalize V3.heap.size = X at *
       generalize V3.alloc (.cells #[.string ⟨#[]⟩, .int .i64 0] 127) = V4 at *
       clear V3
       try dsimp only
       try simp only [List.getElem_toArray, List.getElem_cons_succ, List.getElem_cons_zero]
       try simp only [Act.put]
       try simp only [List.setIfInBounds_toArray]
       try simp only [List.set_cons_zero, List.set_cons_succ]
       refine wpAnyH_ready (rs := [8]) (by kernel_rfl) (by simp) ?_
       refine AllReadyH.cons (o := _) rfl (fun K hK => ?_) ?_
       ·skip
        obtain ⟨x0, x1⟩ := FX.out.cells
        obtain ⟨y0, y1⟩ := FX.out.free
        go_simp
        clear x0 x1 y0 y1
        have hba := (hH4.setCell (p := ⟨X, 0, none⟩) hlX (.string BP)).setCell (p := ⟨X, 1, none⟩) hlX (.int .i64 BA)
        replace FX := Lib.hid (box_put (v0 := .string BP) (v1 := .int .i64 BA) FX.out)
        replace FY := Lib.hid ((FY.out.other (C := X) (o := 0) (x := .string BP) (fun e => hne (by omega))).other (C := X) (o := 1) (x := .int .i64 BA) (fun e => hne (by omega)))
        clear hH4
        refine hK.out _ _ ?_ (fun hH5 => ?_)
        ·exact hba
        clear hK K
        clear hba
        generalize (V4.setCell ⟨X, 0, none⟩ (.string BP)).setCell ⟨X, 1, none⟩ (.int .i64 BA) = V5 at *
        clear V4
        try dsimp only
        try simp only [List.getElem_toArray, List.getElem_cons_succ, List.getElem_cons_zero]
        try simp only [Act.put]
        try simp only [List.setIfInBounds_toArray]
        try simp only [List.set_cons_zero, List.set_cons_succ]
        refine wpAnyH_ready (rs := [9]) (by kernel_rfl) (by simp) ?_
        refine AllReadyH.cons (o := _) rfl (fun K hK => ?_) ?_
        ·skip
         obtain ⟨x0, x1⟩ := FY.out.cells
         obtain ⟨y0, y1⟩ := FY.out.free
         go_simp
         clear x0 x1 y0 y1
         have hba := (hH5.setCell (p := ⟨Y, 0, none⟩) hlY (.string FP)).setCell (p := ⟨Y, 1, none⟩) hlY (.int .i64 FT)
         replace FY := Lib.hid (box_put (v0 := .string FP) (v1 := .int .i64 FT) FY.out)
         replace FX := Lib.hid ((FX.out.other (C := Y) (o := 0) (x := .string FP) (fun e => hne (by omega))).other (C := Y) (o := 1) (x := .int .i64 FT) (fun e => hne (by omega)))
         clear hH5
         refine hK.out _ _ ?_ (fun hH6 => ?_)
         ·exact hba
         clear hK K
         clear hba
         generalize (V5.setCell ⟨Y, 0, none⟩ (.string FP)).setCell ⟨Y, 1, none⟩ (.int .i64 FT) = V6 at *
         clear V5
         try dsimp only
         try simp only [List.getElem_toArray, List.getElem_cons_succ, List.getElem_cons_zero]
         try simp only [Act.put]
         try simp only [List.setIfInBounds_toArray]
         try simp only [List.set_cons_zero, List.set_cons_succ]
         refine wpAnyH_done (by kernel_rfl) ?_ _
         try dsimp only [Act.put, Oper.dst]
         try dsimp only
         try simp only [Act.put]
         try simp only [List.setIfInBounds_toArray]
         try simp only [List.set_cons_zero, List.set_cons_succ]
         go_wp2_with fail
         go_meet
         exact ⟨X, Y, rfl, rfl, FX.out.cells.1, FX.out.cells.2, FY.out.cells.1, FY.out.cells.2, hH6⟩
        exact AllReadyH.nil
       exact AllReadyH.nil
      exact AllReadyH.nil
     refine AllReadyH.cons (o := _) rfl (fun K hK => ?_) ?_
     ·skip
      go_simp
      have hba := hH2.alloc hH2.size (.cells #[.string ⟨#[]⟩, .int .i64 0] 127)
      have FX := Lib.hid (Box2.new (T := 127) (v0 := .string ⟨#[]⟩) (v1 := .int .i64 0) V2)
      have hlX := hH2.size
      have hne : ¬ Y = V2.heap.size := by have := FY.out.lt; omega
      replace FY := Lib.hid (FY.out.below ((Below.refl _ _).alloc (Nat.le_refl _) (.cells #[.string ⟨#[]⟩, .int .i64 0] 127)))
      clear hH2
      refine hK.out _ _ ?_ (fun hH3 => ?_)
      ·exact hba
      clear hK K
      clear hba
      generalize V2.heap.size = X at *
      generalize V2.alloc (.cells #[.string ⟨#[]⟩, .int .i64 0] 127) = V3 at *
      clear V2
      try dsimp only
      try simp only [List.getElem_toArray, List.getElem_cons_succ, List.getElem_cons_zero]
      try simp only [Act.put]
      try simp only [List.setIfInBounds_toArray]
      try simp only [List.set_cons_zero, List.set_cons_succ]
      refine wpAnyH_ready (rs := [5]) (by kernel_rfl) (by simp) ?_
      refine AllReadyH.cons (o := _) rfl (fun K hK => ?_) ?_
      ·skip
       go_simp
       go_at_call 148
       refine (HBF1.out V3 hH3).mono ?_; rintro e V4 ⟨rfl, hu⟩
       have hbu : Below W.heap.size W V4 := hH3.trans (hu.mono hH3.size)
       replace FX := Lib.hid (FX.out.below hu)
       replace FY := Lib.hid (FY.out.below hu)
       clear hu hH3
       refine hK.out _ _ ?_ (fun hH4 => ?_)
       ·exact hbu
       clear hK K
       clear hbu
       try dsimp only
       try simp only [List.getElem_toArray, List.getElem_cons_succ, List.getElem_cons_zero]
       try simp only [Act.put]
       try simp only [List.setIfInBounds_toArray]
       try simp only [List.set_cons_zero, List.set_cons_succ]
       refine wpAnyH_ready (rs := [8]) (by kernel_rfl) (by simp) ?_
       refine AllReadyH.cons (o := _) rfl (fun K hK => ?_) ?_
       ·skip
        obtain ⟨x0, x1⟩ := FX.out.cells
        obtain ⟨y0, y1⟩ := FX.out.free
        go_simp
        clear x0 x1 y0 y1
        have hba := (hH4.setCell (p := ⟨X, 0, none⟩) hlX (.string BP)).setCell (p := ⟨X, 1, none⟩) hlX (.int .i64 BA)
        replace FX := Lib.hid (box_put (v0 := .string BP) (v1 := .int .i64 BA) FX.out)
        replace FY := Lib.hid ((FY.out.other (C := X) (o := 0) (x := .string BP) (fun e => hne (by omega))).other (C := X) (o := 1) (x := .int .i64 BA) (fun e => hne (by omega)))
        clear hH4
        refine hK.out _ _ ?_ (fun hH5 => ?_)
        ·exact hba
        clear hK K
        clear hba
        generalize (V4.setCell ⟨X, 0, none⟩ (.string BP)).setCell ⟨X, 1, none⟩ (.int .i64 BA) = V5 at *
        clear V4
        try dsimp only
        try simp only [List.getElem_toArray, List.getElem_cons_succ, List.getElem_cons_zero]
        try simp only [Act.put]
        try simp only [List.setIfInBounds_toArray]
        try simp only [List.set_cons_zero, List.set_cons_succ]
        refine wpAnyH_ready (rs := [9]) (by kernel_rfl) (by simp) ?_
        refine AllReadyH.cons (o := _) rfl (fun K hK => ?_) ?_
        ·skip
         obtain ⟨x0, x1⟩ := FY.out.cells
         obtain ⟨y0, y1⟩ := FY.out.free
         go_simp
         clear x0 x1 y0 y1
         have hba := (hH5.setCell (p := ⟨Y, 0, none⟩) hlY (.string FP)).setCell (p := ⟨Y, 1, none⟩) hlY (.int .i64 FT)
         replace FY := Lib.hid (box_put (v0 := .string FP) (v1 := .int .i64 FT) FY.out)
         replace FX := Lib.hid ((FX.out.other (C := Y) (o := 0) (x := .string FP) (fun e => hne (by omega))).other (C := Y) (o := 1) (x := .int .i64 FT) (fun e => hne (by omega)))
         clear hH5
         refine hK.out _ _ ?_ (fun hH6 => ?_)
         ·exact hba
         clear hK K
         clear hba
         generalize (V5.setCell ⟨Y, 0, none⟩ (.string FP)).setCell ⟨Y, 1, none⟩ (.int .i64 FT) = V6 at *
         clear V5
         try dsimp only
         try simp only [List.getElem_toArray, List.getElem_cons_succ, List.getElem_cons_zero]
         try simp only [Act.put]
         try simp only [List.setIfInBounds_toArray]
         try simp only [List.set_cons_zero, List.set_cons_succ]
         refine wpAnyH_done (by kernel_rfl) ?_ _
         try dsimp only [Act.put, Oper.dst]
         try dsimp only
         try simp only [Act.put]
         try simp only [List.setIfInBounds_toArray]
         try simp only [List.set_cons_zero, List.set_cons_succ]
         go_wp2_with fail
         go_meet
         exact ⟨X, Y, rfl, rfl, FX.out.cells.1, FX.out.cells.2, FY.out.cells.1, FY.out.cells.2, hH6⟩
        exact AllReadyH.nil
       exact AllReadyH.nil
      exact AllReadyH.nil
     exact AllReadyH.nil
    refine AllReadyH.cons (o := _) rfl (fun K hK => ?_) ?_
    ·skip
     go_simp
     have hba := hH1.alloc hH1.size (.cells #[.string ⟨#[]⟩, .int .i64 0] 127)
     have FX := Lib.hid (Box2.new (T := 127) (v0 := .string ⟨#[]⟩) (v1 := .int .i64 0) V1)
     have hlX := hH1.size
     have hne : ¬ Y = V1.heap.size := by have := FY.out.lt; omega
     replace FY := Lib.hid (FY.out.below ((Below.refl _ _).alloc (Nat.le_refl _) (.cells #[.string ⟨#[]⟩, .int .i64 0] 127)))
     clear hH1
     refine hK.out _ _ ?_ (fun hH2 => ?_)
     ·exact hba
     clear hK K
     clear hba
     generalize V1.heap.size = X at *
     generalize V1.alloc (.cells #[.string ⟨#[]⟩, .int .i64 0] 127) = V2 at *
     clear V1
     try dsimp only
     try simp only [List.getElem_toArray, List.getElem_cons_succ, List.getElem_cons_zero]
     try simp only [Act.put]
     try simp only [List.setIfInBounds_toArray]
     try simp only [List.set_cons_zero, List.set_cons_succ]
     refine wpAnyH_ready (rs := [2]) (by kernel_rfl) (by simp) ?_
     refine AllReadyH.cons (o := _) rfl (fun K hK => ?_) ?_
     ·skip
      go_simp
      go_at_call 130
      refine (HBH1.out V2 hH2).mono ?_; rintro e V3 ⟨rfl, hu⟩
      have hbu : Below W.heap.size W V3 := hH2.trans (hu.mono hH2.size)
      replace FX := Lib.hid (FX.out.below hu)
      replace FY := Lib.hid (FY.out.below hu)
      clear hu hH2
      refine hK.out _ _ ?_ (fun hH3 => ?_)
      ·exact hbu
      clear hK K
      clear hbu
      try dsimp only
      try simp only [List.getElem_toArray, List.getElem_cons_succ, List.getElem_cons_zero]
      try simp only [Act.put]
      try simp only [List.setIfInBounds_toArray]
      try simp only [List.set_cons_zero, List.set_cons_succ]
      refine wpAnyH_ready (rs := [5]) (by kernel_rfl) (by simp) ?_
      refine AllReadyH.cons (o := _) rfl (fun K hK => ?_) ?_
      ·skip
       go_simp
       go_at_call 148
       refine (HBF1.out V3 hH3).mono ?_; rintro e V4 ⟨rfl, hu⟩
       have hbu : Below W.heap.size W V4 := hH3.trans (hu.mono hH3.size)
       replace FX := Lib.hid (FX.out.below hu)
       replace FY := Lib.hid (FY.out.below hu)
       clear hu hH3
       refine hK.out _ _ ?_ (fun hH4 => ?_)
       ·exact hbu
       clear hK K
       clear hbu
       try dsimp only
       try simp only [List.getElem_toArray, List.getElem_cons_succ, List.getElem_cons_zero]
       try simp only [Act.put]
       try simp only [List.setIfInBounds_toArray]
       try simp only [List.set_cons_zero, List.set_cons_succ]
       refine wpAnyH_ready (rs := [8]) (by kernel_rfl) (by simp) ?_
       refine AllReadyH.cons (o := _) rfl (fun K hK => ?_) ?_
       ·skip
        obtain ⟨x0, x1⟩ := FX.out.cells
        obtain ⟨y0, y1⟩ := FX.out.free
        go_simp
        clear x0 x1 y0 y1
        have hba := (hH4.setCell (p := ⟨X, 0, none⟩) hlX (.string BP)).setCell (p := ⟨X, 1, none⟩) hlX (.int .i64 BA)
        replace FX := Lib.hid (box_put (v0 := .string BP) (v1 := .int .i64 BA) FX.out)
        replace FY := Lib.hid ((FY.out.other (C := X) (o := 0) (x := .string BP) (fun e => hne (by omega))).other (C := X) (o := 1) (x := .int .i64 BA) (fun e => hne (by omega)))
        clear hH4
        refine hK.out _ _ ?_ (fun hH5 => ?_)
        ·exact hba
        clear hK K
        clear hba
        generalize (V4.setCell ⟨X, 0, none⟩ (.string BP)).setCell ⟨X, 1, none⟩ (.int .i64 BA) = V5 at *
        clear V4
        try dsimp only
        try simp only [List.getElem_toArray, List.getElem_cons_succ, List.getElem_cons_zero]
        try simp only [Act.put]
        try simp only [List.setIfInBounds_toArray]
        try simp only [List.set_cons_zero, List.set_cons_succ]
        refine wpAnyH_ready (rs := [9]) (by kernel_rfl) (by simp) ?_
        refine AllReadyH.cons (o := _) rfl (fun K hK => ?_) ?_
        ·skip
         obtain ⟨x0, x1⟩ := FY.out.cells
         obtain ⟨y0, y1⟩ := FY.out.free
         go_simp
         clear x0 x1 y0 y1
         have hba := (hH5.setCell (p := ⟨Y, 0, none⟩) hlY (.string FP)).setCell (p := ⟨Y, 1, none⟩) hlY (.int .i64 FT)
         replace FY := Lib.hid (box_put (v0 := .string FP) (v1 := .int .i64 FT) FY.out)
         replace FX := Lib.hid ((FX.out.other (C := Y) (o := 0) (x := .string FP) (fun e => hne (by omega))).other (C := Y) (o := 1) (x := .int .i64 FT) (fun e => hne (by omega)))
         clear hH5
         refine hK.out _ _ ?_ (fun hH6 => ?_)
         ·exact hba
         clear hK K
         clear hba
         generalize (V5.setCell ⟨Y, 0, none⟩ (.string FP)).setCell ⟨Y, 1, none⟩ (.int .i64 FT) = V6 at *
         clear V5
         try dsimp only
         try simp only [List.getElem_toArray, List.getElem_cons_succ, List.getElem_cons_zero]
         try simp only [Act.put]
         try simp only [List.setIfInBounds_toArray]
         try simp only [List.set_cons_zero, List.set_cons_succ]
         refine wpAnyH_done (by kernel_rfl) ?_ _
         try dsimp only [Act.put, Oper.dst]
         try dsimp only
         try simp only [Act.put]
         try simp only [List.setIfInBounds_toArray]
         try simp only [List.set_cons_zero, List.set_cons_succ]
         go_wp2_with fail
         go_meet
         exact ⟨X, Y, rfl, rfl, FX.out.cells.1, FX.out.cells.2, FY.out.cells.1, FY.out.cells.2, hH6⟩
        exact AllReadyH.nil
       exact AllReadyH.nil
      exact AllReadyH.nil
     exact AllReadyH.nil
    exact AllReadyH.nil
   exact AllReadyH.nil
  case rest =>
   obtain ⟨X, Y, rfl, rfl, x0, x1, y0, y1, hbx⟩ := hcut
   obtain ⟨e0, e1, e2⟩ := (FN.out.below hbx).cells
   have HEX := Lib.hid (HEA.out wc (HA.out.below hbx) (HD.out.below hbx))
   have HBX := Lib.hid (HB0.out.trans (hbx.mono (Nat.le_of_lt hW0)))
   have hBw : B ≤ wc.heap.size := by have := hbx.size; omega
   clear b0 b1 b2 s0 s1 s2 s3 s4 s5 q0 q1 q2 q3 q4 q5 hbx HEA HBH1 HBF1
   have hlt : ∀ {b o : Nat} {v : Value}, wc.cell? ⟨b, o, none⟩ = some v → b < wc.heap.size := fun {b o _} h => World.block_lt_of_cell? wc ⟨b, o, none⟩ h
   have hY := hlt y0
   clear hlt
   go_wp2_with fail
   refine HEX.out.mono ?_; rintro e w2 ⟨rfl, hb2⟩
   have z1 := (hb2.cell (p := ⟨Y, 1, none⟩) hY).trans y1
   have HB2 := Lib.hid (HBX.out.trans (hb2.mono hBw))
   clear y0 y1 x0 x1 e0 e1 e2 hb2 HEX
   rcases HEB.out with rfl | ⟨hE0, hE1⟩
   ·have HVF := Lib.hid (HV.out.trans (show _ = false by rfl))
    go_wp2
    go_ret
    exact ⟨ret_bool HVF.out.symm, by rw [HBE.out]; exact HB2.out⟩
   ·have hne : (E != -1) = true := by simp; omega
    have HVF := Lib.hid (HV.out.trans (show _ = decide (E ≤ FT) by rw [decide_eq_true hE0, Bool.true_and]))
    go_wp2
    go_ret
    exact ⟨ret_bool HVF.out.symm, by rw [HBE.out]; exact HB2.out⟩
end Go.Proofs.YtinijleelhbpoaaGreat

/- The contract of impl.CanFollow. Written by mk/fol.py. -/
namespace Go.Proofs.YtinijleelhbpoaaGreat
open Go.RowKit
theorem can_a {l : List Lg} {zs : List Int} {x : Int} {a b : Sc} (h : scB l zs x a = false) : canB l zs x a b = false := by unfold canB; rw [h]; rfl
theorem can_b {l : List Lg} {zs : List Int} {x : Int} {a b : Sc} (h : scB l zs x b = false) : canB l zs x a b = false := by unfold canB; rw [h]; simp
theorem can_h {l : List Lg} {zs : List Int} {x : Int} {a b : Sc} (h : ¬ a.h = b.h) : canB l zs x a b = false := by unfold canB; rw [decide_eq_false h]; simp
theorem can_c {l : List Lg} {zs : List Int} {x : Int} {a b : Sc} (h : ¬ cmpSc a b < 0) : canB l zs x a b = false := by unfold canB; rw [decide_eq_false h]; simp
theorem can_f {l : List Lg} {zs : List Int} {x : Int} {a b : Sc} (h1 : scB l zs x a = true) (h2 : scB l zs x b = true) (h3 : a.h = b.h) (h4 : cmpSc a b < 0) : canB l zs x a b = folB l zs x a b := by unfold canB; rw [h1, h2, decide_eq_true h3, decide_eq_true h4]; rfl
end Go.Proofs.YtinijleelhbpoaaGreat

/- The contracts of spec.l8Reach and spec.CanFollow. Written by mk/fol.py. -/
namespace Go.Proofs.YtinijleelhbpoaaGreat
open Go.RowKit
def reachB (l : List Lg) (zs : List Int) (x : Int) (P : ByteArray) (T : Int) (q : ByteArray) : Int := if P = q then T else earB l zs x P q T
set_option maxRecDepth 100000 in
set_option maxHeartbeats 4000000 in
theorem reach_spec (P : ByteArray) (T : Int) (q : ByteArray) (A : Option Addr) (ca : Nat) (l : List Lg) (D : Option Addr) (cd : Nat) (zs : List Int) (x : Int) (w : World) (hA : InK 6 lgC w A l) (hD : IntsIn w D zs) (hs : ∀ z ∈ l, z.f.size ≤ maxLen ∧ z.t.size ≤ maxLen) (hn : l.length ≤ 1048576) (hm : zs.length ≤ 1048576) :
  Calls Tryz.prog 111 #[.agg #[.slice A l.length ca, .slice D zs.length cd, .int .i64 x], .agg #[.string P, .int .i64 T], .string q] w fun e w' => e = .returned (.int .i64 (reachB l zs x P T q)) ∧ Below w.heap.size w w' := by
 have H2 := Lib.hid (two w (.cells #[.slice A l.length ca, .slice D zs.length cd, .int .i64 x] 27) (.cells #[.string P, .int .i64 T] 127))
 have HA := Lib.hid (hA.below H2.out.2.2.1); have HD := Lib.hid (hD.below H2.out.2.2.1); clear hA hD
 have HEA := Lib.hid (fun W (h1 : InK 6 lgC W A l) (h2 : IntsIn W D zs) => early_spec P q T A ca l D cd zs x W h1 h2 hs hn hm)
 by_cases e : P = q
 ·have HV := Lib.hid (show reachB l zs x P T q = T from if_pos e)
  have hq := str_eq e
  have HB0 := Lib.hid H2.out.2.2.1
  clear HEA HA HD H2 e
  generalize reachB l zs x P T q = V at *
  go_enter Tryz.func111, Tryz.ntmps111
  go_wp2
  go_ret
  exact ⟨ret_int HV.out.symm, HB0.out⟩
 ·have HV := Lib.hid (show reachB l zs x P T q = earB l zs x P q T from if_neg e)
  have hq := str_ne e
  clear e
  generalize reachB l zs x P T q = V at *
  go_enter Tryz.func111, Tryz.ntmps111
  go_wp2_with fail
  refine (HEA.out _ HA.out HD.out).mono ?_; rintro e w1 ⟨rfl, hb1⟩
  have HB1 := Lib.hid (H2.out.2.2.1.trans (hb1.mono (by rw [H2.out.2.2.2]; omega)))
  clear hb1 HEA HA HD H2
  go_wp2
  go_ret
  exact ⟨ret_int HV.out.symm, HB1.out⟩
theorem can_4 {l : List Lg} {zs : List Int} {x : Int} {a b : Sc} (h : a.k = 4) : canB l zs x a b = false := by unfold canB; rw [fol_done h]; simp
theorem reach_ear {l : List Lg} {zs : List Int} {x : Int} {r : Sc} {q : ByteArray} (h : scB l zs x r = true) : reachB l zs x (behP l zs x r) (behA l zs x r) q = earB l zs x (behP l zs x r) q (behA l zs x r) := by
 unfold reachB
 by_cases e : behP l zs x r = q
 ·obtain ⟨h1, h2, h3, h4⟩ := beh_place h
  rw [if_pos e, ← e, ear_self h1 h2 ⟨h3, h4⟩]
 ·rw [if_neg e]
set_option maxRecDepth 100000 in
set_option maxHeartbeats 8000000 in
theorem can_spec (h a k : Int) (p : ByteArray) (g d : Int) (h' a' k' : Int) (p' : ByteArray) (g' d' : Int) (A : Option Addr) (ca : Nat) (l : List Lg) (D : Option Addr) (cd : Nat) (zs : List Int) (x : Int) (w : World) (hA : InK 6 lgC w A l) (hD : IntsIn w D zs) (hs : ∀ z ∈ l, z.f.size ≤ maxLen ∧ z.t.size ≤ maxLen) (hn : l.length ≤ 1048576) (hm : zs.length ≤ 1048576) :
  Calls Tryz.prog 86 #[.agg #[.slice A l.length ca, .slice D zs.length cd, .int .i64 x], .agg #[.int .i64 h, .int .i64 a, .int .i64 k, .string p, .int .i64 g, .int .i64 d], .agg #[.int .i64 h', .int .i64 a', .int .i64 k', .string p', .int .i64 g', .int .i64 d']] w fun e w' => e = .returned (.bool (canB l zs x ⟨h, a, k, p, g, d⟩ ⟨h', a', k', p', g', d'⟩)) ∧ Below w.heap.size w w' := by
 have H3 := Lib.hid (three w (.cells #[.slice A l.length ca, .slice D zs.length cd, .int .i64 x] 27) (.cells #[.int .i64 h, .int .i64 a, .int .i64 k, .string p, .int .i64 g, .int .i64 d] 34) (.cells #[.int .i64 h', .int .i64 a', .int .i64 k', .string p', .int .i64 g', .int .i64 d'] 34))
 have HA := Lib.hid (hA.below H3.out.2.2.2.1); have HD := Lib.hid (hD.below H3.out.2.2.2.1); clear hA hD
 have HIA := Lib.hid (fun W (h1 : InK 6 lgC W A l) (h2 : IntsIn W D zs) => is_sc_spec h a k p g d A ca l D cd zs x W h1 h2 hs hn hm)
 have HIB := Lib.hid (fun W (h1 : InK 6 lgC W A l) (h2 : IntsIn W D zs) => is_sc_spec h' a' k' p' g' d' A ca l D cd zs x W h1 h2 hs hn hm)
 have HCM := Lib.hid (fun W => cmp_sc_spec h a k p g d h' a' k' p' g' d' W)
 have HBH := Lib.hid (fun W (h1 : InK 6 lgC W A l) (h2 : IntsIn W D zs) => behind_spec h a k p g d A ca l D cd zs x W h1 h2 hs hn hm)
 have HBF := Lib.hid (fun W (h1 : InK 6 lgC W A l) (h2 : IntsIn W D zs) => before_spec h' a' k' p' g' d' A ca l D cd zs x W h1 h2 hs hn hm)
 have HRE := Lib.hid (fun W (h1 : InK 6 lgC W A l) (h2 : IntsIn W D zs) => reach_spec (behP l zs x ⟨h, a, k, p, g, d⟩) (behA l zs x ⟨h, a, k, p, g, d⟩) (befP l zs x ⟨h', a', k', p', g', d'⟩) A ca l D cd zs x W h1 h2 hs hn hm)
 have HRB := Lib.hid (fun q => reach_ear (l := l) (zs := zs) (x := x) (r := ⟨h, a, k, p, g, d⟩) (q := befP l zs x ⟨h', a', k', p', g', d'⟩) q)
 have HEB := Lib.hid (ear_bd l zs x (behP l zs x ⟨h, a, k, p, g, d⟩) (befP l zs x ⟨h', a', k', p', g', d'⟩) (behA l zs x ⟨h, a, k, p, g, d⟩))
 have V1 := Lib.hid (fun q => can_a (l := l) (zs := zs) (x := x) (a := ⟨h, a, k, p, g, d⟩) (b := ⟨h', a', k', p', g', d'⟩) q)
 have V2 := Lib.hid (fun q => can_b (l := l) (zs := zs) (x := x) (a := ⟨h, a, k, p, g, d⟩) (b := ⟨h', a', k', p', g', d'⟩) q)
 have V3 := Lib.hid (fun q => can_h (l := l) (zs := zs) (x := x) (a := ⟨h, a, k, p, g, d⟩) (b := ⟨h', a', k', p', g', d'⟩) q)
 have V4 := Lib.hid (fun q => can_c (l := l) (zs := zs) (x := x) (a := ⟨h, a, k, p, g, d⟩) (b := ⟨h', a', k', p', g', d'⟩) q)
 have V6 := Lib.hid (fun q => can_4 (l := l) (zs := zs) (x := x) (a := ⟨h, a, k, p, g, d⟩) (b := ⟨h', a', k', p', g', d'⟩) q)
 have V5 := Lib.hid (fun q1 q2 q3 q4 => can_f (l := l) (zs := zs) (x := x) (a := ⟨h, a, k, p, g, d⟩) (b := ⟨h', a', k', p', g', d'⟩) q1 q2 q3 q4)
 have HVS := Lib.hid (fun q => fol_same (l := l) (zs := zs) (x := x) (a := ⟨h, a, k, p, g, d⟩) (b := ⟨h', a', k', p', g', d'⟩) q)
 have HVE := Lib.hid (fun q q2 => fol_else (l := l) (zs := zs) (x := x) (a := ⟨h, a, k, p, g, d⟩) (b := ⟨h', a', k', p', g', d'⟩) q q2)
 dsimp only at V1 V2 V3 V4 V5 V6 HVS HVE
 clear hs
 generalize canB l zs x ⟨h, a, k, p, g, d⟩ ⟨h', a', k', p', g', d'⟩ = V at *
 generalize folB l zs x ⟨h, a, k, p, g, d⟩ ⟨h', a', k', p', g', d'⟩ = FV at *
 generalize cmpSc ⟨h, a, k, p, g, d⟩ ⟨h', a', k', p', g', d'⟩ = CV at *
 generalize scB l zs x ⟨h, a, k, p, g, d⟩ = SA at *
 generalize scB l zs x ⟨h', a', k', p', g', d'⟩ = SB at *
 generalize reachB l zs x (behP l zs x ⟨h, a, k, p, g, d⟩) (behA l zs x ⟨h, a, k, p, g, d⟩) (befP l zs x ⟨h', a', k', p', g', d'⟩) = RE at *
 generalize earB l zs x (behP l zs x ⟨h, a, k, p, g, d⟩) (befP l zs x ⟨h', a', k', p', g', d'⟩) (behA l zs x ⟨h, a, k, p, g, d⟩) = E at *
 generalize behP l zs x ⟨h, a, k, p, g, d⟩ = BP at *
 generalize behA l zs x ⟨h, a, k, p, g, d⟩ = BA at *
 generalize befP l zs x ⟨h', a', k', p', g', d'⟩ = FP at *
 generalize befA l zs x ⟨h', a', k', p', g', d'⟩ = FT at *
 cases SA with
 | false =>
  have HV := Lib.hid (V1.out rfl); clear V1 V2 V3 V4 V5 V6 HVS HVE HIB HCM HBH HBF HRE HRB HEB
  go_enter Tryz.func86, Tryz.ntmps86
  go_wp2_with fail
  generalize hB : w.heap.size = B at *
  have HBE := Lib.hid hB; clear hB
  generalize ((w.alloc (.cells #[.slice A l.length ca, .slice D zs.length cd, .int .i64 x] 27)).alloc (.cells #[.int .i64 h, .int .i64 a, .int .i64 k, .string p, .int .i64 g, .int .i64 d] 34)).alloc (.cells #[.int .i64 h', .int .i64 a', .int .i64 k', .string p', .int .i64 g', .int .i64 d'] 34) = W at *
  obtain ⟨h1, h2, h3, h4, h5⟩ := H3.out
  have FNW := Lib.hid (show Box3 27 W B (.slice A l.length ca) (.slice D zs.length cd) (.int .i64 x) from h1)
  have FAW := Lib.hid (show BoxS 34 W (B + 1) _ _ _ _ _ _ from h2); have FBW := Lib.hid (show BoxS 34 W (B + 2) _ _ _ _ _ _ from h3)
  have HBW := Lib.hid h4; have HAW := HA; have HDW := HD
  clear h1 h2 h3 h4 h5 H3 HA HD
  refine (HIA.out W HAW.out HDW.out).mono ?_; rintro e w1 ⟨rfl, hb⟩
  have HBw1 := Lib.hid (HBW.out.trans (hb.mono (Nat.le_of_lt FNW.out.lt)))
  have FNw1 := Lib.hid (FNW.out.below hb); have FAw1 := Lib.hid (BoxS.below FAW.out hb); have FBw1 := Lib.hid (BoxS.below FBW.out hb); have HAw1 := Lib.hid (HAW.out.below hb); have HDw1 := Lib.hid (HDW.out.below hb)
  clear hb HBW FNW FAW FBW HAW HDW
  go_wp2
  go_ret
  exact ⟨ret_bool HV.out.symm, by rw [HBE.out]; exact HBw1.out⟩
 | true =>
  replace HRB := Lib.hid (HRB.out rfl)
  cases SB with
  | false =>
   have HV := Lib.hid (V2.out rfl); clear V1 V2 V3 V4 V5 V6 HVS HVE HBH HBF HRE HRB HEB HCM
   go_enter Tryz.func86, Tryz.ntmps86
   go_wp2_with fail
   generalize hB : w.heap.size = B at *
   have HBE := Lib.hid hB; clear hB
   generalize ((w.alloc (.cells #[.slice A l.length ca, .slice D zs.length cd, .int .i64 x] 27)).alloc (.cells #[.int .i64 h, .int .i64 a, .int .i64 k, .string p, .int .i64 g, .int .i64 d] 34)).alloc (.cells #[.int .i64 h', .int .i64 a', .int .i64 k', .string p', .int .i64 g', .int .i64 d'] 34) = W at *
   obtain ⟨h1, h2, h3, h4, h5⟩ := H3.out
   have FNW := Lib.hid (show Box3 27 W B (.slice A l.length ca) (.slice D zs.length cd) (.int .i64 x) from h1)
   have FAW := Lib.hid (show BoxS 34 W (B + 1) _ _ _ _ _ _ from h2); have FBW := Lib.hid (show BoxS 34 W (B + 2) _ _ _ _ _ _ from h3)
   have HBW := Lib.hid h4; have HAW := HA; have HDW := HD
   clear h1 h2 h3 h4 h5 H3 HA HD
   refine (HIA.out W HAW.out HDW.out).mono ?_; rintro e w1 ⟨rfl, hb⟩
   have HBw1 := Lib.hid (HBW.out.trans (hb.mono (Nat.le_of_lt FNW.out.lt)))
   have FNw1 := Lib.hid (FNW.out.below hb); have FAw1 := Lib.hid (BoxS.below FAW.out hb); have FBw1 := Lib.hid (BoxS.below FBW.out hb); have HAw1 := Lib.hid (HAW.out.below hb); have HDw1 := Lib.hid (HDW.out.below hb)
   clear hb HBW FNW FAW FBW HAW HDW
   obtain ⟨b0, b1, b2⟩ := FNw1.out.cells
   obtain ⟨s0, s1, s2, s3, s4, s5⟩ := FAw1.out.cells
   obtain ⟨q0, q1, q2, q3, q4, q5⟩ := FBw1.out.cells
   go_wp2_with fail
   clear b0 b1 b2 s0 s1 s2 s3 s4 s5 q0 q1 q2 q3 q4 q5
   refine (HIB.out w1 HAw1.out HDw1.out).mono ?_; rintro e w2 ⟨rfl, hb⟩
   have HBw2 := Lib.hid (HBw1.out.trans (hb.mono (Nat.le_of_lt FNw1.out.lt)))
   have FNw2 := Lib.hid (FNw1.out.below hb); have FAw2 := Lib.hid (BoxS.below FAw1.out hb); have FBw2 := Lib.hid (BoxS.below FBw1.out hb); have HAw2 := Lib.hid (HAw1.out.below hb); have HDw2 := Lib.hid (HDw1.out.below hb)
   clear hb HBw1 FNw1 FAw1 FBw1 HAw1 HDw1
   go_wp2
   go_ret
   exact ⟨ret_bool HV.out.symm, by rw [HBE.out]; exact HBw2.out⟩
  | true =>
   by_cases e1 : h = h'
   rotate_left
   ·have HV := Lib.hid (V3.out e1); clear V1 V2 V3 V4 V5 V6 HVS HVE HBH HBF HRE HRB HEB HCM
    have t1 : (h != h') = true := by simp [e1]
    clear e1
    go_enter Tryz.func86, Tryz.ntmps86
    go_wp2_with fail
    generalize hB : w.heap.size = B at *
    have HBE := Lib.hid hB; clear hB
    generalize ((w.alloc (.cells #[.slice A l.length ca, .slice D zs.length cd, .int .i64 x] 27)).alloc (.cells #[.int .i64 h, .int .i64 a, .int .i64 k, .string p, .int .i64 g, .int .i64 d] 34)).alloc (.cells #[.int .i64 h', .int .i64 a', .int .i64 k', .string p', .int .i64 g', .int .i64 d'] 34) = W at *
    obtain ⟨h1, h2, h3, h4, h5⟩ := H3.out
    have FNW := Lib.hid (show Box3 27 W B (.slice A l.length ca) (.slice D zs.length cd) (.int .i64 x) from h1)
    have FAW := Lib.hid (show BoxS 34 W (B + 1) _ _ _ _ _ _ from h2); have FBW := Lib.hid (show BoxS 34 W (B + 2) _ _ _ _ _ _ from h3)
    have HBW := Lib.hid h4; have HAW := HA; have HDW := HD
    clear h1 h2 h3 h4 h5 H3 HA HD
    refine (HIA.out W HAW.out HDW.out).mono ?_; rintro e w1 ⟨rfl, hb⟩
    have HBw1 := Lib.hid (HBW.out.trans (hb.mono (Nat.le_of_lt FNW.out.lt)))
    have FNw1 := Lib.hid (FNW.out.below hb); have FAw1 := Lib.hid (BoxS.below FAW.out hb); have FBw1 := Lib.hid (BoxS.below FBW.out hb); have HAw1 := Lib.hid (HAW.out.below hb); have HDw1 := Lib.hid (HDW.out.below hb)
    clear hb HBW FNW FAW FBW HAW HDW
    obtain ⟨b0, b1, b2⟩ := FNw1.out.cells
    obtain ⟨s0, s1, s2, s3, s4, s5⟩ := FAw1.out.cells
    obtain ⟨q0, q1, q2, q3, q4, q5⟩ := FBw1.out.cells
    go_wp2_with fail
    clear b0 b1 b2 s0 s1 s2 s3 s4 s5 q0 q1 q2 q3 q4 q5
    refine (HIB.out w1 HAw1.out HDw1.out).mono ?_; rintro e w2 ⟨rfl, hb⟩
    have HBw2 := Lib.hid (HBw1.out.trans (hb.mono (Nat.le_of_lt FNw1.out.lt)))
    have FNw2 := Lib.hid (FNw1.out.below hb); have FAw2 := Lib.hid (BoxS.below FAw1.out hb); have FBw2 := Lib.hid (BoxS.below FBw1.out hb); have HAw2 := Lib.hid (HAw1.out.below hb); have HDw2 := Lib.hid (HDw1.out.below hb)
    clear hb HBw1 FNw1 FAw1 FBw1 HAw1 HDw1
    obtain ⟨b0, b1, b2⟩ := FNw2.out.cells
    obtain ⟨s0, s1, s2, s3, s4, s5⟩ := FAw2.out.cells
    obtain ⟨q0, q1, q2, q3, q4, q5⟩ := FBw2.out.cells
    go_wp2
    go_ret
    exact ⟨ret_bool HV.out.symm, by rw [HBE.out]; exact HBw2.out⟩
   have t1 : (h != h') = false := by simp [e1]
   by_cases k4 : k = 4
   ·have HV := Lib.hid (V6.out k4); clear V1 V2 V3 V4 V5 V6 HVS HVE HBH HBF HRE HRB HEB HCM e1
    have t4 : (k == 4) = true := by simp [k4]
    clear k4
    go_enter Tryz.func86, Tryz.ntmps86
    go_wp2_with fail
    generalize hB : w.heap.size = B at *
    have HBE := Lib.hid hB; clear hB
    generalize ((w.alloc (.cells #[.slice A l.length ca, .slice D zs.length cd, .int .i64 x] 27)).alloc (.cells #[.int .i64 h, .int .i64 a, .int .i64 k, .string p, .int .i64 g, .int .i64 d] 34)).alloc (.cells #[.int .i64 h', .int .i64 a', .int .i64 k', .string p', .int .i64 g', .int .i64 d'] 34) = W at *
    obtain ⟨h1, h2, h3, h4, h5⟩ := H3.out
    have FNW := Lib.hid (show Box3 27 W B (.slice A l.length ca) (.slice D zs.length cd) (.int .i64 x) from h1)
    have FAW := Lib.hid (show BoxS 34 W (B + 1) _ _ _ _ _ _ from h2); have FBW := Lib.hid (show BoxS 34 W (B + 2) _ _ _ _ _ _ from h3)
    have HBW := Lib.hid h4; have HAW := HA; have HDW := HD
    clear h1 h2 h3 h4 h5 H3 HA HD
    refine (HIA.out W HAW.out HDW.out).mono ?_; rintro e w1 ⟨rfl, hb⟩
    have HBw1 := Lib.hid (HBW.out.trans (hb.mono (Nat.le_of_lt FNW.out.lt)))
    have FNw1 := Lib.hid (FNW.out.below hb); have FAw1 := Lib.hid (BoxS.below FAW.out hb); have FBw1 := Lib.hid (BoxS.below FBW.out hb); have HAw1 := Lib.hid (HAW.out.below hb); have HDw1 := Lib.hid (HDW.out.below hb)
    clear hb HBW FNW FAW FBW HAW HDW
    obtain ⟨b0, b1, b2⟩ := FNw1.out.cells
    obtain ⟨s0, s1, s2, s3, s4, s5⟩ := FAw1.out.cells
    obtain ⟨q0, q1, q2, q3, q4, q5⟩ := FBw1.out.cells
    go_wp2_with fail
    clear b0 b1 b2 s0 s1 s2 s3 s4 s5 q0 q1 q2 q3 q4 q5
    refine (HIB.out w1 HAw1.out HDw1.out).mono ?_; rintro e w2 ⟨rfl, hb⟩
    have HBw2 := Lib.hid (HBw1.out.trans (hb.mono (Nat.le_of_lt FNw1.out.lt)))
    have FNw2 := Lib.hid (FNw1.out.below hb); have FAw2 := Lib.hid (BoxS.below FAw1.out hb); have FBw2 := Lib.hid (BoxS.below FBw1.out hb); have HAw2 := Lib.hid (HAw1.out.below hb); have HDw2 := Lib.hid (HDw1.out.below hb)
    clear hb HBw1 FNw1 FAw1 FBw1 HAw1 HDw1
    obtain ⟨b0, b1, b2⟩ := FNw2.out.cells
    obtain ⟨s0, s1, s2, s3, s4, s5⟩ := FAw2.out.cells
    obtain ⟨q0, q1, q2, q3, q4, q5⟩ := FBw2.out.cells
    go_wp2
    go_ret
    exact ⟨ret_bool HV.out.symm, by rw [HBE.out]; exact HBw2.out⟩
   have t4 : (k == 4) = false := by simp [k4]
   by_cases e2 : CV < 0
   rotate_left
   ·have HV := Lib.hid (V4.out e2); clear V1 V2 V3 V4 V5 V6 HVS HVE HBH HBF HRE HRB HEB e1 k4
    have e3 : 0 ≤ CV := by omega
    go_enter Tryz.func86, Tryz.ntmps86
    go_wp2_with fail
    generalize hB : w.heap.size = B at *
    have HBE := Lib.hid hB; clear hB
    generalize ((w.alloc (.cells #[.slice A l.length ca, .slice D zs.length cd, .int .i64 x] 27)).alloc (.cells #[.int .i64 h, .int .i64 a, .int .i64 k, .string p, .int .i64 g, .int .i64 d] 34)).alloc (.cells #[.int .i64 h', .int .i64 a', .int .i64 k', .string p', .int .i64 g', .int .i64 d'] 34) = W at *
    obtain ⟨h1, h2, h3, h4, h5⟩ := H3.out
    have FNW := Lib.hid (show Box3 27 W B (.slice A l.length ca) (.slice D zs.length cd) (.int .i64 x) from h1)
    have FAW := Lib.hid (show BoxS 34 W (B + 1) _ _ _ _ _ _ from h2); have FBW := Lib.hid (show BoxS 34 W (B + 2) _ _ _ _ _ _ from h3)
    have HBW := Lib.hid h4; have HAW := HA; have HDW := HD
    clear h1 h2 h3 h4 h5 H3 HA HD
    refine (HIA.out W HAW.out HDW.out).mono ?_; rintro e w1 ⟨rfl, hb⟩
    have HBw1 := Lib.hid (HBW.out.trans (hb.mono (Nat.le_of_lt FNW.out.lt)))
    have FNw1 := Lib.hid (FNW.out.below hb); have FAw1 := Lib.hid (BoxS.below FAW.out hb); have FBw1 := Lib.hid (BoxS.below FBW.out hb); have HAw1 := Lib.hid (HAW.out.below hb); have HDw1 := Lib.hid (HDW.out.below hb)
    clear hb HBW FNW FAW FBW HAW HDW
    obtain ⟨b0, b1, b2⟩ := FNw1.out.cells
    obtain ⟨s0, s1, s2, s3, s4, s5⟩ := FAw1.out.cells
    obtain ⟨q0, q1, q2, q3, q4, q5⟩ := FBw1.out.cells
    go_wp2_with fail
    clear b0 b1 b2 s0 s1 s2 s3 s4 s5 q0 q1 q2 q3 q4 q5
    refine (HIB.out w1 HAw1.out HDw1.out).mono ?_; rintro e w2 ⟨rfl, hb⟩
    have HBw2 := Lib.hid (HBw1.out.trans (hb.mono (Nat.le_of_lt FNw1.out.lt)))
    have FNw2 := Lib.hid (FNw1.out.below hb); have FAw2 := Lib.hid (BoxS.below FAw1.out hb); have FBw2 := Lib.hid (BoxS.below FBw1.out hb); have HAw2 := Lib.hid (HAw1.out.below hb); have HDw2 := Lib.hid (HDw1.out.below hb)
    clear hb HBw1 FNw1 FAw1 FBw1 HAw1 HDw1
    obtain ⟨b0, b1, b2⟩ := FNw2.out.cells
    obtain ⟨s0, s1, s2, s3, s4, s5⟩ := FAw2.out.cells
    obtain ⟨q0, q1, q2, q3, q4, q5⟩ := FBw2.out.cells
    go_wp2_with fail
    clear b0 b1 b2 s0 s1 s2 s3 s4 s5 q0 q1 q2 q3 q4 q5
    refine (HCM.out w2).mono ?_; rintro e w3 ⟨rfl, hb⟩
    have HBw3 := Lib.hid (HBw2.out.trans (hb.mono (Nat.le_of_lt FNw2.out.lt)))
    have FNw3 := Lib.hid (FNw2.out.below hb); have FAw3 := Lib.hid (BoxS.below FAw2.out hb); have FBw3 := Lib.hid (BoxS.below FBw2.out hb); have HAw3 := Lib.hid (HAw2.out.below hb); have HDw3 := Lib.hid (HDw2.out.below hb)
    clear hb HBw2 FNw2 FAw2 FBw2 HAw2 HDw2
    obtain ⟨b0, b1, b2⟩ := FNw3.out.cells
    obtain ⟨s0, s1, s2, s3, s4, s5⟩ := FAw3.out.cells
    obtain ⟨q0, q1, q2, q3, q4, q5⟩ := FBw3.out.cells
    go_wp2
    go_ret
    exact ⟨ret_bool HV.out.symm, by rw [HBE.out]; exact HBw3.out⟩
   have e3 : ¬ 0 ≤ CV := by omega
   have HV0 := Lib.hid (V5.out rfl rfl e1 e2); clear V1 V2 V3 V4 V5 V6 e1
   have hEQ := trip_eql g d g' d'
   by_cases q0 : k = 3 ∧ k' = 2 ∧ g = g' ∧ d = d'
   ·have HV := Lib.hid (HV0.out.trans (HVS.out q0))
    have t3 : (k == 3) = true := by simp [q0.1]
    have t2 : (k' == 2) = true := by simp [q0.2.1]
    rw [show (g == g' && d == d') = true by simp [q0.2.2.1, q0.2.2.2]] at hEQ
    clear HVS HVE HBH HBF HRE HRB HEB k4 q0 HV0
    go_enter Tryz.func86, Tryz.ntmps86
    go_wp2_with fail
    generalize hB : w.heap.size = B at *
    have HBE := Lib.hid hB; clear hB
    generalize ((w.alloc (.cells #[.slice A l.length ca, .slice D zs.length cd, .int .i64 x] 27)).alloc (.cells #[.int .i64 h, .int .i64 a, .int .i64 k, .string p, .int .i64 g, .int .i64 d] 34)).alloc (.cells #[.int .i64 h', .int .i64 a', .int .i64 k', .string p', .int .i64 g', .int .i64 d'] 34) = W at *
    obtain ⟨h1, h2, h3, h4, h5⟩ := H3.out
    have FNW := Lib.hid (show Box3 27 W B (.slice A l.length ca) (.slice D zs.length cd) (.int .i64 x) from h1)
    have FAW := Lib.hid (show BoxS 34 W (B + 1) _ _ _ _ _ _ from h2); have FBW := Lib.hid (show BoxS 34 W (B + 2) _ _ _ _ _ _ from h3)
    have HBW := Lib.hid h4; have HAW := HA; have HDW := HD
    clear h1 h2 h3 h4 h5 H3 HA HD
    refine (HIA.out W HAW.out HDW.out).mono ?_; rintro e w1 ⟨rfl, hb⟩
    have HBw1 := Lib.hid (HBW.out.trans (hb.mono (Nat.le_of_lt FNW.out.lt)))
    have FNw1 := Lib.hid (FNW.out.below hb); have FAw1 := Lib.hid (BoxS.below FAW.out hb); have FBw1 := Lib.hid (BoxS.below FBW.out hb); have HAw1 := Lib.hid (HAW.out.below hb); have HDw1 := Lib.hid (HDW.out.below hb)
    clear hb HBW FNW FAW FBW HAW HDW
    obtain ⟨b0, b1, b2⟩ := FNw1.out.cells
    obtain ⟨s0, s1, s2, s3, s4, s5⟩ := FAw1.out.cells
    obtain ⟨q0, q1, q2, q3, q4, q5⟩ := FBw1.out.cells
    go_wp2_with fail
    clear b0 b1 b2 s0 s1 s2 s3 s4 s5 q0 q1 q2 q3 q4 q5
    refine (HIB.out w1 HAw1.out HDw1.out).mono ?_; rintro e w2 ⟨rfl, hb⟩
    have HBw2 := Lib.hid (HBw1.out.trans (hb.mono (Nat.le_of_lt FNw1.out.lt)))
    have FNw2 := Lib.hid (FNw1.out.below hb); have FAw2 := Lib.hid (BoxS.below FAw1.out hb); have FBw2 := Lib.hid (BoxS.below FBw1.out hb); have HAw2 := Lib.hid (HAw1.out.below hb); have HDw2 := Lib.hid (HDw1.out.below hb)
    clear hb HBw1 FNw1 FAw1 FBw1 HAw1 HDw1
    obtain ⟨b0, b1, b2⟩ := FNw2.out.cells
    obtain ⟨s0, s1, s2, s3, s4, s5⟩ := FAw2.out.cells
    obtain ⟨q0, q1, q2, q3, q4, q5⟩ := FBw2.out.cells
    go_wp2_with fail
    clear b0 b1 b2 s0 s1 s2 s3 s4 s5 q0 q1 q2 q3 q4 q5
    refine (HCM.out w2).mono ?_; rintro e w3 ⟨rfl, hb⟩
    have HBw3 := Lib.hid (HBw2.out.trans (hb.mono (Nat.le_of_lt FNw2.out.lt)))
    have FNw3 := Lib.hid (FNw2.out.below hb); have FAw3 := Lib.hid (BoxS.below FAw2.out hb); have FBw3 := Lib.hid (BoxS.below FBw2.out hb); have HAw3 := Lib.hid (HAw2.out.below hb); have HDw3 := Lib.hid (HDw2.out.below hb)
    clear hb HBw2 FNw2 FAw2 FBw2 HAw2 HDw2
    obtain ⟨b0, b1, b2⟩ := FNw3.out.cells
    obtain ⟨s0, s1, s2, s3, s4, s5⟩ := FAw3.out.cells
    obtain ⟨q0, q1, q2, q3, q4, q5⟩ := FBw3.out.cells
    go_wp2
    go_ret
    exact ⟨ret_bool HV.out.symm, by rw [HBE.out]; exact HBw3.out⟩
   have HV := Lib.hid (HV0.out.trans (HVE.out k4 q0)); clear HVS HVE HV0 k4
   have HF := Lib.hid (show (k == 3) = false ∨ ((k == 3) = true ∧ (k' == 2) = false) ∨ ((k == 3) = true ∧ (k' == 2) = true ∧ (g == g' && d == d') = false) by
    by_cases e3 : k = 3
    ·by_cases e2 : k' = 2
     ·refine .inr (.inr ⟨by simp [e3], by simp [e2], ?_⟩)
      cases e : (g == g' && d == d') with
      | false => rfl
      | true => simp only [Bool.and_eq_true, beq_iff_eq] at e; exact absurd ⟨e3, e2, e.1, e.2⟩ q0
     ·exact .inr (.inl ⟨by simp [e3], by simp [e2]⟩)
    ·exact .inl (by simp [e3]))
   clear q0
   go_enter Tryz.func86, Tryz.ntmps86
   go_wp2_with fail
   generalize hB : w.heap.size = B at *
   have HBE := Lib.hid hB; clear hB
   generalize ((w.alloc (.cells #[.slice A l.length ca, .slice D zs.length cd, .int .i64 x] 27)).alloc (.cells #[.int .i64 h, .int .i64 a, .int .i64 k, .string p, .int .i64 g, .int .i64 d] 34)).alloc (.cells #[.int .i64 h', .int .i64 a', .int .i64 k', .string p', .int .i64 g', .int .i64 d'] 34) = W at *
   obtain ⟨h1, h2, h3, h4, h5⟩ := H3.out
   have FNW := Lib.hid (show Box3 27 W B (.slice A l.length ca) (.slice D zs.length cd) (.int .i64 x) from h1)
   have FAW := Lib.hid (show BoxS 34 W (B + 1) _ _ _ _ _ _ from h2); have FBW := Lib.hid (show BoxS 34 W (B + 2) _ _ _ _ _ _ from h3)
   have HBW := Lib.hid h4; have HAW := HA; have HDW := HD
   clear h1 h2 h3 h4 h5 H3 HA HD
   refine (HIA.out W HAW.out HDW.out).mono ?_; rintro e w1 ⟨rfl, hb⟩
   have HBw1 := Lib.hid (HBW.out.trans (hb.mono (Nat.le_of_lt FNW.out.lt)))
   have FNw1 := Lib.hid (FNW.out.below hb); have FAw1 := Lib.hid (BoxS.below FAW.out hb); have FBw1 := Lib.hid (BoxS.below FBW.out hb); have HAw1 := Lib.hid (HAW.out.below hb); have HDw1 := Lib.hid (HDW.out.below hb)
   clear hb HBW FNW FAW FBW HAW HDW
   obtain ⟨b0, b1, b2⟩ := FNw1.out.cells
   obtain ⟨s0, s1, s2, s3, s4, s5⟩ := FAw1.out.cells
   obtain ⟨q0, q1, q2, q3, q4, q5⟩ := FBw1.out.cells
   go_wp2_with fail
   clear b0 b1 b2 s0 s1 s2 s3 s4 s5 q0 q1 q2 q3 q4 q5
   refine (HIB.out w1 HAw1.out HDw1.out).mono ?_; rintro e w2 ⟨rfl, hb⟩
   have HBw2 := Lib.hid (HBw1.out.trans (hb.mono (Nat.le_of_lt FNw1.out.lt)))
   have FNw2 := Lib.hid (FNw1.out.below hb); have FAw2 := Lib.hid (BoxS.below FAw1.out hb); have FBw2 := Lib.hid (BoxS.below FBw1.out hb); have HAw2 := Lib.hid (HAw1.out.below hb); have HDw2 := Lib.hid (HDw1.out.below hb)
   clear hb HBw1 FNw1 FAw1 FBw1 HAw1 HDw1
   obtain ⟨b0, b1, b2⟩ := FNw2.out.cells
   obtain ⟨s0, s1, s2, s3, s4, s5⟩ := FAw2.out.cells
   obtain ⟨q0, q1, q2, q3, q4, q5⟩ := FBw2.out.cells
   go_wp2_with fail
   clear b0 b1 b2 s0 s1 s2 s3 s4 s5 q0 q1 q2 q3 q4 q5
   refine (HCM.out w2).mono ?_; rintro e w3 ⟨rfl, hb⟩
   have HBw3 := Lib.hid (HBw2.out.trans (hb.mono (Nat.le_of_lt FNw2.out.lt)))
   have FNw3 := Lib.hid (FNw2.out.below hb); have FAw3 := Lib.hid (BoxS.below FAw2.out hb); have FBw3 := Lib.hid (BoxS.below FBw2.out hb); have HAw3 := Lib.hid (HAw2.out.below hb); have HDw3 := Lib.hid (HDw2.out.below hb)
   clear hb HBw2 FNw2 FAw2 FBw2 HAw2 HDw2
   obtain ⟨b0, b1, b2⟩ := FNw3.out.cells
   obtain ⟨s0, s1, s2, s3, s4, s5⟩ := FAw3.out.cells
   obtain ⟨q0, q1, q2, q3, q4, q5⟩ := FBw3.out.cells
   go_upto_region 3 with (fail)
   go_cut [51] from 9 (fun v wx => v = .bool false ∧ w3 = wx)
   case first =>
    rcases HF.out with t3 | ⟨t3, t2⟩ | ⟨t3, t2, tq⟩
    ·clear hEQ
     go_wp2
     go_meet
     exact ⟨rfl, rfl⟩
    ·clear hEQ
     go_wp2
     go_meet
     exact ⟨rfl, rfl⟩
    ·rw [tq] at hEQ
     clear tq
     go_wp2
     go_meet
     exact ⟨rfl, rfl⟩
   case rest =>
    obtain ⟨rfl, rfl⟩ := hcut
    clear hEQ t4 t1 e2 e3 HF
    go_wp2_with fail
    clear b0 b1 b2 s0 s1 s2 s3 s4 s5 q0 q1 q2 q3 q4 q5
    refine (HBF.out w3 HAw3.out HDw3.out).mono ?_; rintro e w4 ⟨rfl, hb⟩
    have HBw4 := Lib.hid (HBw3.out.trans (hb.mono (Nat.le_of_lt FNw3.out.lt)))
    have FNw4 := Lib.hid (FNw3.out.below hb); have FAw4 := Lib.hid (BoxS.below FAw3.out hb); have FBw4 := Lib.hid (BoxS.below FBw3.out hb); have HAw4 := Lib.hid (HAw3.out.below hb); have HDw4 := Lib.hid (HDw3.out.below hb)
    clear hb HBw3 FNw3 FAw3 FBw3 HAw3 HDw3
    have FS := Lib.hid (Box2.new (T := 127) (v0 := .string FP) (v1 := .int .i64 FT) w4)
    have hb := (Below.refl w4.heap.size w4).alloc (Nat.le_refl _) (.cells #[.string FP, .int .i64 FT] 127)
    have HBw5 := Lib.hid (HBw4.out.trans (hb.mono (Nat.le_of_lt FNw4.out.lt)))
    have FNw5 := Lib.hid (FNw4.out.below hb); have FAw5 := Lib.hid (BoxS.below FAw4.out hb); have FBw5 := Lib.hid (BoxS.below FBw4.out hb); have HAw5 := Lib.hid (HAw4.out.below hb); have HDw5 := Lib.hid (HDw4.out.below hb)
    clear hb HBw4 FNw4 FAw4 FBw4 HAw4 HDw4
    obtain ⟨b0, b1, b2⟩ := FNw5.out.cells
    obtain ⟨s0, s1, s2, s3, s4, s5⟩ := FAw5.out.cells
    obtain ⟨q0, q1, q2, q3, q4, q5⟩ := FBw5.out.cells
    obtain ⟨y0, y1⟩ := FS.out.cells
    go_wp2_with fail
    clear b0 b1 b2 s0 s1 s2 s3 s4 s5 q0 q1 q2 q3 q4 q5
    clear y0 y1
    generalize w4.heap.size = Y at *
    generalize w4.alloc (.cells #[.string FP, .int .i64 FT] 127) = w5 at *
    obtain ⟨b0, b1, b2⟩ := FNw5.out.cells
    obtain ⟨s0, s1, s2, s3, s4, s5⟩ := FAw5.out.cells
    obtain ⟨q0, q1, q2, q3, q4, q5⟩ := FBw5.out.cells
    obtain ⟨y0, y1⟩ := FS.out.cells
    have hW0 := FNw5.out.lt; have hW1 := BoxS.lt FAw5.out; have hWY := FS.out.lt
    have HF0 := far_cell hW0 b0; have HF1 := far_cell hW0 b1; have HF2 := far_cell hW0 b2
    have HS0 := far_cell hW1 s0; have HS1 := far_cell hW1 s1; have HS2 := far_cell hW1 s2; have HS3 := far_cell hW1 s3; have HS4 := far_cell hW1 s4; have HS5 := far_cell hW1 s5
    have HY0 := far_cell hWY y0
    have HBHF := Lib.hid (fun x' => HBH.out (far w5 x') (HAw5.out.below (below_far w5 x')) (HDw5.out.below (below_far w5 x')))
    have HREF := Lib.hid (fun x' => HRE.out (far w5 x') (HAw5.out.below (below_far w5 x')) (HDw5.out.below (below_far w5 x')))
    refine wp_region_far (by kernel_rfl) (by kernel_rfl) ?_
    repeat (any_goals (first | go_big_quiet_step ((first | (go_at_call 112; with_reducible exact call_far (HBHF.out _)) | (go_at_call 111; with_reducible exact call_far (HREF.out _)))) | quiet_step ((first | (go_at_call 112; with_reducible exact call_far (HBHF.out _)) | (go_at_call 111; with_reducible exact call_far (HREF.out _))))))
    refine wpQuiet_nil ?_; intro w6 hw6
    have hbw6 : Below w5.heap.size w5 w6 := by obtain ⟨u, rfl⟩ := hw6; exact below_far w5 u
    clear hw6 HF0 HF1 HF2 HS0 HS1 HS2 HS3 HS4 HS5 HY0
    have z1 := (hbw6.cell (p := ⟨Y, 1, none⟩) hWY).trans y1
    have HB6 := Lib.hid (HBw5.out.trans (hbw6.mono (Nat.le_of_lt hW0)))
    clear y0 y1 hbw6 HBH HRE HBHF HREF
    clear b0 b1 b2 s0 s1 s2 s3 s4 s5 q0 q1 q2 q3 q4 q5
    rw [HRB.out]
    rcases HEB.out with rfl | ⟨hE0, hE1⟩
    ·have HVF := Lib.hid (HV.out.trans (show _ = false by rfl))
     go_wp2
     go_ret
     exact ⟨ret_bool HVF.out.symm, by rw [HBE.out]; exact HB6.out⟩
    ·have HVF := Lib.hid (HV.out.trans (show _ = decide (E ≤ FT) by rw [decide_eq_true hE0, Bool.true_and]))
     go_wp2
     go_ret
     exact ⟨ret_bool HVF.out.symm, by rw [HBE.out]; exact HB6.out⟩
end Go.Proofs.YtinijleelhbpoaaGreat

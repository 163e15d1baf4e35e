/- SoonestAt, both texts. Written by mk/beln.py. -/
import Derived.Test.YtinijleelhbpoaaGreatBelP
import Derived.Test.YtinijleelhbpoaaGreatBelS
namespace Go.Proofs.YtinijleelhbpoaaGreat
open Go.RowKit
def soonC (l : List Lg) (zs : List Int) (x : Int) (C : List Sc) (p : ByteArray) : Int := if lsOk C 100000 = false ∨ (lsT C 100000).k = 4 ∨ idxI (placesB l) p < 0 then -1 else reachB l zs x (behP l zs x (lsT C 100000)) (behA l zs x (lsT C 100000)) p
theorem ear_out {l : List Lg} {zs : List Int} {x : Int} {P p : ByteArray} {T : Int} (h : idxI (placesB l) p < 0) : earB l zs x P p T = -1 := by
 unfold earB timeB
 rw [if_pos (Or.inl h)]
theorem soon_none {l : List Lg} {zs : List Int} {x : Int} {C : List Sc} {p : ByteArray} (h : lsOk C 100000 = false ∨ (lsT C 100000).k = 4) : soonC l zs x C p = -1 := if_pos (h.elim Or.inl (fun h => Or.inr (Or.inl h)))
theorem soon_out {l : List Lg} {zs : List Int} {x : Int} {C : List Sc} {p : ByteArray} (h : idxI (placesB l) p < 0) : soonC l zs x C p = -1 := if_pos (Or.inr (Or.inr h))
theorem soon_in {l : List Lg} {zs : List Int} {x : Int} {C : List Sc} {p : ByteArray} (h1 : lsOk C 100000 = true) (h2 : (lsT C 100000).k ≠ 4) (h3 : ¬ idxI (placesB l) p < 0) : soonC l zs x C p = reachB l zs x (behP l zs x (lsT C 100000)) (behA l zs x (lsT C 100000)) p := by
 unfold soonC
 rw [if_neg (by rw [h1]; simp [h2, h3])]
theorem soon_ear {l : List Lg} {zs : List Int} {x : Int} {C : List Sc} {p : ByteArray} (h1 : lsOk C 100000 = true) (h2 : (lsT C 100000).k ≠ 4) (hv : scB l zs x (lsT C 100000) = true) : soonC l zs x C p = earB l zs x (behP l zs x (lsT C 100000)) p (behA l zs x (lsT C 100000)) := by
 by_cases h3 : idxI (placesB l) p < 0
 ·rw [soon_out h3, ear_out h3]
 ·rw [soon_in h1 h2 h3, reach_ear hv]
theorem fst_all {l : List Lg} {zs : List Int} {x : Int} {C : List Sc} (hC : ∀ y ∈ C, scB l zs x y = true) : fstA C 100000 = C.length :=
 fstA_miss (fun j hj => by have := (scB_iff.1 (hC _ (List.getElem_mem hj))).2.2.1; omega)
set_option maxRecDepth 100000 in
set_option maxHeartbeats 8000000 in
theorem soon_impl (A : Option Addr) (ca : Nat) (l : List Lg) (D : Option Addr) (cd : Nat) (zs : List Int) (x : Int) (E : Option Addr) (ce : Nat) (ls : List Sc) (th : Int) (p : ByteArray) (w : World) (hA : InK 6 lgC w A l) (hD : IntsIn w D zs) (hs : ∀ z ∈ l, z.f.size ≤ maxLen ∧ z.t.size ≤ maxLen) (hn : l.length ≤ 1048576) (hm : zs.length ≤ 1048576) (hE : InK 6 scC w E ls) (hk : ls.length ≤ 1048576) (hce : ls.length ≤ ce) (hp : ∀ z ∈ ls, z.p.size ≤ maxLen) :
  Calls Tryz.prog 64 #[.agg #[.slice A l.length ca, .slice D zs.length cd, .int .i64 x], .slice E ls.length ce, .int .i64 th, .string p] w fun e w' => e = .returned (.int .i64 (soonC l zs x (clB l zs x ls th) p)) ∧ Below w.heap.size w w' := by
 have eg : ∀ args w, (callFunc 180 args).run Tryz.prog w = .ok (.enter 180 args) w := enters_of Tryz.func180 (by kernel_rfl) rfl
 have HLS := Lib.hid (fun W (h1 : InK 6 lgC W A l) (h2 : IntsIn W D zs) (h3 : InK 6 scC W E ls) => lss_impl A ca l D cd zs x E ce ls th 100000 W h1 h2 hs hn hm h3 hk hce hp)
 have HVA := Lib.hid (show lsOk (clB l zs x ls th) 100000 = true → scB l zs x (lsT (clB l zs x ls th) 100000) = true ∧ (lsT (clB l zs x ls th) 100000).p.size ≤ maxLen from fun h => by obtain ⟨n, hn, _, e, _⟩ := ls_get h; rw [e]; refine ⟨clB_mem (List.getElem_mem hn), ?_⟩; obtain ⟨j, hj, _, e2⟩ := clU_mem _ (Nat.le_refl _) _ (List.getElem_mem hn); rw [← e2]; exact hp _ (scOf_mem (List.getElem_mem hj)).2.2)
 have HN := Lib.hid (fun h => soon_none (l := l) (zs := zs) (x := x) (C := (clB l zs x ls th)) (p := p) h)
 have HI := Lib.hid (fun h1 h2 hv => soon_ear (l := l) (zs := zs) (x := x) (C := (clB l zs x ls th)) (p := p) h1 h2 hv)
 have HBH := Lib.hid (fun (r : Sc) W (h1 : InK 6 lgC W A l) (h2 : IntsIn W D zs) => behind_impl r.h r.a r.k r.p r.g r.d A ca l D cd zs x W h1 h2 hs hn hm)
 have HRF := Lib.hid (fun (r : Sc) (hz : r.p.size ≤ maxLen) W (h1 : InK 6 lgC W A l) (h2 : IntsIn W D zs) => reached_from (behP l zs x r) (behA l zs x r) (place_size hs hz).2.1 (by have := (beh_ge (l := l) (zs := zs) (x := x) (r := r)).1; omega) A ca l D cd zs x W h1 h2 hs hn hm)
 have HRS := Lib.hid (fun (r : Sc) X' Y' W (h : ReachK A ca l D cd zs x (bestB l zs x (behP l zs x r) (behA l zs x r) ((placesB l).length : Nat)) X' Y' W) => (show Calls Tryz.prog 180 #[.string p, .pointer (some ⟨X', 0, none⟩), .pointer (some ⟨Y', 0, none⟩)] W fun e w' => e = .returned (.int .i64 (earB l zs x (behP l zs x r) p (behA l zs x r))) ∧ Below W.heap.size W w' from reach_says A ca l D cd zs x hn _ X' Y' W p h))
 clear hs hk hce hp
 generalize soonC l zs x (clB l zs x ls th) p = V at *
 generalize lsT (clB l zs x ls th) 100000 = a at *
 generalize lsOk (clB l zs x ls th) 100000 = ok at *
 have FN := Lib.hid (Box3.new (T := 27) (v0 := .slice A l.length ca) (v1 := .slice D zs.length cd) (v2 := .int .i64 x) w)
 have hb0 := (Below.refl w.heap.size w).alloc (Nat.le_refl _) (.cells #[.slice A l.length ca, .slice D zs.length cd, .int .i64 x] 27)
 have HL := Lib.hid hb0.size
 have HA := Lib.hid (hA.below hb0)
 have HD := Lib.hid (hD.below hb0)
 have HE := Lib.hid (hE.below hb0)
 have HB := Lib.hid hb0
 clear hb0 hA hD hE
 generalize hB : w.heap.size = B at *
 have HBE := Lib.hid hB
 go_enter Tryz.func64, Tryz.ntmps64
 go_wp2_with fail
 clear hB
 generalize (w.alloc (.cells #[.slice A l.length ca, .slice D zs.length cd, .int .i64 x] 27)) = w0 at *
 refine (HLS.out w0 HA.out HD.out HE.out).mono ?_; rintro e w1 ⟨rfl, hb⟩
 replace HB := Lib.hid (HB.out.trans (hb.mono HL.out))
 replace HL := Lib.hid (Nat.le_trans HL.out hb.size)
 replace HA := Lib.hid (HA.out.below hb)
 replace HD := Lib.hid (HD.out.below hb)
 replace HE := Lib.hid (HE.out.below hb)
 replace FN := Lib.hid (FN.out.below hb)
 clear hb
 have FA := Lib.hid (BoxS.new (T := 34) (v0 := .int .i64 a.h) (v1 := .int .i64 a.a) (v2 := .int .i64 a.k) (v3 := .string a.p) (v4 := .int .i64 a.g) (v5 := .int .i64 a.d) w1)
 have hb := (Below.refl w1.heap.size w1).alloc (Nat.le_refl _) (.cells #[.int .i64 a.h, .int .i64 a.a, .int .i64 a.k, .string a.p, .int .i64 a.g, .int .i64 a.d] 34)
 replace HB := Lib.hid (HB.out.trans (hb.mono HL.out))
 replace HL := Lib.hid (Nat.le_trans HL.out hb.size)
 replace HA := Lib.hid (HA.out.below hb)
 replace HD := Lib.hid (HD.out.below hb)
 replace HE := Lib.hid (HE.out.below hb)
 replace FN := Lib.hid (FN.out.below hb)
 clear hb
 clear HE HLS
 obtain ⟨FNc0, FNc1, FNc2⟩ := FN.out.cells
 obtain ⟨FAc0, FAc1, FAc2, FAc3, FAc4, FAc5⟩ := FA.out.cells
 go_upto_region 2 with (fail)
 clear FNc0 FNc1 FNc2 FAc0 FAc1 FAc2 FAc3 FAc4 FAc5
 generalize w1.heap.size = XFA at *
 generalize w1.alloc (.cells #[.int .i64 a.h, .int .i64 a.a, .int .i64 a.k, .string a.p, .int .i64 a.g, .int .i64 a.d] 34) = w2 at *
 cases ok with
 | false =>
  have HVF := Lib.hid (HN.out (Or.inl rfl))
  clear HN HI
  obtain ⟨FNc0, FNc1, FNc2⟩ := FN.out.cells
  obtain ⟨FAc0, FAc1, FAc2, FAc3, FAc4, FAc5⟩ := FA.out.cells
  go_wp2
  go_ret
  exact ⟨congrArg (fun v => Ending.returned (.int .i64 v)) HVF.out.symm, HB.out⟩
 | true =>
  have HVA1 := Lib.hid (HVA.out rfl); clear HVA
  by_cases k4 : a.k = 4
  ·have t4 : (a.k == 4) = true := by simp [k4]
   have HVF := Lib.hid (HN.out (Or.inr k4))
   clear HN HI
   obtain ⟨FNc0, FNc1, FNc2⟩ := FN.out.cells
   obtain ⟨FAc0, FAc1, FAc2, FAc3, FAc4, FAc5⟩ := FA.out.cells
   go_wp2
   go_ret
   exact ⟨congrArg (fun v => Ending.returned (.int .i64 v)) HVF.out.symm, HB.out⟩
  have t4 : (a.k == 4) = false := by simp [k4]
  have HVF := Lib.hid (HI.out rfl k4 HVA1.out.1)
  clear HN HI
  obtain ⟨FNc0, FNc1, FNc2⟩ := FN.out.cells
  obtain ⟨FAc0, FAc1, FAc2, FAc3, FAc4, FAc5⟩ := FA.out.cells
  go_upto_region 4 with (fail)
  clear FNc0 FNc1 FNc2 FAc0 FAc1 FAc2 FAc3 FAc4 FAc5
  obtain ⟨WW, hWW⟩ : ∃ WW : World, WW = w2 := ⟨_, rfl⟩
  subst hWW
  have HRF1 := Lib.hid (HRF.out a HVA1.out.2)
  have HRS1 := Lib.hid (HRS.out a)
  have HBH1 := Lib.hid (HBH.out a)
  clear HRF HRS HBH HVA1
  generalize bestB l zs x (behP l zs x a) (behA l zs x a) ((placesB l).length : Nat) = ts at *
  generalize earB l zs x (behP l zs x a) p (behA l zs x a) = EV at *
  generalize behP l zs x a = BP at *
  generalize behA l zs x a = BA at *
  obtain ⟨FNc0, FNc1, FNc2⟩ := FN.out.cells
  obtain ⟨FAc0, FAc1, FAc2, FAc3, FAc4, FAc5⟩ := FA.out.cells
  have hnl := FN.out.lt; have hfl := FA.out.lt
  go_region_held3 (fun w' => w'.cell? ⟨B, 0, none⟩ = some (.slice A l.length ca) ∧ w'.cell? ⟨B, 1, none⟩ = some (.slice D zs.length cd) ∧ w'.cell? ⟨B, 2, none⟩ = some (.int .i64 x) ∧ w'.cell? ⟨XFA, 0, none⟩ = some (.int .i64 a.h) ∧ w'.cell? ⟨XFA, 1, none⟩ = some (.int .i64 a.a) ∧ w'.cell? ⟨XFA, 2, none⟩ = some (.int .i64 a.k) ∧ w'.cell? ⟨XFA, 3, none⟩ = some (.string a.p) ∧ w'.cell? ⟨XFA, 4, none⟩ = some (.int .i64 a.g) ∧ w'.cell? ⟨XFA, 5, none⟩ = some (.int .i64 a.d))
   (go_keep)
   (first
    | (go_at_call 130; refine (HBH1.out _ (HA.out.below ?_) (HD.out.below ?_)).mono ?_; (focus (first | exact Below.refl _ _ | exact (Below.refl _ _).drew)); (focus (first | exact Below.refl _ _ | exact (Below.refl _ _).drew)); (rintro e u1 ⟨rfl, hu⟩; (first | (have hb1 : Below WW.heap.size WW u1 := below_undrew hu) | (have hb1 : Below WW.heap.size WW u1 := hu)); (clear FNc0 FNc1 FNc2 FAc0 FAc1 FAc2 FAc3 FAc4 FAc5); (obtain ⟨FNc0, FNc1, FNc2⟩ := (FN.out.below hb1).cells); (obtain ⟨FAc0, FAc1, FAc2, FAc3, FAc4, FAc5⟩ := (FA.out.below hb1).cells); clear hu))
    | (go_at_call 129; refine (HRF1.out _ (HA.out.below ?_) (HD.out.below ?_)).mono ?_; (focus (first | with_reducible exact hb1 | exact hb1.drew)); (focus (first | with_reducible exact hb1 | exact hb1.drew)); (rintro e u2 ⟨X1, Y1, rfl, hr, hu⟩; (have HR1 := Lib.hid hr); (first | (have hb2 : Below WW.heap.size WW u2 := chain hb1 hu) | (have hb2 : Below WW.heap.size WW u2 := chain hb1.drew hu)); (clear FNc0 FNc1 FNc2 FAc0 FAc1 FAc2 FAc3 FAc4 FAc5); (obtain ⟨FNc0, FNc1, FNc2⟩ := (FN.out.below hb2).cells); (obtain ⟨FAc0, FAc1, FAc2, FAc3, FAc4, FAc5⟩ := (FA.out.below hb2).cells); clear hu hr))
    | (go_at_call 180; refine (HRS1.out X1 Y1 _ (HR1.out.below ?_)).mono ?_; (focus (first | exact Below.refl _ _ | exact (Below.refl _ _).drew)); (rintro e u3 ⟨rfl, hu⟩; (first | (have hb3 : Below WW.heap.size WW u3 := chain hb2 hu) | (have hb3 : Below WW.heap.size WW u3 := chain hb2.drew hu)); (clear FNc0 FNc1 FNc2 FAc0 FAc1 FAc2 FAc3 FAc4 FAc5); (obtain ⟨FNc0, FNc1, FNc2⟩ := (FN.out.below hb3).cells); (obtain ⟨FAc0, FAc1, FAc2, FAc3, FAc4, FAc5⟩ := (FA.out.below hb3).cells); clear hu))
    | fail)
  all_goals
   go_wp2
   go_ret
   exact ⟨congrArg (fun v => Ending.returned (.int .i64 v)) HVF.out.symm, HB.out.trans (hb3.mono HL.out)⟩
set_option maxRecDepth 100000 in
set_option maxHeartbeats 8000000 in
theorem soon_spec (A : Option Addr) (ca : Nat) (l : List Lg) (D : Option Addr) (cd : Nat) (zs : List Int) (x : Int) (E : Option Addr) (ce : Nat) (ls : List Sc) (th : Int) (p : ByteArray) (w : World) (hA : InK 6 lgC w A l) (hD : IntsIn w D zs) (hs : ∀ z ∈ l, z.f.size ≤ maxLen ∧ z.t.size ≤ maxLen) (hn : l.length ≤ 1048576) (hm : zs.length ≤ 1048576) (hE : InK 6 scC w E ls) (hk : ls.length ≤ 1048576) (hce : ls.length ≤ ce) :
  Calls Tryz.prog 63 #[.agg #[.slice A l.length ca, .slice D zs.length cd, .int .i64 x], .slice E ls.length ce, .int .i64 th, .string p] w fun e w' => e = .returned (.int .i64 (soonC l zs x (clB l zs x ls th) p)) ∧ Below w.heap.size w w' := by
 have HCL := Lib.hid (fun W (h1 : InK 6 lgC W A l) (h2 : IntsIn W D zs) (h3 : InK 6 scC W E ls) => cl_spec A ca l D cd zs x E ce ls th W h1 h2 hs hn hm h3 hk hce)
 have HPL := Lib.hid (fun W (h1 : InK 6 lgC W A l) => places_spec A ca l D cd zs.length x W h1 hn)
 have hpl4 : (placesB l).length ≤ 4000000 := by have := placesB_len l; omega
 have HBH := Lib.hid (fun (r : Sc) W (h1 : InK 6 lgC W A l) (h2 : IntsIn W D zs) => behind_spec r.h r.a r.k r.p r.g r.d A ca l D cd zs x W h1 h2 hs hn hm)
 have HRE := Lib.hid (fun P T q W (h1 : InK 6 lgC W A l) (h2 : IntsIn W D zs) => reach_spec P T q A ca l D cd zs x W h1 h2 hs hn hm)
 have HFA := Lib.hid (fst_all (l := l) (zs := zs) (x := x) (C := (clB l zs x ls th)) (fun y hy => clB_mem hy))
 have hvl := clB_len (l := l) (zs := zs) (x := x) (ls := ls) (th := th)
 clear hs hce
 generalize (clB l zs x ls th) = C at *
 have hcl : C.length ≤ 1048576 := by omega
 clear hvl hk
 have FN := Lib.hid (Box3.new (T := 27) (v0 := .slice A l.length ca) (v1 := .slice D zs.length cd) (v2 := .int .i64 x) w)
 have hb0 := (Below.refl w.heap.size w).alloc (Nat.le_refl _) (.cells #[.slice A l.length ca, .slice D zs.length cd, .int .i64 x] 27)
 have HL := Lib.hid hb0.size
 have HA := Lib.hid (hA.below hb0)
 have HD := Lib.hid (hD.below hb0)
 have HE := Lib.hid (hE.below hb0)
 have HB := Lib.hid hb0
 clear hb0 hA hD hE
 generalize hB : w.heap.size = B at *
 have HBE := Lib.hid hB
 go_enter Tryz.func63, Tryz.ntmps63
 go_wp2_with fail
 clear hB
 generalize (w.alloc (.cells #[.slice A l.length ca, .slice D zs.length cd, .int .i64 x] 27)) = w0 at *
 refine (HCL.out w0 HA.out HD.out HE.out).mono ?_; rintro e w1 ⟨v, rfl, ho, hb⟩
 replace HB := Lib.hid (HB.out.trans (hb.mono HL.out))
 replace HL := Lib.hid (Nat.le_trans HL.out hb.size)
 replace HA := Lib.hid (HA.out.below hb)
 replace HD := Lib.hid (HD.out.below hb)
 replace HE := Lib.hid (HE.out.below hb)
 replace FN := Lib.hid (FN.out.below hb)
 obtain ⟨Av, cv, rfl⟩ := OwnK.opens (k := 6) (enc := scC) ho
 have HI := Lib.hid (ins_row ho scC_len rfl)
 clear ho
 clear hb
 clear HE HCL
 by_cases hm0 : C.length = 0
 ·have HVF := Lib.hid (soon_none (l := l) (zs := zs) (x := x) (C := C) (p := p) (Or.inl (ls_miss (HFA.out.trans hm0)).2))
  have hlz : (C.length : Int) - 1 = -1 := by omega
  obtain ⟨FNc0, FNc1, FNc2⟩ := FN.out.cells
  go_wp2
  go_ret
  exact ⟨congrArg (fun v => Ending.returned (.int .i64 v)) HVF.out.symm, HB.out⟩
 obtain ⟨m, hm1⟩ : ∃ m, C.length = m + 1 := ⟨C.length - 1, by omega⟩
 have hmC : m < C.length := by omega
 obtain ⟨hl1, hl2⟩ := ls_hit hmC (HFA.out.trans hm1)
 have hli : (C.length : Int) - 1 = (m : Int) := by omega
 have hml : (m : Int) < (C.length : Int) := by omega
 have hmz : ¬ (m : Int) < 0 := by omega
 have hmd : decide ((m : Int) < 0) = false := decide_eq_false hmz
 obtain ⟨G0, eqG, hG0, c0, c1, c2, c3, c4, c5⟩ := HI.out.sc m hmC
 subst eqG
 have HVN := Lib.hid (fun (h : C[m].k = 4) => soon_none (l := l) (zs := zs) (x := x) (p := p) (Or.inr (by rw [hl1]; exact h)))
 have HVO := Lib.hid (fun h => soon_out (l := l) (zs := zs) (x := x) (C := C) (p := p) h)
 have HVI := Lib.hid (fun (h4 : C[m].k ≠ 4) h => soon_in (l := l) (zs := zs) (x := x) (p := p) hl2 (by rw [hl1]; exact h4) h)
 rw [hl1] at HVI
 clear hm1 hm0 HFA
 generalize lsT C 100000 = a0 at *
 obtain ⟨y, hy⟩ : ∃ y, y = C[m] := ⟨_, rfl⟩
 rw [← hy] at c0 c1 c2 c3 c4 c5 HVN HVI
 have HYE := Lib.hid hy; clear hy
 clear hl1 hl2
 by_cases k4 : y.k = 4
 ·have t4 : (y.k == 4) = true := by simp [k4]
  have HVF := Lib.hid (HVN.out k4)
  clear k4
  obtain ⟨FNc0, FNc1, FNc2⟩ := FN.out.cells
  go_wp2
  go_ret
  exact ⟨congrArg (fun v => Ending.returned (.int .i64 v)) HVF.out.symm, HB.out⟩
 have t4 : (y.k == 4) = false := by simp [k4]
 obtain ⟨FNc0, FNc1, FNc2⟩ := FN.out.cells
 go_wp2_with fail
 clear FNc0 FNc1 FNc2
 refine (HPL.out w1 HA.out).mono ?_; rintro e w2 ⟨⟨v, rfl, ho⟩, hb⟩
 replace HB := Lib.hid (HB.out.trans (hb.mono HL.out))
 replace HL := Lib.hid (Nat.le_trans HL.out hb.size)
 replace HA := Lib.hid (HA.out.below hb)
 replace HD := Lib.hid (HD.out.below hb)
 replace FN := Lib.hid (FN.out.below hb)
 replace HI := Lib.hid (HI.out.below hb)
 obtain ⟨PA, cp, rfl, hP⟩ := own_strs ho
 have HIX := Lib.hid (index_spec PA cp (placesB l) p w2 hP hpl4)
 clear ho hP
 clear hb
 generalize idxI (placesB l) p = J at *
 obtain ⟨FNc0, FNc1, FNc2⟩ := FN.out.cells
 go_wp2_with fail
 clear FNc0 FNc1 FNc2
 refine HIX.out.mono ?_; rintro e w9 ⟨rfl, rfl⟩
 clear HIX c0 c1 c2 c3 c4 c5 hG0
 by_cases hJ : J < 0
 ·have hJd : decide (J < 0) = true := decide_eq_true (by omega)
  have HVF := Lib.hid (HVO.out (by omega))
  obtain ⟨FNc0, FNc1, FNc2⟩ := FN.out.cells
  go_wp2
  go_ret
  exact ⟨congrArg (fun v => Ending.returned (.int .i64 v)) HVF.out.symm, HB.out⟩
 have hJd : decide (J < 0) = false := decide_eq_false (by omega)
 have HVF := Lib.hid (HVI.out k4 (by omega))
 clear HVN HVO HVI hJ k4
 obtain ⟨FNc0, FNc1, FNc2⟩ := FN.out.cells
 go_upto_region 5 with (fail)
 clear FNc0 FNc1 FNc2
 obtain ⟨G1, eq1, hG1, c0, c1, c2, c3, c4, c5⟩ := HI.out.sc m hmC
 cases eq1
 rw [← HYE.out] at c0 c1 c2 c3 c4 c5
 obtain ⟨FNc0, FNc1, FNc2⟩ := FN.out.cells
 have FNlt := FN.out.lt
 have FNf0 := far_cell FNlt FNc0; have FNf1 := far_cell FNlt FNc1; have FNf2 := far_cell FNlt FNc2
 have c0F := far_cell hG1 c0
 have c1F := far_cell hG1 c1
 have c2F := far_cell hG1 c2
 have c3F := far_cell hG1 c3
 have c4F := far_cell hG1 c4
 have c5F := far_cell hG1 c5
 clear FNc0 FNc1 FNc2
 clear c0 c1 c2 c3 c4 c5
 have HFAR0 := Lib.hid (fun x' => HBH.out y (far w9 x') (HA.out.below (below_far w9 x')) (HD.out.below (below_far w9 x')))
 have HFAR1 := Lib.hid (fun x' => HRE.out (behP l zs x y) (behA l zs x y) p (far w9 x') (HA.out.below (below_far w9 x')) (HD.out.below (below_far w9 x')))
 refine wp_region_far (by kernel_rfl) (by kernel_rfl) ?_
 repeat (any_goals (first | go_big_quiet_step ((first | (go_at_call 112; with_reducible exact call_far (HFAR0.out _)) | (go_at_call 111; with_reducible exact call_far (HFAR1.out _)))) | quiet_step ((first | (go_at_call 112; with_reducible exact call_far (HFAR0.out _)) | (go_at_call 111; with_reducible exact call_far (HFAR1.out _))))))
 refine wpQuiet_nil ?_; intro w3 hw
 have hb : Below w9.heap.size w9 w3 := by obtain ⟨u, rfl⟩ := hw; exact below_far w9 u
 clear hw FNf0 FNf1 FNf2 FNlt c0F c1F c2F c3F c4F c5F HFAR0 HFAR1
 replace HB := Lib.hid (HB.out.trans (hb.mono HL.out))
 replace HL := Lib.hid (Nat.le_trans HL.out hb.size)
 replace HA := Lib.hid (HA.out.below hb)
 replace HD := Lib.hid (HD.out.below hb)
 replace FN := Lib.hid (FN.out.below hb)
 replace HI := Lib.hid (HI.out.below hb)
 clear hb
 obtain ⟨FNc0, FNc1, FNc2⟩ := FN.out.cells
 go_wp2
 go_ret
 exact ⟨congrArg (fun v => Ending.returned (.int .i64 v)) HVF.out.symm, HB.out⟩
end Go.Proofs.YtinijleelhbpoaaGreat

/- Clashes, both texts. Frame: mk/sccls.base. -/
import Derived.Test.YtamlbiagjipedaaGreatScCl
namespace Go.Proofs.YtamlbiagjipedaaGreat
open Go.RowKit
/-- the places behind the first that can not follow -/
def clsU (l : List Lg) (zs : List Int) (x : Int) (V : List Sc) : Nat → List Int
  | 0 => []
  | 1 => []
  | k + 2 => clsU l zs x V (k + 1) ++ (if canB l zs x (V.getD k default) (V.getD (k + 1) default) then [] else [((k + 1 : Nat) : Int)])
def clsB (l : List Lg) (zs : List Int) (x : Int) (ls : List Sc) (th : Int) : List Int := clsU l zs x (scOfB l zs x ls th) (max 1 (scOfB l zs x ls th).length)
theorem clsU_yes {l : List Lg} {zs : List Int} {x : Int} {V : List Sc} {n k : Nat} (hn : n < V.length) (hk : k < V.length) (e : n + 1 = k) (h : canB l zs x V[n] V[k] = true) : clsU l zs x V (k + 1) = clsU l zs x V k := by
  subst e
  show clsU l zs x V (n + 1) ++ _ = _
  have e1 : V.getD n default = V[n] := by simp [List.getD, hn]
  have e2 : V.getD (n + 1) default = V[n + 1] := by simp [List.getD, hk]
  rw [e1, e2, if_pos h, List.append_nil]
theorem clsU_no {l : List Lg} {zs : List Int} {x : Int} {V : List Sc} {n k : Nat} (hn : n < V.length) (hk : k < V.length) (e : n + 1 = k) (h : canB l zs x V[n] V[k] = false) : clsU l zs x V (k + 1) = clsU l zs x V k ++ [(k : Int)] := by
  subst e
  show clsU l zs x V (n + 1) ++ _ = _
  have e1 : V.getD n default = V[n] := by simp [List.getD, hn]
  have e2 : V.getD (n + 1) default = V[n + 1] := by simp [List.getD, hk]
  rw [e1, e2, if_neg (by rw [h]; decide)]
theorem clsU_len {l : List Lg} {zs : List Int} {x : Int} {V : List Sc} : ∀ k, (clsU l zs x V k).length ≤ k
  | 0 => Nat.le_refl _
  | 1 => by simp [clsU]
  | k + 2 => by
    have := clsU_len (l := l) (zs := zs) (x := x) (V := V) (k + 1)
    show (clsU l zs x V (k + 1) ++ _).length ≤ _
    rw [List.length_append]
    split <;> simp <;> omega
theorem clsB_len {l : List Lg} {zs : List Int} {x : Int} {ls : List Sc} {th : Int} : (clsB l zs x ls th).length ≤ max 1 ls.length := by
  have h1 := clsU_len (l := l) (zs := zs) (x := x) (V := scOfB l zs x ls th) (max 1 (scOfB l zs x ls th).length)
  have h2 := scOf_len (l := l) (zs := zs) (x := x) (ls := ls) (th := th)
  show (clsU l zs x _ _).length ≤ _
  omega
theorem cons_fol {l : List Lg} {zs : List Int} {x : Int} {ls : List Sc} {th : Int} (k n : Nat) (hn : n < (scOfB l zs x ls th).length) (hk : k < (scOfB l zs x ls th).length) (e : n + 1 = k) : canB l zs x (scOfB l zs x ls th)[n] (scOfB l zs x ls th)[k] = folB l zs x (scOfB l zs x ls th)[n] (scOfB l zs x ls th)[k] := by
  have m1 := scOf_mem (List.getElem_mem hn)
  have m2 := scOf_mem (List.getElem_mem hk)
  exact can_f m1.1 m2.1 (m1.2.1.trans m2.2.1.symm) (List.pairwise_iff_getElem.1 scOf_up n k hn hk (by omega))
theorem own_nilI {W : World} {b X : Nat} (hb : b ≤ X) (h : W.heap[X]? = some (.cells #[] 3 (0, 0))) : OwnI W b (.slice (some ⟨X, 0, none⟩) 0 0) [] :=
  ⟨rfl, .inr ⟨X, 0, #[], rfl, hb, h, Nat.le_refl _, Nat.zero_le _, rfl, rfl⟩⟩
theorem ownI_of {w : World} {b n : Nat} {v : Value} {l : List Int} (h : w.ownsRow b 3 1 v n (intV l)) (hn : l.length = n) (hv : v ≠ .slice none 0 0) : ∃ g c, v = .slice (some ⟨g, 0, none⟩) n c ∧ OwnI w b (.slice (some ⟨g, 0, none⟩) n c) l := by
  subst hn
  have h0 := h
  rcases h.2 with ⟨e, _⟩ | ⟨g, cap, cur, e, _⟩
  · exact absurd e hv
  · subst e; exact ⟨g, cap, rfl, h0⟩
set_option maxRecDepth 100000 in
set_option maxHeartbeats 8000000 in
theorem cls_impl (A : Option Addr) (ca : Nat) (l : List Lg) (D : Option Addr) (cd : Nat) (zs : List Int) (x : Int) (E : Option Addr) (ce : Nat) (ls : List Sc) (th : Int) (w : World) (hA : InK 6 lgC w A l) (hD : IntsIn w D zs) (hs : ∀ z ∈ l, z.f.size ≤ maxLen ∧ z.t.size ≤ maxLen) (hn : l.length ≤ 1048576) (hm : zs.length ≤ 1048576) (hE : InK 6 scC w E ls) (hk : ls.length ≤ 1048576) (hce : ls.length ≤ ce) (hp : ∀ z ∈ ls, z.p.size ≤ maxLen) :
    Calls Tryz.prog 22 #[.agg #[.slice A l.length ca, .slice D zs.length cd, .int .i64 x], .slice E ls.length ce, .int .i64 th] w fun e w' => ∃ v, e = .returned v ∧ OwnI w' w.heap.size v (clsB l zs x ls th) ∧ Below w.heap.size w w' := by
  have HSI := Lib.hid (fun W h1 h2 h3 => scof_impl A ca l D cd zs x E ce ls th W h1 h2 hs hn hm h3 hk hce)
  have HF := Lib.hid (fun (a y : Sc) W (h1 : InK 6 lgC W A l) (h2 : IntsIn W D zs) (h3 : a.p.size ≤ maxLen) => fol_impl a.h a.a a.k a.p a.g a.d y.h y.a y.k y.p y.g y.d A ca l D cd zs x W h1 h2 hs hn hm h3)
  have HA := Lib.hid hA; have HD := Lib.hid hD; have HE := Lib.hid hE; clear hA hD hE hs
  obtain ⟨i0, hi0, hz0, hz1, hz3⟩ := info_parts int_info
  have HCF := Lib.hid (cons_fol (l := l) (zs := zs) (x := x) (ls := ls) (th := th))
  have HVM := Lib.hid (fun y hy => (scOf_mem (l := l) (zs := zs) (x := x) (ls := ls) (th := th) (y := y) hy).2.2)
  have hvl := scOf_len (l := l) (zs := zs) (x := x) (ls := ls) (th := th)
  have HCB := Lib.hid (show clsB l zs x ls th = clsU l zs x (scOfB l zs x ls th) (max 1 (scOfB l zs x ls th).length) from rfl)
  have hN0 : Box3 27 (w.alloc (.cells #[.slice A l.length ca, .slice D zs.length cd, .int .i64 x] 27)) w.heap.size (.slice A l.length ca) (.slice D zs.length cd) (.int .i64 x) := Box3.new w
  have HB2 := Lib.hid ((Below.refl w.heap.size w).alloc (Nat.le_refl _) (.cells #[.slice A l.length ca, .slice D zs.length cd, .int .i64 x] 27))
  have hz2 : (w.alloc (.cells #[.slice A l.length ca, .slice D zs.length cd, .int .i64 x] 27)).heap.size = w.heap.size + 1 := by simp
  generalize hB : w.heap.size = B at *
  have HBE := Lib.hid hB
  go_enter Tryz.func22, Tryz.ntmps22
  go_wp2_with fail
  clear hB
  generalize w.alloc (.cells #[.slice A l.length ca, .slice D zs.length cd, .int .i64 x] 27) = W2 at *
  have hb2 : Below w.heap.size w W2 := by rw [HBE.out]; exact HB2.out
  refine (HSI.out W2 (HA.out.below hb2) (HD.out.below hb2) (HE.out.below hb2)).mono ?_; rintro e w0 ⟨G, c, rfl, hr, hb⟩
  clear hb2 HSI HE
  generalize scOfB l zs x ls th = V at *
  have hG := RowC.low hr
  have hb1 := (Below.refl w0.heap.size w0).alloc (Nat.le_refl _) (.cells #[] 3)
  have HRV := Lib.hid (OwnK.below hr hb1)
  have HB1 := Lib.hid ((HB2.out.trans (hb.mono (by omega))).trans (hb1.mono (by have := hb.size; omega)))
  have HN1 := Lib.hid ((hN0.below hb).below hb1)
  have HR0 := Lib.hid (show OwnI (w0.alloc (.cells #[] 3)) (B + 1) (.slice (some ⟨w0.heap.size, 0, none⟩) 0 0) (clsU l zs x V 1) from own_nilI (by have := hb.size; omega) (heap_alloc_new w0 _))
  have hne0 : w0.heap.size ≠ G := by omega
  have hgo : B + 1 ≤ w0.heap.size := by have := hb.size; omega
  clear hr hb hN0 hb1
  go_wp2
  generalize w0.heap.size = O0 at *
  generalize w0.alloc (.cells #[] 3) = w1 at *
  go_loopw [9, 8] (fun i v wr => ∃ k G2 c2 : Nat, i = .int .i64 k ∧ 1 ≤ k ∧ k ≤ max 1 V.length ∧ v = .slice (some ⟨G2, 0, none⟩) (clsU l zs x V k).length c2 ∧ Hid (OwnI wr (B + 1) (.slice (some ⟨G2, 0, none⟩) (clsU l zs x V k).length c2) (clsU l zs x V k)) ∧ Hid (RowC wr W2.heap.size G c V) ∧ Hid (Below B w wr) ∧ Hid (Box3 27 wr B (.slice A l.length ca) (.slice D zs.length cd) (.int .i64 x)) ∧ G2 ≠ G) (fun i _ _ => V.length - (intOf i).toNat)
  case atStart => exact ⟨1, O0, 0, rfl, Nat.le_refl _, by omega, rfl, HR0, HRV, HB1, HN1, by omega⟩
  case round =>
    clear HR0 HRV HB1 HN1
    obtain ⟨k, G2, c2, rfl, hk1, hkm, rfl, hro, hrv, hbw, hnw, hne⟩ := hrel
    have hl2 := World.ownsRow.lt hro.out G2 rfl; have hlG := RowC.low hrv.out
    by_cases hlt : (k : Int) < (V.length : Int)
    · have hkl : k < V.length := by omega
      obtain ⟨n, hn1⟩ : ∃ n, n + 1 = k := ⟨k - 1, by omega⟩
      have hnV : n < V.length := by omega
      have hb' : Below w.heap.size w wr := by rw [HBE.out]; exact hbw.out
      have HAw := Lib.hid (HA.out.below hb'); have HDw := Lib.hid (HD.out.below hb')
      obtain ⟨g0, eq0, hg0, s0, s1, s2, s3, s4, s5⟩ := (ins_row hrv.out scC_len rfl).sc k hkl
      cases eq0
      obtain ⟨g1, eq1, hg1, d0, d1, d2, d3, d4, d5⟩ := (ins_row hrv.out scC_len rfl).sc n hnV
      cases eq1
      have hni : (k : Int) - 1 = (n : Int) := by omega
      have hnl : (n : Int) < (V.length : Int) := by omega
      clear hb'
      have HKY := Lib.hid (fun q => clsU_yes (l := l) (zs := zs) (x := x) hnV hkl hn1 q)
      have HKN := Lib.hid (fun q => clsU_no (l := l) (zs := zs) (x := x) hnV hkl hn1 q)
      have HC1 := Lib.hid (HCF.out k n hnV hkl hn1)
      have hfl := clsU_len (l := l) (zs := zs) (x := x) (V := V) k
      have HP1 := Lib.hid (hp _ (HVM.out _ (List.getElem_mem hnV)))
      generalize V[k] = y at s0 s1 s2 s3 s4 s5 HKY HKN HC1
      generalize V[n] = a at d0 d1 d2 d3 d4 d5 HKY HKN HC1 HP1
      generalize clsU l zs x V k = F at *
      go_wp2_with fail
      generalize wr = ww at *
      obtain ⟨n0, n1, n2⟩ := hnw.out.cells
      have hBl := hnw.out.lt
      have q0 := far_cell hBl n0; have q1 := far_cell hBl n1; have q2 := far_cell hBl n2
      have f0 := far_cell hg0 s0; have f1 := far_cell hg0 s1; have f2 := far_cell hg0 s2; have f3 := far_cell hg0 s3; have f4 := far_cell hg0 s4; have f5 := far_cell hg0 s5
      have e0 := far_cell hg0 d0; have e1 := far_cell hg0 d1; have e2 := far_cell hg0 d2; have e3 := far_cell hg0 d3; have e4 := far_cell hg0 d4; have e5 := far_cell hg0 d5
      clear n0 n1 n2 s0 s1 s2 s3 s4 s5 d0 d1 d2 d3 d4 d5
      have HFF := Lib.hid (fun u => HF.out a y (far ww u) (HAw.out.below (below_far ww u)) (HDw.out.below (below_far ww u)) HP1.out)
      simp only [show folB l zs x ⟨a.h, a.a, a.k, a.p, a.g, a.d⟩ ⟨y.h, y.a, y.k, y.p, y.g, y.d⟩ = folB l zs x a y from rfl, ← HC1.out] at HFF
      cases hq : canB l zs x a y with
      | true =>
        rw [hq] at HFF
        have HK1 := Lib.hid (HKY.out hq)
        clear HKY HKN HC1 hq
        refine wp_region_far (by kernel_rfl) (by kernel_rfl) ?_
        repeat (any_goals (first | go_big_quiet_step (((go_at_call 70; with_reducible exact call_far (HFF.out _)))) | quiet_step (((go_at_call 70; with_reducible exact call_far (HFF.out _))))))
        refine wpQuiet_nil ?_; intro w3 hw3
        have hb3 : Below ww.heap.size ww w3 := by obtain ⟨u, rfl⟩ := hw3; exact below_far ww u
        clear hw3
        have HRO3 := Lib.hid (hro.out.below hb3)
        have HRV3 := Lib.hid (OwnK.below hrv.out hb3)
        have HB3 := Lib.hid (hbw.out.trans (hb3.mono (by omega)))
        have HN3 := Lib.hid (hnw.out.below hb3)
        have hs3 := hb3.size
        clear hb3 f0 f1 f2 f3 f4 f5 q0 q1 q2 e0 e1 e2 e3 e4 e5 HFF hro hrv hbw hnw
        go_wp2
        go_roundw
        case rel => exact ⟨k + 1, G2, c2, by go_num, by omega, by omega, by rw [HK1.out], Lib.hid (by rw [HK1.out]; exact HRO3.out), HRV3, HB3, HN3, hne⟩
        case measure => simp [intOf]; omega
      | false =>
        rw [hq] at HFF
        have HK1 := Lib.hid (HKN.out hq)
        clear HKY HKN HC1 hq
        refine wp_region_far (by kernel_rfl) (by kernel_rfl) ?_
        repeat (any_goals (first | go_big_quiet_step (((go_at_call 70; with_reducible exact call_far (HFF.out _)))) | quiet_step (((go_at_call 70; with_reducible exact call_far (HFF.out _))))))
        refine wpQuiet_nil ?_; intro w3 hw3
        have hb3 : Below ww.heap.size ww w3 := by obtain ⟨u, rfl⟩ := hw3; exact below_far ww u
        clear hw3
        have HRO3 := Lib.hid (hro.out.below hb3)
        have HRV3 := Lib.hid (OwnK.below hrv.out hb3)
        have HB3 := Lib.hid (hbw.out.trans (hb3.mono (by omega)))
        have HN3 := Lib.hid (hnw.out.below hb3)
        have hs3 := hb3.size
        clear hb3 f0 f1 f2 f3 f4 f5 q0 q1 q2 e0 e1 e2 e3 e4 e5 HFF hro hrv hbw hnw
        have hmx : F.length + 1 ≤ maxLen := by unfold maxLen; omega
        have hmb : (F.length + 1) * 8 ≤ 140737488355328 := by omega
        go_wp2_with (at_builtin; refine wpList_append_own_at _ rfl (.tmp 33) (.tmp 35) 25 rfl (B + 1) 3 i0 _ 1 8 Tryz.underlying25 hi0 hz0 hz1 hz3 rfl (by omega) _ F.length (intV F) rfl (World.ownsRow.alloc HRO3.out _) ⟨w3.heap.size, 0, none⟩ 1 1 [.int .i64 (k : Int)] rfl rfl (World.news_of_block (cs := #[.int .i64 (k : Int)]) (t := 3) (fr := (0, 0)) (heap_alloc_new w3 _)) (by intro u hu; simp at hu; subst hu; rfl) hmx hmb (by rw [World.size_alloc]; omega) ?_; intro v' w6 hown hgr hnil hob; obtain ⟨G3, c3', rfl, hr6⟩ := ownI_of (l := F ++ [(k : Int)]) (by rw [intV_app]; exact hown) (by simp) (fun e => by have := (hnil.1 e).1; cases this))
        have hba := (Below.refl w3.heap.size w3).alloc (Nat.le_refl _) (.cells #[.int .i64 (k : Int)] 3)
        have HB6 := Lib.hid ((HB3.out.trans (hba.mono (by omega))).grown hgr (by rw [World.size_alloc]; omega) (fun q e => by cases e; exact (show B ≤ G2 by omega)))
        have HV6 := Lib.hid (World.ownsRow.kept (OwnK.below HRV3.out hba) hgr (.inr (fun e => by have e2 : G = G2 := Option.some.inj e; omega)))
        have HN6 := Lib.hid ((HN3.out.below hba).apart hgr (fun e => by have e2 : B = G2 := Option.some.inj e; omega))
        have hn6 : G3 ≠ G := by
          rcases hob with e | e
          · have e2 : G3 = G2 := Option.some.inj e
            omega
          · have e2 : G3 = (w3.alloc (.cells #[.int .i64 (k : Int)] 3)).heap.size := Option.some.inj e
            rw [World.size_alloc] at e2
            omega
        have HR6 := Lib.hid hr6
        clear hown hgr hnil hob hr6 hba
        go_roundw
        case rel => exact ⟨k + 1, G3, c3', by go_num, by omega, by omega, by rw [HK1.out, List.length_append]; rfl, Lib.hid (by rw [HK1.out, List.length_append]; exact HR6.out), HV6, HB6, HN6, hn6⟩
        case measure => simp [intOf]; omega
    · obtain rfl : k = max 1 V.length := by omega
      have HCB2 := Lib.hid HCB.out.symm
      rw [HCB2.out] at hro ⊢
      go_wp2
      go_ret
      exact ⟨_, rfl, hro.out.mono (by omega), hbw.out⟩
set_option maxRecDepth 100000 in
set_option maxHeartbeats 8000000 in
theorem cls_spec (A : Option Addr) (ca : Nat) (l : List Lg) (D : Option Addr) (cd : Nat) (zs : List Int) (x : Int) (E : Option Addr) (ce : Nat) (ls : List Sc) (th : Int) (w : World) (hA : InK 6 lgC w A l) (hD : IntsIn w D zs) (hs : ∀ z ∈ l, z.f.size ≤ maxLen ∧ z.t.size ≤ maxLen) (hn : l.length ≤ 1048576) (hm : zs.length ≤ 1048576) (hE : InK 6 scC w E ls) (hk : ls.length ≤ 1048576) (_hc : ls.length ≤ ce) :
    Calls Tryz.prog 50 #[.agg #[.slice A l.length ca, .slice D zs.length cd, .int .i64 x], .slice E ls.length ce, .int .i64 th] w fun e w' => ∃ v, e = .returned v ∧ OwnI w' w.heap.size v (clsB l zs x ls th) ∧ Below w.heap.size w w' := by
  have HSI := Lib.hid (fun W h1 h2 h3 => scof_spec A ca l D cd zs x E ce ls th W h1 h2 hs hn hm h3 hk)
  have HF := Lib.hid (fun (a y : Sc) W (h1 : InK 6 lgC W A l) (h2 : IntsIn W D zs) => can_spec a.h a.a a.k a.p a.g a.d y.h y.a y.k y.p y.g y.d A ca l D cd zs x W h1 h2 hs hn hm)
  have HA := Lib.hid hA; have HD := Lib.hid hD; have HE := Lib.hid hE; clear hA hD hE hs
  obtain ⟨i0, hi0, hz0, hz1, hz3⟩ := info_parts int_info
  have HCF := Lib.hid (cons_fol (l := l) (zs := zs) (x := x) (ls := ls) (th := th))
  have HVM := Lib.hid (fun y hy => (scOf_mem (l := l) (zs := zs) (x := x) (ls := ls) (th := th) (y := y) hy).2.2)
  have hvl := scOf_len (l := l) (zs := zs) (x := x) (ls := ls) (th := th)
  have HCB := Lib.hid (show clsB l zs x ls th = clsU l zs x (scOfB l zs x ls th) (max 1 (scOfB l zs x ls th).length) from rfl)
  have H2 := two w (.cells #[.slice A l.length ca, .slice D zs.length cd, .int .i64 x] 27) (.cells #[] 3)
  have hN0 : Box3 27 ((w.alloc (.cells #[.slice A l.length ca, .slice D zs.length cd, .int .i64 x] 27)).alloc (.cells #[] 3)) w.heap.size (.slice A l.length ca) (.slice D zs.length cd) (.int .i64 x) := H2.1
  have HT := Lib.hid H2.2.1; have HB2 := Lib.hid H2.2.2.1; have hz2 := H2.2.2.2
  clear H2
  generalize hB : w.heap.size = B at *
  have HBE := Lib.hid hB
  go_enter Tryz.func50, Tryz.ntmps50
  go_wp2_with fail
  clear hB
  generalize (w.alloc (.cells #[.slice A l.length ca, .slice D zs.length cd, .int .i64 x] 27)).alloc (.cells #[] 3) = W2 at *
  have hb2 : Below w.heap.size w W2 := by rw [HBE.out]; exact HB2.out
  refine (HSI.out W2 (HA.out.below hb2) (HD.out.below hb2) (HE.out.below hb2)).mono ?_; rintro e w1 ⟨G, c, rfl, hr, hb⟩
  clear hb2 HSI HE
  generalize scOfB l zs x ls th = V at *
  have hG := RowC.low hr
  have HR0 := Lib.hid (show OwnI w1 (B + 1) (.slice (some ⟨B + 1, 0, none⟩) 0 0) (clsU l zs x V 1) from own_nilI (Nat.le_refl _) ((hb.block (B + 1) (by omega)).trans HT.out))
  have HRV := Lib.hid hr
  have HB1 := Lib.hid (HB2.out.trans (hb.mono (by omega)))
  have HN1 := Lib.hid (hN0.below hb)
  have hne0 : B + 1 ≠ G := by omega
  have hgo : B + 1 ≤ B + 1 := Nat.le_refl _
  clear hr hb hN0
  go_wp2
  go_loopw [9, 7] (fun i v wr => ∃ k G2 c2 : Nat, i = .int .i64 k ∧ 1 ≤ k ∧ k ≤ max 1 V.length ∧ v = .slice (some ⟨G2, 0, none⟩) (clsU l zs x V k).length c2 ∧ Hid (OwnI wr (B + 1) (.slice (some ⟨G2, 0, none⟩) (clsU l zs x V k).length c2) (clsU l zs x V k)) ∧ Hid (RowC wr W2.heap.size G c V) ∧ Hid (Below B w wr) ∧ Hid (Box3 27 wr B (.slice A l.length ca) (.slice D zs.length cd) (.int .i64 x)) ∧ G2 ≠ G) (fun i _ _ => V.length - (intOf i).toNat)
  case atStart => exact ⟨1, B + 1, 0, rfl, Nat.le_refl _, by omega, rfl, HR0, HRV, HB1, HN1, by omega⟩
  case round =>
    clear HR0 HRV HB1 HN1
    obtain ⟨k, G2, c2, rfl, hk1, hkm, rfl, hro, hrv, hbw, hnw, hne⟩ := hrel
    have hl2 := World.ownsRow.lt hro.out G2 rfl; have hlG := RowC.low hrv.out
    by_cases hlt : (k : Int) < (V.length : Int)
    · have hkl : k < V.length := by omega
      obtain ⟨n, hn1⟩ : ∃ n, n + 1 = k := ⟨k - 1, by omega⟩
      have hnV : n < V.length := by omega
      have hb' : Below w.heap.size w wr := by rw [HBE.out]; exact hbw.out
      have HAw := Lib.hid (HA.out.below hb'); have HDw := Lib.hid (HD.out.below hb')
      obtain ⟨g0, eq0, hg0, s0, s1, s2, s3, s4, s5⟩ := (ins_row hrv.out scC_len rfl).sc k hkl
      cases eq0
      obtain ⟨g1, eq1, hg1, d0, d1, d2, d3, d4, d5⟩ := (ins_row hrv.out scC_len rfl).sc n hnV
      cases eq1
      have hni : (k : Int) - 1 = (n : Int) := by omega
      have hnl : (n : Int) < (V.length : Int) := by omega
      clear hb'
      have HKY := Lib.hid (fun q => clsU_yes (l := l) (zs := zs) (x := x) hnV hkl hn1 q)
      have HKN := Lib.hid (fun q => clsU_no (l := l) (zs := zs) (x := x) hnV hkl hn1 q)
      have HC1 := Lib.hid (HCF.out k n hnV hkl hn1)
      have hfl := clsU_len (l := l) (zs := zs) (x := x) (V := V) k
      generalize V[k] = y at s0 s1 s2 s3 s4 s5 HKY HKN HC1
      generalize V[n] = a at d0 d1 d2 d3 d4 d5 HKY HKN HC1
      generalize clsU l zs x V k = F at *
      go_wp2_with fail
      generalize wr = ww at *
      obtain ⟨n0, n1, n2⟩ := hnw.out.cells
      have hBl := hnw.out.lt
      have q0 := far_cell hBl n0; have q1 := far_cell hBl n1; have q2 := far_cell hBl n2
      have f0 := far_cell hg0 s0; have f1 := far_cell hg0 s1; have f2 := far_cell hg0 s2; have f3 := far_cell hg0 s3; have f4 := far_cell hg0 s4; have f5 := far_cell hg0 s5
      have e0 := far_cell hg0 d0; have e1 := far_cell hg0 d1; have e2 := far_cell hg0 d2; have e3 := far_cell hg0 d3; have e4 := far_cell hg0 d4; have e5 := far_cell hg0 d5
      clear n0 n1 n2 s0 s1 s2 s3 s4 s5 d0 d1 d2 d3 d4 d5
      have HFF := Lib.hid (fun u => HF.out a y (far ww u) (HAw.out.below (below_far ww u)) (HDw.out.below (below_far ww u)))
      simp only [show canB l zs x ⟨a.h, a.a, a.k, a.p, a.g, a.d⟩ ⟨y.h, y.a, y.k, y.p, y.g, y.d⟩ = canB l zs x a y from rfl] at HFF
      cases hq : canB l zs x a y with
      | true =>
        rw [hq] at HFF
        have HK1 := Lib.hid (HKY.out hq)
        clear HKY HKN HC1 hq
        refine wp_region_far (by kernel_rfl) (by kernel_rfl) ?_
        repeat (any_goals (first | go_big_quiet_step (((go_at_call 48; with_reducible exact call_far (HFF.out _)))) | quiet_step (((go_at_call 48; with_reducible exact call_far (HFF.out _))))))
        refine wpQuiet_nil ?_; intro w3 hw3
        have hb3 : Below ww.heap.size ww w3 := by obtain ⟨u, rfl⟩ := hw3; exact below_far ww u
        clear hw3
        have HRO3 := Lib.hid (hro.out.below hb3)
        have HRV3 := Lib.hid (OwnK.below hrv.out hb3)
        have HB3 := Lib.hid (hbw.out.trans (hb3.mono (by omega)))
        have HN3 := Lib.hid (hnw.out.below hb3)
        have hs3 := hb3.size
        clear hb3 f0 f1 f2 f3 f4 f5 q0 q1 q2 e0 e1 e2 e3 e4 e5 HFF hro hrv hbw hnw
        go_wp2
        go_roundw
        case rel => exact ⟨k + 1, G2, c2, by go_num, by omega, by omega, by rw [HK1.out], Lib.hid (by rw [HK1.out]; exact HRO3.out), HRV3, HB3, HN3, hne⟩
        case measure => simp [intOf]; omega
      | false =>
        rw [hq] at HFF
        have HK1 := Lib.hid (HKN.out hq)
        clear HKY HKN HC1 hq
        refine wp_region_far (by kernel_rfl) (by kernel_rfl) ?_
        repeat (any_goals (first | go_big_quiet_step (((go_at_call 48; with_reducible exact call_far (HFF.out _)))) | quiet_step (((go_at_call 48; with_reducible exact call_far (HFF.out _))))))
        refine wpQuiet_nil ?_; intro w3 hw3
        have hb3 : Below ww.heap.size ww w3 := by obtain ⟨u, rfl⟩ := hw3; exact below_far ww u
        clear hw3
        have HRO3 := Lib.hid (hro.out.below hb3)
        have HRV3 := Lib.hid (OwnK.below hrv.out hb3)
        have HB3 := Lib.hid (hbw.out.trans (hb3.mono (by omega)))
        have HN3 := Lib.hid (hnw.out.below hb3)
        have hs3 := hb3.size
        clear hb3 f0 f1 f2 f3 f4 f5 q0 q1 q2 e0 e1 e2 e3 e4 e5 HFF hro hrv hbw hnw
        have hmx : F.length + 1 ≤ maxLen := by unfold maxLen; omega
        have hmb : (F.length + 1) * 8 ≤ 140737488355328 := by omega
        go_wp2_with (at_builtin; refine wpList_append_own_at _ rfl (.tmp 33) (.tmp 35) 25 rfl (B + 1) 3 i0 _ 1 8 Tryz.underlying25 hi0 hz0 hz1 hz3 rfl (by omega) _ F.length (intV F) rfl (World.ownsRow.alloc HRO3.out _) ⟨w3.heap.size, 0, none⟩ 1 1 [.int .i64 (k : Int)] rfl rfl (World.news_of_block (cs := #[.int .i64 (k : Int)]) (t := 3) (fr := (0, 0)) (heap_alloc_new w3 _)) (by intro u hu; simp at hu; subst hu; rfl) hmx hmb (by rw [World.size_alloc]; omega) ?_; intro v' w6 hown hgr hnil hob; obtain ⟨G3, c3', rfl, hr6⟩ := ownI_of (l := F ++ [(k : Int)]) (by rw [intV_app]; exact hown) (by simp) (fun e => by have := (hnil.1 e).1; cases this))
        have hba := (Below.refl w3.heap.size w3).alloc (Nat.le_refl _) (.cells #[.int .i64 (k : Int)] 3)
        have HB6 := Lib.hid ((HB3.out.trans (hba.mono (by omega))).grown hgr (by rw [World.size_alloc]; omega) (fun q e => by cases e; exact (show B ≤ G2 by omega)))
        have HV6 := Lib.hid (World.ownsRow.kept (OwnK.below HRV3.out hba) hgr (.inr (fun e => by have e2 : G = G2 := Option.some.inj e; omega)))
        have HN6 := Lib.hid ((HN3.out.below hba).apart hgr (fun e => by have e2 : B = G2 := Option.some.inj e; omega))
        have hn6 : G3 ≠ G := by
          rcases hob with e | e
          · have e2 : G3 = G2 := Option.some.inj e
            omega
          · have e2 : G3 = (w3.alloc (.cells #[.int .i64 (k : Int)] 3)).heap.size := Option.some.inj e
            rw [World.size_alloc] at e2
            omega
        have HR6 := Lib.hid hr6
        clear hown hgr hnil hob hr6 hba
        go_roundw
        case rel => exact ⟨k + 1, G3, c3', by go_num, by omega, by omega, by rw [HK1.out, List.length_append]; rfl, Lib.hid (by rw [HK1.out, List.length_append]; exact HR6.out), HV6, HB6, HN6, hn6⟩
        case measure => simp [intOf]; omega
    · obtain rfl : k = max 1 V.length := by omega
      have HCB2 := Lib.hid HCB.out.symm
      rw [HCB2.out] at hro ⊢
      go_wp2
      go_ret
      exact ⟨_, rfl, hro.out.mono (by omega), hbw.out⟩
end Go.Proofs.YtamlbiagjipedaaGreat

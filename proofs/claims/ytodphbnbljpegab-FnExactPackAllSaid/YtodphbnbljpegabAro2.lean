/- Contracts of around, areShallow, directlyIn. -/
import Derived.Test.YtodphbnbljpegabAro
import Derived.Deep.LoopGhost
import Derived.Deep.Cut
namespace Go.Proofs.Ytodphbnbljpegab
open Go.RowKit
abbrev thL (t : Th) : Array Value := #[.int .i64 t.d, .int .i64 t.o, .int .i64 t.r, .int .i64 t.n, .bool t.x, .bool t.s]
theorem own_newT (w : World) : OwnKth (w.alloc (.cells #[] 90)) w.heap.size (.slice (some ⟨w.heap.size, 0, none⟩) 0 0) [] := World.ownsRow_made w #[] 0 (Nat.le_refl _) (Nat.zero_le _) rfl
theorem own_offT {w : World} {b B : Nat} {v : Value} {l : List Th} (h : OwnKth w b v l) (hB : B < b) : v.ownBlock ≠ some B := fun e => by have := (World.ownsRow.lt h B e).1; omega
theorem BoxT.keep {W W' : World} {B : Nat} {v : Value} {t : Th} {b : Nat} {l : List Th} (h : BoxT W B t) (ho : W.grownBy W' v.ownBlock) (hv : OwnKth W b v l) (hB : B < b) : BoxT W' B t :=
  h.only ho (fun e => own_offT hv hB e.symm)
theorem own_setB {w : World} {base g o k n : Nat} {T : TypeId} {v u : Value} {xs : List Value} (h : w.ownsRow base T k v n xs) (hg : v.ownBlock ≠ some g) : (w.setCell ⟨g, o, none⟩ u).ownsRow base T k v n xs :=
  World.ownsRow.kept h (only_set w g o u) (.inr hg)
theorem own_setT {w : World} {b B o : Nat} {v u : Value} {l : List Th} (h : OwnKth w b v l) (hB : B < b) : OwnKth (w.setCell ⟨B, o, none⟩ u) b v l := own_setB h (own_offT h hB)
theorem own_at {w : World} {b n : Nat} {v : Value} {l : List Th} (h : OwnKth w b v l) (hn : l.length = n) {o : Obj} : (w.alloc o).ownsRow b 90 6 v n (l.flatMap thC) := by
  subst hn; exact World.ownsRow.alloc h o
theorem app_at {w : World} {base n : Nat} {v : Value} {l : List Th} {z : Th} (h : w.ownsRow base 90 6 v (n + 1) (l.flatMap thC ++ thC z)) (hn : l.length = n) : OwnKth w base v (l ++ [z]) := by
  subst hn; exact app_th h
set_option maxRecDepth 100000 in
set_option maxHeartbeats 400000 in
theorem around_impl (t : Th) (A : Option Addr) (ca : Nat) (l : List Th) (w : World) (hA : InK 6 thC w A l) (hn : l.length ≤ 1048576) (hl : Lis l) (ht : t ∈ l) :
    Calls Try.prog 64 #[.slice A l.length ca, .agg (thL t)] w fun e w' => (∃ v, e = .returned v ∧ OwnKth w' w.heap.size v (aro l 5 t)) ∧ Below w.heap.size w w' := by
  have HA := Lib.hid hA; clear hA
  have HPAR := Lib.hid (fun u (hu : u ∈ l) (hn : u.n ≠ 0) => hl.pin u hu hn)
  have HF := Lib.hid (fun id W h => find_impl id A ca l W h hn)
  obtain ⟨i0, hi0, hz0, hz1, hz2⟩ := info_parts th_info
  have HX0 := BoxT.new w t
  have hb0 := (Below.refl w.heap.size w).alloc (Nat.le_refl _) (.cells (thL t) 90)
  clear hl
  go_enter Try.func64, Try.ntmps64
  go_wp2
  generalize hB : w.heap.size = B at *
  have HBE := Lib.hid hB; clear hB
  obtain ⟨W, hW⟩ : ∃ W, W = w.alloc (.cells (thL t) 90) := ⟨_, rfl⟩
  rw [← hW] at HX0 hb0 ⊢
  have hWB : W.heap.size = B + 1 := by rw [hW]; have := HBE.out; simp; omega
  clear hW
  have HO0 := Lib.hid (show OwnKth (W.alloc (.cells #[] 90)) (B + 1) (.slice (some ⟨B + 1, 0, none⟩) 0 0) [] from by rw [← hWB]; exact own_newT W)
  have HX1 := Lib.hid (HX0.below ((Below.refl _ _).alloc (Nat.le_refl _) (.cells #[] 90)))
  have HB1 := Lib.hid (hb0.alloc (by omega) (.cells #[] 90))
  clear HX0 hb0 hWB
  obtain ⟨V0, hV0⟩ : ∃ V0 : Value, V0 = .slice (some ⟨B + 1, 0, none⟩) 0 0 := ⟨_, rfl⟩
  rw [← hV0] at HO0 ⊢
  clear hV0
  go_loopg [5] 6 (fun gg v wr => ∃ (u : Th) (bs : List Th), OwnKth wr (B + 1) v bs ∧ BoxT wr B u ∧ Below B w wr ∧ u ∈ l ∧ Hid (aro l 5 t = bs ++ aro l (5 - bs.length) u) ∧ bs.length ≤ 5 ∧ 6 - bs.length ≤ gg)
  case atStart => exact ⟨t, [], HO0.out, HX1.out, HB1.out, ht, Lib.hid rfl, by simp, by simp⟩
  case round =>
    clear HO0 HX1 HB1 ht
    obtain ⟨u, bs, ho, hX, hb, hu, HR, h5, hgg⟩ := hrel
    have hbz := hb.size
    have HAW := Lib.hid (HA.out.below (show Below w.heap.size w wr by rw [HBE.out]; exact hb))
    have hBl := hX.lt
    obtain ⟨q0, q1, q2, q3, q4, q5⟩ := hX.cells
    have HO := Lib.hid ho
    obtain ⟨VA, vc, rfl⟩ := ho.opens
    clear ho
    by_cases hn0 : u.n = 0
    · have hn1 : (u.n != 0) = false := by simpa using hn0
      have HE := Lib.hid (show aro l 5 t = bs by rw [HR.out, aro_top hn0, List.append_nil])
      clear hn0 HR
      go_wp2
      go_ret
      exact ⟨⟨_, rfl, by rw [HE.out, HBE.out]; exact OwnK.mono HO.out (by omega)⟩, by rw [HBE.out]; exact hb⟩
    · have hn1 : (u.n != 0) = true := by simpa using hn0
      by_cases h4 : (bs.length : Int) ≤ 4
      · obtain ⟨k, hk, hf, _, _⟩ := HPAR.out u hu hn0
        have HFk := Lib.hid (HF.out u.n)
        rw [hf] at HFk
        have HNEW := Lib.hid (show aro l 5 t = (bs ++ [l[k]]) ++ aro l (5 - (bs ++ [l[k]]).length) l[k] from by
          rw [HR.out, show 5 - bs.length = (5 - (bs.length + 1)) + 1 by omega, aro_step hn0, par_at hk hf, List.append_assoc]
          simp)
        have HKM := Lib.hid (List.getElem_mem hk)
        have hki : (k : Int) < (l.length : Int) := by omega
        have hX0 := Lib.hid hX
        clear hX hf hn0 HR
        go_wp2_with fail
        refine (HFk.out wr HAW.out).mono ?_; rintro e w1 ⟨rfl, hb1⟩
        have hX1 := hX0.out.below hb1
        have HA1 := Lib.hid (HAW.out.below hb1)
        have HO1 := Lib.hid (below_th HO.out hb1)
        have HBW := Lib.hid (hb.trans (hb1.mono (by omega)))
        have hbz1 := HBW.out.size
        clear q0 q1 q2 q3 q4 q5 hb1 HO HAW hb HFk
        obtain ⟨g, rfl, hg, c0, c1, c2, c3, c4, c5⟩ := HA1.out.th k hk
        obtain ⟨q0, q1, q2, q3, q4, q5⟩ := hX1.cells
        have f0 := hX1.free 0; have f1 := hX1.free 1; have f2 := hX1.free 2; have f3 := hX1.free 3; have f4 := hX1.free 4; have f5 := hX1.free 5
        have hBl1 := hX1.lt
        obtain ⟨y, hy⟩ : ∃ y, y = l[k] := ⟨_, rfl⟩
        rw [← hy] at c0 c1 c2 c3 c4 c5 HNEW HKM
        clear hy
        have HXP := Lib.hid (hX1.put y)
        have hg2 : g < w1.heap.size := hg
        obtain ⟨n, hn'⟩ : ∃ n, n = bs.length := ⟨_, rfl⟩
        have HN := Lib.hid hn'.symm
        have HOS : Hid (OwnKth ((((((w1.setCell ⟨B, 0, none⟩ (.int .i64 y.d)).setCell ⟨B, 1, none⟩ (.int .i64 y.o)).setCell ⟨B, 2, none⟩ (.int .i64 y.r)).setCell ⟨B, 3, none⟩ (.int .i64 y.n)).setCell ⟨B, 4, none⟩ (.bool y.x)).setCell ⟨B, 5, none⟩ (.bool y.s)) (B + 1) (.slice VA bs.length vc) bs) := Lib.hid (own_setT (own_setT (own_setT (own_setT (own_setT (own_setT HO1.out (by omega)) (by omega)) (by omega)) (by omega)) (by omega)) (by omega))
        have HBS : Hid (Below B w ((((((w1.setCell ⟨B, 0, none⟩ (.int .i64 y.d)).setCell ⟨B, 1, none⟩ (.int .i64 y.o)).setCell ⟨B, 2, none⟩ (.int .i64 y.r)).setCell ⟨B, 3, none⟩ (.int .i64 y.n)).setCell ⟨B, 4, none⟩ (.bool y.x)).setCell ⟨B, 5, none⟩ (.bool y.s))) := Lib.hid ((((((HBW.out.setCell (Nat.le_refl _) _).setCell (Nat.le_refl _) _).setCell (Nat.le_refl _) _).setCell (Nat.le_refl _) _).setCell (Nat.le_refl _) _).setCell (Nat.le_refl _) _)
        clear HO1 HBW hX1
        rw [← hn'] at h4 h5 hgg HOS ⊢
        clear hn'
        go_upto_region 4 with (fail)
        obtain ⟨W2, hW2⟩ : ∃ W2 : World, W2 = ((((((w1.setCell ⟨B, 0, none⟩ (.int .i64 y.d)).setCell ⟨B, 1, none⟩ (.int .i64 y.o)).setCell ⟨B, 2, none⟩ (.int .i64 y.r)).setCell ⟨B, 3, none⟩ (.int .i64 y.n)).setCell ⟨B, 4, none⟩ (.bool y.x)).setCell ⟨B, 5, none⟩ (.bool y.s)) := ⟨_, rfl⟩
        rw [← hW2] at HXP HOS HBS ⊢
        clear hW2 c0 c1 c2 c3 c4 c5 q0 q1 q2 q3 q4 q5 f0 f1 f2 f3 f4 f5 hBl1 hg hg2 hbz1
        obtain ⟨q0, q1, q2, q3, q4, q5⟩ := HXP.out.cells
        have hBl2 := HXP.out.lt
        go_wp2_with (at_builtin; refine wpList_append_own _ rfl _ _ 24 rfl (B + 1) 90 i0 _ 6 40 Try.underlying24 hi0 hz0 hz1 hz2 rfl (by decide) _ n (bs.flatMap thC) rfl (own_at HOS.out HN.out) ⟨W2.heap.size, 0, none⟩ 1 1 (thC y) rfl rfl (th_news _ _ _) (one_th _) (by unfold maxLen; omega) (by omega) (by simp; omega) ?_; intro v' w5 hown' hgr hnil)
        go_roundg (6 - (n + 1))
        case measure => omega
        case rel =>
          have hba := (Below.refl W2.heap.size W2).alloc (Nat.le_refl _) (.cells (thL y) 90)
          refine ⟨y, bs ++ [y], app_at hown' HN.out, (HXP.out.below hba).keep hgr (below_th HOS.out hba) (by omega), (HBS.out.alloc (by omega) _).grown hgr (by simp; omega) (fun k h => by have := (World.ownsRow.lt HOS.out k h).1; omega), HKM.out, Lib.hid HNEW.out, ?_, ?_⟩
          · rw [List.length_append, HN.out]; simp; omega
          · rw [List.length_append, HN.out]; simp
      · have HE := Lib.hid (show aro l 5 t = bs by rw [HR.out, show 5 - bs.length = 0 by omega]; simp [aro])
        clear HR
        go_wp2
        go_ret
        exact ⟨⟨_, rfl, by rw [HE.out, HBE.out]; exact OwnK.mono HO.out (by omega)⟩, by rw [HBE.out]; exact hb⟩
set_option maxRecDepth 100000 in
set_option maxHeartbeats 1000000 in
theorem are_shallow (A : Option Addr) (ca : Nat) (l : List Th) (w : World) (hA : InK 6 thC w A l) (hn : l.length ≤ 1048576) (hl : Lis l) :
    Calls Try.prog 124 #[.slice A l.length ca] w fun e w' => e = .returned (.bool (shaB l)) ∧ Below w.heap.size w w' := by
  have HA := Lib.hid hA; clear hA
  have HR := Lib.hid (fun t (ht : t ∈ l) W h => around_impl t A ca l W h hn hl ht)
  clear hl
  go_enter Try.func124, Try.ntmps124
  go_wp2
  go_loopw [7] (fun i wr => ∃ k : Nat, k ≤ l.length ∧ i = .int .i64 k ∧ Hid (∀ j (hj : j < l.length), j < k → (aro l 5 l[j]).length ≤ 4) ∧ Below w.heap.size w wr) (fun i _ => l.length - (intOf i).toNat)
  case atStart => exact ⟨0, Nat.zero_le _, rfl, Lib.hid (fun j _ h => by omega), Below.refl _ _⟩
  case round =>
    obtain ⟨k, hk, rfl, HD, hb⟩ := hrel
    by_cases hlt : (k : Int) < (l.length : Int)
    · have hkn : k < l.length := by omega
      have hbz := hb.size
      obtain ⟨g, rfl, hg, c0, c1, c2, c3, c4, c5⟩ := (HA.out.below hb).th k hkn
      have HRk := Lib.hid (HR.out l[k] (List.getElem_mem hkn))
      have HNO := Lib.hid (fun h => shaB_no (List.getElem_mem hkn) h)
      have HYE := Lib.hid (fun (h : (aro l 5 l[k]).length ≤ 4) j (hj : j < l.length) (hjk : j < k + 1) => show (aro l 5 l[j]).length ≤ 4 by
        by_cases e : j = k
        · subst e; exact h
        · exact HD.out j hj (by omega))
      have h5 := aro_len l 5 l[k]
      obtain ⟨R, hR⟩ : ∃ R, R = aro l 5 l[k] := ⟨_, rfl⟩
      rw [← hR] at HRk HNO HYE h5
      clear hR
      generalize l[k] = y at *
      go_wp2_with fail
      have hbx := hb.alloc hbz (.cells (thL y) 90)
      refine (HRk.out _ (HA.out.below hbx)).mono ?_; rintro e w1 ⟨⟨v, rfl, hv⟩, hb1⟩
      obtain ⟨VA, vc, rfl⟩ := hv.opens
      have hb2 := hbx.trans (hb1.mono hbx.size)
      clear hv hb1 hbx
      by_cases h4 : (4 : Int) < (R.length : Int)
      · have HN := Lib.hid (HNO.out (by omega))
        go_wp2
        go_ret
        exact ⟨ret_bool HN.out.symm, hb2⟩
      · have HN := Lib.hid (HYE.out (by omega))
        go_wp2
        go_roundw
        case rel => exact ⟨k + 1, by omega, by go_num, HN, hb2⟩
        case measure => simp [intOf]; omega
    · obtain rfl : k = l.length := by omega
      have HN := Lib.hid (shaB_yes (fun i hi => HD.out i hi hi))
      go_wp2
      go_ret
      exact ⟨ret_bool HN.out.symm, hb⟩
set_option maxRecDepth 100000 in
set_option maxHeartbeats 1000000 in
theorem directly_in (id : Int) (A : Option Addr) (ca : Nat) (l : List Th) (w : World) (hA : InK 6 thC w A l) (hn : l.length ≤ 1048576) :
    Calls Try.prog 69 #[.slice A l.length ca, .int .i64 id] w fun e w' => (∃ v, e = .returned v ∧ OwnKth w' w.heap.size v (l.filter (fun u => u.n == id))) ∧ Below w.heap.size w w' := by
  have HA := Lib.hid hA; clear hA
  obtain ⟨i0, hi0, hz0, hz1, hz2⟩ := info_parts th_info
  have HO0 := Lib.hid (own_newT w)
  have HB0 := Lib.hid ((Below.refl w.heap.size w).alloc (Nat.le_refl _) (.cells #[] 90))
  go_enter Try.func69, Try.ntmps69
  go_wp2
  generalize hB : w.heap.size = B at *
  have HBE := Lib.hid hB; clear hB
  obtain ⟨V0, hV0⟩ : ∃ V0 : Value, V0 = .slice (some ⟨B, 0, none⟩) 0 0 := ⟨_, rfl⟩
  rw [← hV0] at HO0 ⊢
  clear hV0
  go_loopw [5, 11] (fun v i wr => ∃ k : Nat, k ≤ l.length ∧ i = .int .i64 k ∧ OwnKth wr B v ((l.take k).filter (fun u => u.n == id)) ∧ Below B w wr) (fun _ i _ => l.length - (intOf i).toNat)
  case atStart => exact ⟨0, Nat.zero_le _, rfl, HO0.out, HB0.out⟩
  case round =>
    clear HO0 HB0
    obtain ⟨k, hk, rfl, ho, hb⟩ := hrel
    have hbz : B ≤ wr.heap.size := by rw [← HBE.out]; exact hb.size
    by_cases hlt : (k : Int) < (l.length : Int)
    · have hkn : k < l.length := by omega
      obtain ⟨g, rfl, hg, c0, c1, c2, c3, c4, c5⟩ := (HA.out.below (show Below w.heap.size w wr by rw [HBE.out]; exact hb)).th k hkn
      have HYE := Lib.hid (fil_take_yes (l := l) (p := fun u => u.n == id) hkn)
      have HNO := Lib.hid (fil_take_no (l := l) (p := fun u => u.n == id) hkn)
      have hDl := List.length_filter_le (fun u : Th => u.n == id) (l.take k)
      rw [List.length_take] at hDl
      generalize (l.take k).filter (fun u => u.n == id) = D at *
      generalize l[k] = y at *
      have HO := Lib.hid ho
      obtain ⟨n, hn'⟩ : ∃ n, n = D.length := ⟨_, rfl⟩
      have HN := Lib.hid hn'.symm
      rw [← hn'] at hDl
      clear hn' ho
      by_cases h1 : y.n = id
      · have hq : (y.n == id) = true := by simpa using h1
        have HD := Lib.hid (HYE.out hq)
        clear h1 HNO HYE
        have hba := (Below.refl wr.heap.size wr).alloc (Nat.le_refl _) (.cells (thL y) 90)
        have HOA := Lib.hid (below_th HO.out hba)
        have HBA := Lib.hid (hb.alloc hbz (.cells (thL y) 90))
        have HNW := Lib.hid (show ∀ j u, (thC y)[j]? = some u → ((wr.alloc (.cells (thL y) 90)).alloc (.cells (thL y) 90)).cell? ((⟨wr.heap.size + 1, 0, none⟩ : Addr).add j) = some u from by
          have e : (wr.alloc (.cells (thL y) 90)).heap.size = wr.heap.size + 1 := by simp
          rw [← e]; exact th_news _ _ _)
        go_wp2_with (at_builtin; refine wpList_append_own _ rfl _ _ 24 rfl B 90 i0 _ 6 40 Try.underlying24 hi0 hz0 hz1 hz2 rfl (by decide) _ n (D.flatMap thC) rfl (own_at HOA.out HN.out) ⟨wr.heap.size + 1, 0, none⟩ 1 1 (thC y) rfl rfl HNW.out (one_th _) (by unfold maxLen; omega) (by omega) (by simp; omega) ?_; intro v' w5 hown' hgr hnil)
        go_roundw
        case rel => exact ⟨k + 1, by omega, by go_num, by rw [HD.out]; exact app_at hown' HN.out, (HBA.out.alloc (by simp; omega) _).grown hgr (by simp; omega) (fun q h => (World.ownsRow.lt HO.out q h).1)⟩
        case measure => simp [intOf]; omega
      · have hq : (y.n == id) = false := by simpa using h1
        have HD := Lib.hid (HNO.out hq)
        clear h1 HNO HYE
        go_wp2
        go_roundw
        case rel => exact ⟨k + 1, by omega, by go_num, by rw [HD.out]; exact below_th HO.out ((Below.refl _ _).alloc (Nat.le_refl _) _), hb.alloc hbz _⟩
        case measure => simp [intOf]; omega
    · obtain rfl : k = l.length := by omega
      have HO := Lib.hid ho; clear ho
      go_wp2
      go_ret
      exact ⟨⟨_, rfl, by have h := HO.out; rw [List.take_length] at h; rw [HBE.out]; exact h⟩, by rw [HBE.out]; exact hb⟩
end Go.Proofs.Ytodphbnbljpegab

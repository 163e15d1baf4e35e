/- The contract of spec.l4Round. -/
import Derived.Test.YtinijleelhbpoaaGreatBe
import Derived.Test.YtinijleelhbpoaaGreatBd
import Derived.Test.YtinijleelhbpoaaGreatBa
namespace Go.Proofs.YtinijleelhbpoaaGreat
open Go.RowKit
theorem RowI.put {w : World} {base g cap : Nat} {l : List Int} (h : RowI w base g cap l) (j : Nat) (e : Int) : RowI (w.setCell ⟨g, j, none⟩ (.int .i64 e)) base g cap (l.set j e) := by
 rcases h.2 with ⟨e', _⟩ | ⟨g', cap', cur, e', h1, h2, h3, h4, h5, h6⟩
 ·cases e'
 ·cases e'
  have hl : (l.set j e).length = l.length := by simp
  refine ⟨by rw [intV_len, Nat.mul_one], .inr ⟨g, cap, cur.setIfInBounds j (.int .i64 e), by rw [hl], h1, heap_set h2 j _, by rw [hl]; exact h3, h4, by simpa using h5, ?_⟩⟩
  rw [hl, Array.toList_setIfInBounds, List.take_set, h6]
  simp [intV, List.map_set]
theorem RowI.free {w : World} {base g cap : Nat} {l : List Int} (h : RowI w base g cap l) (j : Nat) : w.frozen? ⟨g, j, none⟩ = false := by
 rcases h.2 with ⟨e, _⟩ | ⟨_, _, cur, e, _, hb, _⟩
 ·cases e
 ·cases e; exact frozen_of_row w g j _ _ hb
theorem RowI.get {w : World} {base g cap : Nat} {l : List Int} (h : RowI w base g cap l) (j : Nat) (hj : j < l.length) : w.cell? ⟨g, j, none⟩ = some (.int .i64 l[j]) := OwnI.cell h j hj
theorem RowI.below {w w' : World} {base g cap : Nat} {l : List Int} (h : RowI w base g cap l) (hb : Below w.heap.size w w') : RowI w' base g cap l := OwnI.below h hb
theorem RowI.capn {w : World} {base g cap : Nat} {l : List Int} (h : RowI w base g cap l) : l.length ≤ cap ∧ cap ≤ 9223372036854775807 := by
 rcases h.2 with ⟨e, _⟩ | ⟨_, _, _, e, _, _, h1, h2, _⟩
 ·cases e
 ·cases e; unfold maxLen at h2; omega
set_option maxRecDepth 100000 in
set_option maxHeartbeats 8000000 in
theorem round_spec (f : Nat) (pl : List ByteArray) (g : Tm) (PA : Option Addr) (cp : Nat) (EA : Option Addr) (ce : Nat) (A : Option Addr) (ca : Nat) (l : List Lg) (D : Option Addr) (cd : Nat) (zs : List Int) (x : Int) (w : World) (hA : InK 6 lgC w A l) (hD : IntsIn w D zs) (hn : l.length ≤ 1048576) (hm : zs.length ≤ 1048576)
  (hnet : netB l zs x = true) (hnd : pl.Nodup) (hpl : ∀ z ∈ l, z.f ∈ pl ∧ z.t ∈ pl) (hf : f < pl.length) (hp : pl.length ≤ 4000000) (hP : StrsIn w PA pl) (hE : IntsIn w EA (listT pl g)) (hg : ∀ q v, g q = some v → 0 ≤ v ∧ v ≤ 100000) :
  Calls Tryz.prog 163 #[.agg #[.slice A l.length ca, .slice D zs.length cd, .int .i64 x], .slice PA pl.length cp, .slice EA pl.length ce, .int .i64 (f : Int)] w fun e w' => ∃ v, e = .returned v ∧ OwnI w' w.heap.size v (listT pl (roundT zs x pl[f] l g)) ∧ Below w.heap.size w w' := by
 have hB := Box3.new (T := 27) (v0 := .slice A l.length ca) (v1 := .slice D zs.length cd) (v2 := .int .i64 x) w
 have hb0 := (Below.refl w.heap.size w).alloc (Nat.le_refl _) (.cells #[.slice A l.length ca, .slice D zs.length cd, .int .i64 x] 27)
 obtain ⟨ge, rfl, _, _⟩ := hE 0 (by rw [listT_len]; omega)
 have H0 := Lib.hid (And.intro hB (And.intro hb0 (And.intro (hA.below hb0) (And.intro (hD.below hb0) (And.intro (hP.below hb0) (hE.below hb0)))))); clear hB hb0 hA hD hP hE
 have HNX := Lib.hid (fun k (hk : k < l.length) r W (h1 : InK 6 lgC W A l) (h2 : IntsIn W D zs) => by
  have h := next3 A ca l D cd zs x (k : Int) r W h1 h2 hn hm (net_at hnet).2.1
  rw [show x3Next l zs (k : Int) r = firstD (nextP l[k] zs r) 61 by unfold x3Next; rw [if_pos (by omega), lgAt_get hk]] at h
  exact h)
 have HEN := Lib.hid (fun k (hk : k < l.length) (d : Int) W (h1 : InK 6 lgC W A l) (h2 : IntsIn W D zs) (hd : 0 ≤ d ∧ d ≤ 60) => end_spec A ca l D cd zs x k d W h1 h2 hk hn hd (leg_bd ((net_at hnet).2.1 k hk)).1 (leg_bd ((net_at hnet).2.1 k hk)).2.1)
 have HLB := Lib.hid (fun k (hk : k < l.length) => leg_bd ((net_at hnet).2.1 k hk))
 have hx := (net_at hnet).2.2.2
 have HIX := Lib.hid (fun p W (h : StrsIn W PA pl) => index_spec PA cp pl p W h hp)
 have HRD := Lib.hid (fun (a : Int) (first : Bool) W (ha : -1 ≤ a ∧ a ≤ 100000) => ready_spec (.slice A l.length ca) (.slice D zs.length cd) x a first W hx ha)
 have hll := listT_len pl g
 have HLA := Lib.hid (fun j (hj : j < pl.length) => listT_get pl g j (by rw [listT_len]; exact hj))
 have HPL := Lib.hid hpl
 have HG := Lib.hid hg
 have HND := Lib.hid hnd
 have HHB := Lib.hid (fun (k : Nat) (q : ByteArray) (b : Int) (h : (l.take k).foldl (oneT zs x pl[f] g) g q = some b) => (fold_bd zs x pl[f] g (l.take k) g (fun z hz => by obtain ⟨j, hj, rfl⟩ := List.getElem_of_mem (List.mem_of_mem_take hz); exact (net_at hnet).2.1 j hj) hg q b h).1)
 clear hnet hpl hg hnd
 go_enter Tryz.func163, Tryz.ntmps163
 go_wp2_with fail
 generalize hB : w.heap.size = B at *
 have HBE := Lib.hid hB; clear hB
 generalize w.alloc (.cells #[.slice A l.length ca, .slice D zs.length cd, .int .i64 x] 27) = W at *
 have hCP := copy_ints ge ce (listT pl g) W H0.out.2.2.2.2.2 (by rw [hll]; omega)
 rw [hll] at hCP
 refine hCP.mono ?_; rintro e w1 ⟨g1, c1, rfl, hr1, hb1⟩
 clear hCP
 have hWB : B < W.heap.size := H0.out.1.lt
 have hg1 : W.heap.size ≤ g1 := RowI.low hr1
 have HR1 := Lib.hid hr1; clear hr1
 go_wp2
 go_loopw [10] (fun i wr => ∃ k : Nat, k ≤ l.length ∧ i = .int .i64 k ∧ RowI wr W.heap.size g1 c1 (listT pl ((l.take k).foldl (oneT zs x pl[f] g) g)) ∧ Below W.heap.size W wr) (fun i _ => l.length - (intOf i).toNat)
 case atStart => exact ⟨0, Nat.zero_le _, rfl, HR1.out, hb1⟩
 case round =>
  clear HR1 hb1
  obtain ⟨k, hk, rfl, hrow, hb⟩ := hrel
  have hcap := hrow.capn
  rw [listT_len] at hcap
  have hg1z := RowI.lt hrow
  have HROW := Lib.hid hrow; clear hrow
  have hbz := hb.size
  obtain ⟨b0, b1, b2⟩ := (H0.out.1.below hb).cells
  have hBr : B < wr.heap.size := by omega
  have HBW := Lib.hid (show Below B w wr from H0.out.2.1.trans (hb.mono (Nat.le_of_lt hWB)))
  by_cases hlt : (k : Int) < (l.length : Int)
  ·have hkn : k < l.length := by omega
   have HF := Lib.hid (fold_take (oneT zs x pl[f] g) g l k hkn)
   have HLO := Lib.hid (legOut_of (zs := zs) (ch := x) (fr := pl[f]) (g := g) (x := l[k]))
   have HOB := Lib.hid (onD_bd (zs := zs) (ch := x) (fr := pl[f]) (g := g) (x := l[k]))
   have HA1 := Lib.hid (H0.out.2.2.1.below hb)
   have HD1 := Lib.hid (H0.out.2.2.2.1.below hb)
   have HP1 := Lib.hid (H0.out.2.2.2.2.1.below hb)
   obtain ⟨ja, hja, hjal, hjae⟩ := idx_mem HND.out (HPL.out l[k] (List.getElem_mem hkn)).1
   obtain ⟨jb, hjb, hjbl, hjbe⟩ := idx_mem HND.out (HPL.out l[k] (List.getElem_mem hkn)).2
   obtain ⟨_, rfl', hgez, hce⟩ := H0.out.2.2.2.2.2.below hb ja (by rw [hll]; exact hjal)
   cases rfl'
   have hce' : wr.cell? ⟨ge, ja, none⟩ = some (.int .i64 ((g l[k].f).getD (-1))) := by rw [hce, HLA.out ja hjal, hjae]
   clear hce
   have HIA := Lib.hid (fun W h => by
    have h := HIX.out l[k].f W h
    rw [hja] at h
    exact h)
   have HIB := Lib.hid (fun W h => by
    have h := HIX.out l[k].t W h
    rw [hjb] at h
    exact h)
   have hlb := HLB.out k hkn
   have hlb1 := hlb.1; have hlb2 := hlb.2.1
   clear hlb
   have HNXk := Lib.hid (fun r W h1 h2 => HNX.out k hkn r W h1 h2)
   have HENk := Lib.hid (fun d W h1 h2 => HEN.out k hkn d W h1 h2)
   have HFE := Lib.hid (show (ja : Int) = (f : Int) ↔ l[k].f = pl[f] from by
    rw [← hjae]
    constructor
    ·intro h
     have : ja = f := by omega
     subst this; rfl
    ·intro h
     have := (List.getElem_inj HND.out).1 h
     omega)
   have HJB := Lib.hid hjbe
   obtain ⟨gb, rfl, hgb, c0, c1', c2, c3, c4, c5⟩ := (H0.out.2.2.1.below hb).lg k hkn
   obtain ⟨y, hy⟩ : ∃ y, y = l[k] := ⟨_, rfl⟩
   rw [← hy] at c0 c1' c2 c3 c4 c5 HF HLO HOB HIA HIB hlb1 hlb2 hce' HNXk HENk HFE HJB
   clear hy hja hjb hjae hjbe
   go_wp2_with fail
   refine (HIA.out wr HP1.out).mono ?_; rintro e w2 ⟨rfl, rfl⟩
   go_wp2_with fail
   refine (HIB.out _ HP1.out).mono ?_; rintro e w3 ⟨rfl, rfl⟩
   cases hgy : g y.f with
   | none =>
    have HN := Lib.hid (oneT_none (h := (l.take k).foldl (oneT zs x pl[f] g) g) (HLO.out.trans (if_pos (by rw [onD_none hgy]; omega))))
    rw [hgy] at hce'
    simp only [Option.getD_none] at hce'
    go_wp2
    go_roundw
    case rel => exact ⟨k + 1, by omega, by go_num, by rw [HF.out, HN.out]; exact HROW.out, hb⟩
    case measure => simp [intOf]; omega
   | some a =>
    have ha := HG.out y.f a hgy
    rw [hgy] at hce'
    simp only [Option.getD_some] at hce'
    have HFb0 := far_cell hBr b0; have HFb1 := far_cell hBr b1; have HFb2 := far_cell hBr b2; have HFe := far_cell hgez hce'
    by_cases hyf : y.f = pl[f]
    ·obtain rfl : f = ja := by have := HFE.out.2 hyf; omega
     have HRDk := Lib.hid (fun W => by
      have h := HRD.out a true W (by omega)
      exact h)
     have HNXr := Lib.hid (fun W h1 h2 => by
      have h := HNXk.out (a) W h1 h2
      rw [show firstD (nextP y zs (a)) 61 = onD zs x pl[f] g y from by rw [onD_some hgy, show readyI x pl[f] y.f a = a from if_pos hyf]] at h
      exact h)
     clear HRD HNXk
     have hob := HOB.out
     have HLO' := Lib.hid HLO.out
     clear HLO HOB hyf
     generalize onD zs x pl[f] g y = d at *
     go_wp2_with fail
     refine wp_region_far (by kernel_rfl) (by kernel_rfl) ?_
     repeat (any_goals (first | go_big_quiet_step ((first | (go_at_call 165; with_reducible exact call_far (HRDk.out _)) | (go_at_call 164; with_reducible exact call_far (HNXr.out _ (HA1.out.below (below_far _ _)) (HD1.out.below (below_far _ _)))))) | quiet_step ((first | (go_at_call 165; with_reducible exact call_far (HRDk.out _)) | (go_at_call 164; with_reducible exact call_far (HNXr.out _ (HA1.out.below (below_far _ _)) (HD1.out.below (below_far _ _))))))))
     refine wpQuiet_nil ?_; intro w4 hw4
     have hb4 : Below w3.heap.size w3 w4 := by obtain ⟨u, rfl⟩ := hw4; exact below_far w3 u
     clear hw4 HRDk HNXr HFb0 HFb1 HFb2 HFe
     by_cases hd : d < 0
     ·have HN := Lib.hid (oneT_none (h := (l.take k).foldl (oneT zs x pl[f] g) g) (HLO'.out.trans (if_pos hd)))
      go_wp2
      go_roundw
      case rel => exact ⟨k + 1, by omega, by go_num, by rw [HF.out, HN.out]; exact HROW.out.below hb4, hb.trans (hb4.mono hbz)⟩
      case measure => simp [intOf]; omega
     ·have hdb : 0 ≤ d ∧ d ≤ 60 := by omega
      obtain ⟨E, hE⟩ : ∃ E, E = d * 1440 + y.s + y.k := ⟨_, rfl⟩
      have HEE := Lib.hid (fun W' (h : Below w3.heap.size w3 W') => by
       have h := HENk.out d W' (HA1.out.below h) (HD1.out.below h) hdb
       rw [← hE] at h
       exact h)
      have HLS := Lib.hid (HLO'.out.trans (if_neg hd))
      rw [← hE] at HLS
      have hEb : 0 ≤ E ∧ E ≤ 100000 := by omega
      clear hE HENk HLO'
      clear b0 b1 b2
      obtain ⟨b0, b1, b2⟩ := ((H0.out.1.below hb).below hb4).cells
      have hBr4 : B < w4.heap.size := by have := hb4.size; omega
      go_wp2_with fail
      refine (HEE.out _ hb4).mono ?_; rintro e w5 ⟨rfl, hb5⟩
      have hb45 := hb4.trans (hb5.mono hb4.size)
      have HR5 := Lib.hid (HROW.out.below hb45)
      have HB5 := Lib.hid (hb.trans (hb45.mono hbz))
      have hg5 : g1 < w5.heap.size := by have := hb45.size; omega
      clear HROW HEE hb4 hb5 hb45 b0 b1 b2 c0 c1' c2 c3 c4 c5 hce'
      obtain ⟨h, hh0⟩ : ∃ h, h = (l.take k).foldl (oneT zs x pl[f] g) g := ⟨_, rfl⟩
      rw [← hh0] at HR5 HF
      have HHE := Lib.hid hh0; clear hh0
      have hc := HR5.out.get jb (by rw [listT_len]; exact hjbl)
      rw [listT_get, HJB.out] at hc
      have hfz := HR5.out.free jb
      cases hh : h y.t with
      | none =>
       rw [hh] at hc
       simp only [Option.getD_none] at hc
       have HN := Lib.hid (oneT_put (h := h) HLS.out (fun b hb => by rw [hh] at hb; cases hb))
       go_wp2
       go_roundw
       case rel => exact ⟨k + 1, by omega, by go_num, by rw [HF.out, HN.out, ← HJB.out, ← listT_put HND.out h jb hjbl E]; exact HR5.out.put jb E, HB5.out.setCell hg1 _⟩
       case measure => simp [intOf]; omega
      | some e0 =>
       rw [hh] at hc
       simp only [Option.getD_some] at hc
       have he0 : 0 ≤ e0 := HHB.out k _ _ (by rw [← HHE.out]; exact hh)
       by_cases hlt0 : E < e0
       ·have HN := Lib.hid (oneT_put (h := h) HLS.out (fun b hb => by rw [hh] at hb; cases hb; exact hlt0))
        go_wp2
        go_roundw
        case rel => exact ⟨k + 1, by omega, by go_num, by rw [HF.out, HN.out, ← HJB.out, ← listT_put HND.out h jb hjbl E]; exact HR5.out.put jb E, HB5.out.setCell hg1 _⟩
        case measure => simp [intOf]; omega
       ·have HN := Lib.hid (oneT_keep HLS.out hh hlt0)
        go_wp2
        go_roundw
        case rel => exact ⟨k + 1, by omega, by go_num, by rw [HF.out, HN.out]; exact HR5.out, HB5.out⟩
        case measure => simp [intOf]; omega
    ·have hjf : ¬ (ja : Int) = (f : Int) := fun e => hyf (HFE.out.1 e)
     have hjq : ((ja : Int) == (f : Int)) = false := by simpa using hjf
     have HRDk := Lib.hid (fun W => by
      have h := HRD.out a false W (by omega)
      exact h)
     have HNXr := Lib.hid (fun W h1 h2 => by
      have h := HNXk.out (a + x) W h1 h2
      rw [show firstD (nextP y zs (a + x)) 61 = onD zs x pl[f] g y from by rw [onD_some hgy, show readyI x pl[f] y.f a = a + x from if_neg hyf]] at h
      exact h)
     clear HRD HNXk
     have hob := HOB.out
     have HLO' := Lib.hid HLO.out
     clear HLO HOB hyf
     generalize onD zs x pl[f] g y = d at *
     go_wp2_with fail
     refine wp_region_far (by kernel_rfl) (by kernel_rfl) ?_
     repeat (any_goals (first | go_big_quiet_step ((first | (go_at_call 165; with_reducible exact call_far (HRDk.out _)) | (go_at_call 164; with_reducible exact call_far (HNXr.out _ (HA1.out.below (below_far _ _)) (HD1.out.below (below_far _ _)))))) | quiet_step ((first | (go_at_call 165; with_reducible exact call_far (HRDk.out _)) | (go_at_call 164; with_reducible exact call_far (HNXr.out _ (HA1.out.below (below_far _ _)) (HD1.out.below (below_far _ _))))))))
     refine wpQuiet_nil ?_; intro w4 hw4
     have hb4 : Below w3.heap.size w3 w4 := by obtain ⟨u, rfl⟩ := hw4; exact below_far w3 u
     clear hw4 HRDk HNXr HFb0 HFb1 HFb2 HFe
     by_cases hd : d < 0
     ·have HN := Lib.hid (oneT_none (h := (l.take k).foldl (oneT zs x pl[f] g) g) (HLO'.out.trans (if_pos hd)))
      go_wp2
      go_roundw
      case rel => exact ⟨k + 1, by omega, by go_num, by rw [HF.out, HN.out]; exact HROW.out.below hb4, hb.trans (hb4.mono hbz)⟩
      case measure => simp [intOf]; omega
     ·have hdb : 0 ≤ d ∧ d ≤ 60 := by omega
      obtain ⟨E, hE⟩ : ∃ E, E = d * 1440 + y.s + y.k := ⟨_, rfl⟩
      have HEE := Lib.hid (fun W' (h : Below w3.heap.size w3 W') => by
       have h := HENk.out d W' (HA1.out.below h) (HD1.out.below h) hdb
       rw [← hE] at h
       exact h)
      have HLS := Lib.hid (HLO'.out.trans (if_neg hd))
      rw [← hE] at HLS
      have hEb : 0 ≤ E ∧ E ≤ 100000 := by omega
      clear hE HENk HLO'
      clear b0 b1 b2
      obtain ⟨b0, b1, b2⟩ := ((H0.out.1.below hb).below hb4).cells
      have hBr4 : B < w4.heap.size := by have := hb4.size; omega
      go_wp2_with fail
      refine (HEE.out _ hb4).mono ?_; rintro e w5 ⟨rfl, hb5⟩
      have hb45 := hb4.trans (hb5.mono hb4.size)
      have HR5 := Lib.hid (HROW.out.below hb45)
      have HB5 := Lib.hid (hb.trans (hb45.mono hbz))
      have hg5 : g1 < w5.heap.size := by have := hb45.size; omega
      clear HROW HEE hb4 hb5 hb45 b0 b1 b2 c0 c1' c2 c3 c4 c5 hce'
      obtain ⟨h, hh0⟩ : ∃ h, h = (l.take k).foldl (oneT zs x pl[f] g) g := ⟨_, rfl⟩
      rw [← hh0] at HR5 HF
      have HHE := Lib.hid hh0; clear hh0
      have hc := HR5.out.get jb (by rw [listT_len]; exact hjbl)
      rw [listT_get, HJB.out] at hc
      have hfz := HR5.out.free jb
      cases hh : h y.t with
      | none =>
       rw [hh] at hc
       simp only [Option.getD_none] at hc
       have HN := Lib.hid (oneT_put (h := h) HLS.out (fun b hb => by rw [hh] at hb; cases hb))
       go_wp2
       go_roundw
       case rel => exact ⟨k + 1, by omega, by go_num, by rw [HF.out, HN.out, ← HJB.out, ← listT_put HND.out h jb hjbl E]; exact HR5.out.put jb E, HB5.out.setCell hg1 _⟩
       case measure => simp [intOf]; omega
      | some e0 =>
       rw [hh] at hc
       simp only [Option.getD_some] at hc
       have he0 : 0 ≤ e0 := HHB.out k _ _ (by rw [← HHE.out]; exact hh)
       by_cases hlt0 : E < e0
       ·have HN := Lib.hid (oneT_put (h := h) HLS.out (fun b hb => by rw [hh] at hb; cases hb; exact hlt0))
        go_wp2
        go_roundw
        case rel => exact ⟨k + 1, by omega, by go_num, by rw [HF.out, HN.out, ← HJB.out, ← listT_put HND.out h jb hjbl E]; exact HR5.out.put jb E, HB5.out.setCell hg1 _⟩
        case measure => simp [intOf]; omega
       ·have HN := Lib.hid (oneT_keep HLS.out hh hlt0)
        go_wp2
        go_roundw
        case rel => exact ⟨k + 1, by omega, by go_num, by rw [HF.out, HN.out]; exact HR5.out, HB5.out⟩
        case measure => simp [intOf]; omega
  ·obtain rfl : k = l.length := by omega
   go_wp2
   go_ret
   exact ⟨_, rfl, by have h := HROW.out; rw [List.take_length] at h; rw [HBE.out]; have h2 := OwnI.mono h (Nat.le_of_lt hWB); unfold RowI at h; rw [listT_len] at h2; exact h2, by rw [HBE.out]; exact HBW.out⟩
end Go.Proofs.YtinijleelhbpoaaGreat

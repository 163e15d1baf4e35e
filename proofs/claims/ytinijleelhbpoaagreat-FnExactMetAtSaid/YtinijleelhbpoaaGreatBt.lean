/- Several texts in one: ScSrI ScSrS ScanMk ScSrL. -/
import Derived.Test.YtinijleelhbpoaaGreatBs
import Derived.Test.YtinijleelhbpoaaGreatBh
import Derived.Test.YtinijleelhbpoaaGreatBg
import Derived.Maps.AppendAt
import Derived.Test.YtinijleelhbpoaaGreatBa
import Derived.Deep.RegionHeld3
import Derived.Test.YtinijleelhbpoaaGreatMark
import Derived.Test.YtinijleelhbpoaaGreatMarkN
import Derived.Test.YtinijleelhbpoaaGreatMkB
import Derived.BigQuiet
/- impl.SortScans. -/
namespace Go.Proofs.YtinijleelhbpoaaGreat
open Go.RowKit
/-- the valid ones among the first 200 -/
def validB (l : List Lg) (zs : List Int) (x : Int) (ls : List Sc) : List Sc := (ls.take 200).filter fun r => scB l zs x r
def sortV (l : List Lg) (zs : List Int) (x : Int) (ls : List Sc) : List Sc := dedB (sortSc (validB l zs x ls))
def validU (l : List Lg) (zs : List Int) (x : Int) (ls : List Sc) (k : Nat) : List Sc := (ls.take k).filter fun r => scB l zs x r
theorem validU_len {l : List Lg} {zs : List Int} {x : Int} {ls : List Sc} {k : Nat} : (validU l zs x ls k).length ≤ k :=
 Nat.le_trans (List.length_filter_le _ _) (by rw [List.length_take]; omega)
theorem validU_yes {l : List Lg} {zs : List Int} {x : Int} {ls : List Sc} {k : Nat} (hk : k < ls.length) (h : scB l zs x ls[k] = true) : validU l zs x ls (k + 1) = validU l zs x ls k ++ [ls[k]] := by
 unfold validU
 rw [List.take_succ_eq_append_getElem hk, List.filter_append]
 simp [h]
theorem validU_no {l : List Lg} {zs : List Int} {x : Int} {ls : List Sc} {k : Nat} (hk : k < ls.length) (h : scB l zs x ls[k] = false) : validU l zs x ls (k + 1) = validU l zs x ls k := by
 unfold validU
 rw [List.take_succ_eq_append_getElem hk, List.filter_append]
 simp [h]
theorem validU_all {l : List Lg} {zs : List Int} {x : Int} {ls : List Sc} {k : Nat} (hk : k = min ls.length 200) : validU l zs x ls k = validB l zs x ls := by
 unfold validU validB
 by_cases h : ls.length ≤ 200
 ·rw [List.take_of_length_le (by omega), List.take_of_length_le h]
 ·rw [show k = 200 by omega]
theorem RowC.of {w : World} {b n : Nat} {v : Value} {l : List Sc} (h : w.ownsRow b 34 6 v n (l.flatMap scC)) (hn : l.length = n) (hv : v ≠ .slice none 0 0) : ∃ g c, v = .slice (some ⟨g, 0, none⟩) n c ∧ RowC w b g c l := by
 subst hn; exact rowC_of h hv
theorem RowC.low {w : World} {b g c : Nat} {l : List Sc} (h : RowC w b g c l) : b ≤ g ∧ g < w.heap.size := World.ownsRow.lt h g rfl
set_option maxRecDepth 100000 in
set_option maxHeartbeats 400000 in
theorem sort_impl (A : Option Addr) (ca : Nat) (l : List Lg) (D : Option Addr) (cd : Nat) (zs : List Int) (x : Int) (E : Option Addr) (ce : Nat) (ls : List Sc) (w : World) (hA : InK 6 lgC w A l) (hD : IntsIn w D zs) (hs : ∀ z ∈ l, z.f.size ≤ maxLen ∧ z.t.size ≤ maxLen) (hn : l.length ≤ 1048576) (hm : zs.length ≤ 1048576) (hE : InK 6 scC w E ls) (hk : ls.length ≤ 1048576) (hce : ls.length ≤ ce) :
  Calls Tryz.prog 17 #[.agg #[.slice A l.length ca, .slice D zs.length cd, .int .i64 x], .slice E ls.length ce] w fun e w' => ∃ G c, e = .returned (.slice (some ⟨G, 0, none⟩) (sortV l zs x ls).length c) ∧ RowC w' w.heap.size G c (sortV l zs x ls) ∧ Below w.heap.size w w' := by
 have HI := Lib.hid (fun (y : Sc) W (h1 : InK 6 lgC W A l) (h2 : IntsIn W D zs) => is_sc y.h y.a y.k y.p y.g y.d A ca l D cd zs x W h1 h2 hs hn hm)
 obtain ⟨i0, hi0, hz0, hz1, hz2⟩ := info_parts sc_info
 have HA := Lib.hid hA; have HD := Lib.hid hD; have HE := Lib.hid hE; clear hA hD hE hs
 obtain ⟨m, hmm⟩ : ∃ m, m = min ls.length 200 := ⟨_, rfl⟩
 have hm1 : min (ls.length : Int) 200 = (m : Int) := by omega
 have hm2 : ((m : Int)).toNat = m := Int.toNat_natCast m
 have hm3 : max (m : Int) 0 = (m : Int) := by omega
 have hml : m ≤ ls.length := by omega
 have hm200 : m ≤ 200 := by omega
 generalize hB : w.heap.size = B at *
 have hNB : Box3 27 (w.alloc (.cells #[.slice A l.length ca, .slice D zs.length cd, .int .i64 x] 27)) B (.slice A l.length ca) (.slice D zs.length cd) (.int .i64 x) := by rw [← hB]; exact Box3.new w
 have hw1 : Below B w (w.alloc (.cells #[.slice A l.length ca, .slice D zs.length cd, .int .i64 x] 27)) := (Below.refl B w).alloc (by omega) _
 have hz : (w.alloc (.cells #[.slice A l.length ca, .slice D zs.length cd, .int .i64 x] 27)).heap.size = B + 1 := by rw [World.size_alloc, hB]
 have HBE := Lib.hid hB
 go_enter Tryz.func17, Tryz.ntmps17
 go_wp2
 clear hB
 rw [← hmm]
 have HMM := Lib.hid hmm; clear hmm hm1 hm2 hm3
 generalize w.alloc (.cells #[.slice A l.length ca, .slice D zs.length cd, .int .i64 x] 27) = w1 at *
 have HR0 : RowC (w1.alloc (.cells #[] 34)) (B + 1) (B + 1) 0 (validU l zs x ls 0) := by
  have h := World.ownsRow_made (e := 34) (size := 6) (base := B + 1) w1 #[] 0 (by omega) (Nat.zero_le _) rfl
  rw [hz] at h
  exact h
 have hb0 : Below B w (w1.alloc (.cells #[] 34)) := hw1.alloc (by omega) _
 have HN0 := Lib.hid (hNB.below ((Below.refl _ _).alloc (Nat.le_refl _) (.cells #[] 34)))
 have hsz0 : B + 2 ≤ (w1.alloc (.cells #[] 34)).heap.size := by rw [World.size_alloc]; omega
 clear hNB hw1
 go_loopw [15, 5] (fun i v wr => ∃ k G c : Nat, i = .int .i64 k ∧ k ≤ m ∧ v = .slice (some ⟨G, 0, none⟩) (validU l zs x ls k).length c ∧ Hid (RowC wr (B + 1) G c (validU l zs x ls k)) ∧ Hid (Below B w wr) ∧ Hid (Box3 27 wr B (.slice A l.length ca) (.slice D zs.length cd) (.int .i64 x)) ∧ B + 1 ≤ wr.heap.size) (fun i _ _ => m - (intOf i).toNat)
 case atStart => exact ⟨0, B + 1, 0, rfl, by omega, rfl, Lib.hid HR0, Lib.hid hb0, HN0, by omega⟩
 case round =>
  obtain ⟨k, G, c, rfl, hkm, rfl, hrw, hbw, hnw, hsz⟩ := hrel
  obtain ⟨n0, n1, n2⟩ := hnw.out.cells
  have hBlt : B < wr.heap.size := by omega
  by_cases hlt : (k : Int) < (m : Int)
  ·have hkl : k < ls.length := by omega
   have hb' : Below w.heap.size w wr := by rw [HBE.out]; exact hbw.out
   obtain ⟨g0, e0, hg0, c0, c1, c2, c3, c4, c5⟩ := (HE.out.below hb').sc k hkl
   have HAr := Lib.hid (HA.out.below hb'); have HDr := Lib.hid (HD.out.below hb')
   clear hb'
   subst e0
   have HY := Lib.hid (validU_yes (l := l) (zs := zs) (x := x) hkl)
   have HN := Lib.hid (validU_no (l := l) (zs := zs) (x := x) hkl)
   have hvl := validU_len (l := l) (zs := zs) (x := x) (ls := ls) (k := k)
   generalize ls[k] = y at c0 c1 c2 c3 c4 c5 HY HN
   have hkI : (k : Int) < (ls.length : Int) := by omega
   go_wp2_with fail
   refine (HI.out y _ (HAr.out.below ((Below.refl _ _).alloc (Nat.le_refl _) _)) (HDr.out.below ((Below.refl _ _).alloc (Nat.le_refl _) _))).mono ?_
   rintro e w5 ⟨rfl, hb5⟩
   have hbx := (BoxS.new wr).below hb5
   have hb' := al_below hb5
   obtain ⟨s0, s1, s2, s3, s4, s5⟩ := hbx.cells
   have hwlt : wr.heap.size < w5.heap.size := hbx.lt
   have HR5 := Lib.hid (OwnK.below hrw.out hb')
   have HN5 := Lib.hid (hnw.out.below hb')
   have HB5 := Lib.hid (hbw.out.trans (hb'.mono (by omega)))
   clear hb5 hbx hb' c0 c1 c2 c3 c4 c5 n0 n1 n2 HAr HDr hrw hnw hbw
   rw [show scB l zs x ⟨y.h, y.a, y.k, y.p, y.g, y.d⟩ = scB l zs x y from rfl]
   cases hq : scB l zs x y with
   | true =>
    have HV := Lib.hid (HY.out hq)
    clear HY HN hq
    have hmx : (validU l zs x ls k).length + 1 ≤ maxLen := by unfold maxLen; omega
    have hmb : ((validU l zs x ls k).length + 1) * 56 ≤ 140737488355328 := by omega
    go_wp2_with (at_builtin; refine wpList_append_own_at _ rfl (.tmp 22) (.tmp 24) 28 rfl (B + 1) 34 i0 _ 6 56 Tryz.underlying28 hi0 hz0 hz1 hz2 rfl (by omega) _ _ _ rfl (HR5.out.alloc _) ⟨w5.heap.size, 0, none⟩ 1 1 (scC y) rfl rfl (World.news_of_block (cs := #[.int .i64 y.h, .int .i64 y.a, .int .i64 y.k, .string y.p, .int .i64 y.g, .int .i64 y.d]) (t := 34) (fr := (0, 0)) (heap_alloc_new w5 _)) (one_sc y) hmx hmb (by rw [World.size_alloc]; omega) ?_; intro v' w6 hown hgr hnil _; obtain ⟨G2, c2, rfl, hr6⟩ := RowC.of (l := validU l zs x ls k ++ [y]) (by rw [List.flatMap_append, List.flatMap_singleton]; exact hown) (by simp) (fun e => by have := (hnil.1 e).1; cases this))
    have hlow := RowC.low HR5.out
    have HB6 := Lib.hid ((HB5.out.alloc (by omega) (.cells #[.int .i64 y.h, .int .i64 y.a, .int .i64 y.k, .string y.p, .int .i64 y.g, .int .i64 y.d] 34)).grown hgr (by rw [World.size_alloc]; omega) (fun q e => by cases e; exact (show B ≤ G by omega)))
    have HN6 := Lib.hid (((HN5.out.below ((Below.refl _ _).alloc (Nat.le_refl _) (.cells #[.int .i64 y.h, .int .i64 y.a, .int .i64 y.k, .string y.p, .int .i64 y.g, .int .i64 y.d] 34)))).apart hgr (fun e => by have e2 : B = G := Option.some.inj e; omega))
    have hz6 := hgr.size
    rw [World.size_alloc] at hz6
    go_roundw
    case rel => exact ⟨k + 1, G2, c2, by go_num, by omega, by rw [HV.out, List.length_append]; rfl, Lib.hid (by rw [HV.out]; exact hr6), HB6, HN6, by omega⟩
    case measure => simp [intOf]; omega
   | false =>
    have HV := Lib.hid (HN.out hq)
    clear HY HN hq
    go_wp2
    go_roundw
    case rel => exact ⟨k + 1, G, c, by go_num, by omega, by rw [HV.out], Lib.hid (by rw [HV.out]; exact HR5.out), HB5, HN5, by omega⟩
    case measure => simp [intOf]; omega
  ·obtain rfl : k = m := by omega
   have HV := Lib.hid (validU_all (l := l) (zs := zs) (x := x) HMM.out)
   clear n0 n1 n2
   have hvl := validU_len (l := l) (zs := zs) (x := x) (ls := ls) (k := k)
   go_wp2_with fail
   rw [HV.out] at hrw hvl ⊢
   have HSV := Lib.hid (show sortV l zs x ls = dedB (sortSc (validB l zs x ls)) from rfl)
   have hsl := sortSc_len (validB l zs x ls)
   have HRW := Lib.hid (OwnK.mono hrw.out (show B ≤ B + 1 by omega))
   clear hrw HV
   generalize validB l zs x ls = V at *
   refine (sort_scs HRW.out (by omega)).mono ?_
   rintro e w2 ⟨rfl, ho2, hg2⟩
   have HB2 := Lib.hid (hbw.out.grown hg2 (by omega) (fun q e => by cases e; exact (RowC.low HRW.out).1))
   have HR2 := Lib.hid (show RowC w2 B G c (sortSc V) from by unfold RowC; rw [hsl]; exact ho2)
   have hs2 := hg2.size
   clear ho2 hg2
   rw [← hsl]
   have hsm : (sortSc V).length ≤ 1048576 := by omega
   clear hsl hvl
   generalize sortSc V = S at *
   go_wp2_with fail
   refine (comp_sc B G c S w2 HR2.out hsm).mono ?_
   rintro e w3 ⟨rfl, hr3, hg3⟩
   have HR3 := Lib.hid hr3
   have HB3 := Lib.hid (HB2.out.grown hg3 (by omega) (fun q e => by cases e; exact (RowC.low HR2.out).1))
   clear hr3 hg3 hs2
   go_wp2
   go_ret
   rw [HSV.out]
   exact ⟨G, c, rfl, HR3.out, HB3.out⟩
end Go.Proofs.YtinijleelhbpoaaGreat

/- spec.SortScans. Written by mk/scsrs.py. -/
namespace Go.Proofs.YtinijleelhbpoaaGreat
open Go.RowKit
theorem add_lit (g o j : Nat) : (⟨g, o, none⟩ : Addr).add j = ⟨g, o + j, none⟩ := by unfold Addr.add; split <;> simp_all
theorem flatD {α : Type} {enc : α → List Value} {m : Nat} (hk : ∀ a, (enc a).length = m) (l : List α) (i : Nat) (h : i ≤ l.length) : (l.flatMap enc).drop (i * m) = (l.drop i).flatMap enc := by
 have h1 : l.flatMap enc = (l.take i).flatMap enc ++ (l.drop i).flatMap enc := by rw [← List.flatMap_append, List.take_append_drop]
 rw [h1, List.drop_left' (by rw [flat_len hk, List.length_take, Nat.min_eq_left h])]
theorem scs_news {w : World} {b g c : Nat} {l : List Sc} (h : RowC w b g c l) : ∀ j u, (l.flatMap scC)[j]? = some u → w.cell? ((⟨g, 0, none⟩ : Addr).add j) = some u := by
 intro j u hu
 rcases h.2 with ⟨e, _⟩ | ⟨g', cap, cur, e, hb, hg, hnc, hcm, hcs, htk⟩
 ·cases e
 ·cases e
  have hj : j < l.length * 6 := by
   have := (List.getElem?_eq_some_iff.1 hu).1
   rwa [flat_len scC_len] at this
  rw [← htk, List.getElem?_take_of_lt hj, Array.getElem?_toList] at hu
  rw [add_lit, Nat.zero_add, cell_of_row w g j _ _ _ hg, hu]
theorem scs_take {w : World} {b g c k : Nat} {l : List Sc} (h : RowC w b g c l) (hk : k ≤ l.length) : ∀ j u, ((l.take k).flatMap scC)[j]? = some u → w.cell? ((⟨g, 0, none⟩ : Addr).add j) = some u := by
 intro j u hu
 have hj := (List.getElem?_eq_some_iff.1 hu).1
 rw [flat_len scC_len, List.length_take, Nat.min_eq_left hk] at hj
 rw [← flatTake scC_len l k hk, List.getElem?_take_of_lt hj] at hu
 exact scs_news h _ _ hu
theorem scs_rest {w : World} {b g c : Nat} {l : List Sc} (h : RowC w b g c l) (k : Nat) (hk : k ≤ l.length) : ∀ j u, ((l.drop k).flatMap scC)[j]? = some u → w.cell? ((⟨g, k * 6, none⟩ : Addr).add j) = some u := by
 intro j u hu
 rw [← flatD scC_len l k hk, List.getElem?_drop] at hu
 have := scs_news h _ _ hu
 rw [add_lit] at this ⊢
 rwa [Nat.zero_add] at this
theorem own_nilS {W : World} {b X : Nat} (hb : b ≤ X) (h : W.heap[X]? = some (.cells #[] 34 (0, 0))) : W.ownsRow b 34 6 (.slice (some ⟨X, 0, none⟩) 0 0) 0 [] :=
 ⟨rfl, .inr ⟨X, 0, #[], rfl, hb, h, Nat.le_refl _, Nat.zero_le _, rfl, rfl⟩⟩
theorem RowC.own {w : World} {b g c n : Nat} {l : List Sc} (h : RowC w b g c l) (hn : l.length = n) : w.ownsRow b 34 6 (.slice (some ⟨g, 0, none⟩) n c) n (l.flatMap scC) := by subst hn; exact h
theorem row_cap {w : World} {b g c : Nat} {l : List Sc} (h : RowC w b g c l) : l.length ≤ c ∧ c ≤ maxLen := by
 rcases h.2 with ⟨e, _⟩ | ⟨g', cap, cur, e, hb, hg, hnc, hcm, _⟩
 ·cases e
 ·cases e; exact ⟨hnc, hcm⟩

/-- what stands in the answer so far: the valid ones, in order, each once -/
structure InsS (O V : List Sc) : Prop where
 up : UpSc O
 mem : ∀ y, y ∈ O ↔ y ∈ V
theorem InsS.same {O V : List Sc} {y : Sc} {p : Nat} (h : InsS O V) (hp : p < O.length) (e : O[p] = y) : InsS O (V ++ [y]) :=
 ⟨h.up, fun z => by
  rw [h.mem, List.mem_append, List.mem_singleton]
  constructor
  ·exact .inl
  ·rintro (q | rfl)
   ·exact q
   ·exact (h.mem _).1 (e ▸ List.getElem_mem hp)⟩
theorem InsS.put {O V : List Sc} {y : Sc} {p : Nat} (h : InsS O V) (hp : p ≤ O.length) (h1 : ∀ j (_ : j < p) (hj : j < O.length), cmpSc O[j] y < 0) (h2 : ∀ q : p < O.length, 0 < cmpSc O[p] y) : InsS (O.take p ++ y :: O.drop p) (V ++ [y]) :=
 ⟨up_ins h.up hp h1 h2, fun z => by
  rw [mem_ins, h.mem, List.mem_append, List.mem_singleton]
  exact Or.comm⟩
theorem InsS.done {O V : List Sc} (h : InsS O V) : O = dedB (sortSc V) :=
 up_uniq h.up (ded_sort V).1 fun y => by rw [h.mem, (ded_sort V).2]
set_option maxRecDepth 100000 in
set_option maxHeartbeats 16000000 in
theorem sort_spec (A : Option Addr) (ca : Nat) (l : List Lg) (D : Option Addr) (cd : Nat) (zs : List Int) (x : Int) (E : Option Addr) (ce : Nat) (ls : List Sc) (w : World) (hA : InK 6 lgC w A l) (hD : IntsIn w D zs) (hs : ∀ z ∈ l, z.f.size ≤ maxLen ∧ z.t.size ≤ maxLen) (hn : l.length ≤ 1048576) (hm : zs.length ≤ 1048576) (hE : InK 6 scC w E ls) (hk : ls.length ≤ 1048576) :
  Calls Tryz.prog 18 #[.agg #[.slice A l.length ca, .slice D zs.length cd, .int .i64 x], .slice E ls.length ce] w fun e w' => ∃ G c, e = .returned (.slice (some ⟨G, 0, none⟩) (sortV l zs x ls).length c) ∧ RowC w' w.heap.size G c (sortV l zs x ls) ∧ Below w.heap.size w w' := by
 have HI := Lib.hid (fun (y : Sc) W (h1 : InK 6 lgC W A l) (h2 : IntsIn W D zs) => is_sc_spec y.h y.a y.k y.p y.g y.d A ca l D cd zs x W h1 h2 hs hn hm)
 have HCS := Lib.hid (fun (a b : Sc) W => cmp_sc_spec a.h a.a a.k a.p a.g a.d b.h b.a b.k b.p b.g b.d W)
 obtain ⟨i0, hi0, hz0, hz1, hz2⟩ := info_parts sc_info
 have HI0 := Lib.hid (And.intro hi0 (And.intro hz0 (And.intro hz1 hz2)))
 clear hi0 hz0 hz1 hz2
 have HA := Lib.hid hA; have HD := Lib.hid hD; have HE := Lib.hid hE; clear hA hD hE hs
 generalize hB : w.heap.size = B at *
 have hNB : Box3 27 (w.alloc (.cells #[.slice A l.length ca, .slice D zs.length cd, .int .i64 x] 27)) B (.slice A l.length ca) (.slice D zs.length cd) (.int .i64 x) := by rw [← hB]; exact Box3.new w
 have hw1 : Below B w (w.alloc (.cells #[.slice A l.length ca, .slice D zs.length cd, .int .i64 x] 27)) := (Below.refl B w).alloc (by omega) _
 have hz : (w.alloc (.cells #[.slice A l.length ca, .slice D zs.length cd, .int .i64 x] 27)).heap.size = B + 1 := by rw [World.size_alloc, hB]
 have HBE := Lib.hid hB
 go_enter Tryz.func18, Tryz.ntmps18
 go_wp2
 clear hB
 generalize w.alloc (.cells #[.slice A l.length ca, .slice D zs.length cd, .int .i64 x] 27) = w1 at *
 have HR0 : RowC (w1.alloc (.cells #[] 34)) (B + 1) (B + 1) 0 [] := by
  have h := World.ownsRow_made (e := 34) (size := 6) (base := B + 1) w1 #[] 0 (by omega) (Nat.zero_le _) rfl
  rw [hz] at h
  exact h
 have hb0 : Below B w (w1.alloc (.cells #[] 34)) := hw1.alloc (by omega) _
 have HN0 := Lib.hid (hNB.below ((Below.refl _ _).alloc (Nat.le_refl _) (.cells #[] 34)))
 have hsz0 : B + 2 ≤ (w1.alloc (.cells #[] 34)).heap.size := by rw [World.size_alloc]; omega
 clear hNB hw1
 go_loopw [6, 5] (fun i v wr => ∃ (k G c : Nat) (O : List Sc), i = .int .i64 k ∧ k ≤ ls.length ∧ k ≤ 200 ∧ v = .slice (some ⟨G, 0, none⟩) O.length c ∧ Hid (InsS O (validU l zs x ls k)) ∧ Hid (RowC wr (B + 1) G c O) ∧ Hid (Below B w wr) ∧ Hid (Box3 27 wr B (.slice A l.length ca) (.slice D zs.length cd) (.int .i64 x)) ∧ B + 1 ≤ wr.heap.size ∧ O.length ≤ k) (fun i _ _ => 200 - (intOf i).toNat)
 case atStart => exact ⟨0, B + 1, 0, [], rfl, by omega, by omega, rfl, Lib.hid ⟨List.Pairwise.nil, fun _ => Iff.rfl⟩, Lib.hid HR0, Lib.hid hb0, HN0, by omega, Nat.le_refl _⟩
 case round =>
  clear HR0 hb0 HN0 hsz0 hz
  obtain ⟨k, G, c, O, rfl, hkm, hk2, rfl, hin, hrw, hbw, hnw, hsz, hOk⟩ := hrel
  obtain ⟨n0, n1, n2⟩ := hnw.out.cells
  have hBlt : B < wr.heap.size := by omega
  by_cases hlt : (k : Int) < (ls.length : Int)
  ·by_cases h200 : (k : Int) < 200
   ·have hkl : k < ls.length := by omega
    have hb' : Below w.heap.size w wr := by rw [HBE.out]; exact hbw.out
    have HEr := Lib.hid (HE.out.below hb')
    obtain ⟨g0, e0, hg0, c0, c1, c2, c3, c4, c5⟩ := HEr.out.sc k hkl
    have HAr := Lib.hid (HA.out.below hb'); have HDr := Lib.hid (HD.out.below hb')
    clear hb'
    subst e0
    have HY := Lib.hid (validU_yes (l := l) (zs := zs) (x := x) hkl)
    have HN := Lib.hid (validU_no (l := l) (zs := zs) (x := x) hkl)
    have HC := Lib.hid (fun W (hb : Below w.heap.size w W) => (HE.out.below hb).sc k hkl)
    generalize ls[k] = y at c0 c1 c2 c3 c4 c5 HY HN HC
    have HIF := Lib.hid (fun u => HI.out y (far wr u) (HAr.out.below (below_far wr u)) (HDr.out.below (below_far wr u)))
    have f0 := far_cell hg0 c0; have f1 := far_cell hg0 c1; have f2 := far_cell hg0 c2; have f3 := far_cell hg0 c3; have f4 := far_cell hg0 c4; have f5 := far_cell hg0 c5
    have q0 := far_cell hBlt n0; have q1 := far_cell hBlt n1; have q2 := far_cell hBlt n2
    simp only [show scB l zs x ⟨y.h, y.a, y.k, y.p, y.g, y.d⟩ = scB l zs x y from rfl] at HIF
    cases hq : scB l zs x y with
    | false =>
     rw [hq] at HIF
     have HV := Lib.hid (HN.out hq)
     clear HY HN hq n0 n1 n2 c0 c1 c2 c3 c4 c5
     go_wp2
     refine wp_region_far (by kernel_rfl) (by kernel_rfl) ?_
     repeat (any_goals (first | go_big_quiet_step (((go_at_call 77; with_reducible exact call_far (HIF.out _)))) | quiet_step (((go_at_call 77; with_reducible exact call_far (HIF.out _))))))
     refine wpQuiet_nil ?_; intro w3 hw3
     have hbw3 : Below wr.heap.size wr w3 := by obtain ⟨u, rfl⟩ := hw3; exact below_far wr u
     have HR5 := Lib.hid (OwnK.below hrw.out hbw3)
     have HN5 := Lib.hid (hnw.out.below hbw3)
     have HB5 := Lib.hid (hbw.out.trans (hbw3.mono (by omega)))
     have hs5 := hbw3.size
     clear hw3 hbw3 f0 f1 f2 f3 f4 f5 q0 q1 q2
     go_wp2
     go_roundw
     case rel => exact ⟨k + 1, G, c, O, by go_num, by omega, by omega, rfl, Lib.hid (by rw [HV.out]; exact hin.out), HR5, HB5, HN5, by omega, by omega⟩
     case measure => simp [intOf]; omega
    | true =>
     rw [hq] at HIF
     have HV := Lib.hid (HY.out hq)
     clear HY HN hq n0 n1 n2 c0 c1 c2 c3 c4 c5
     go_wp2
     refine wp_region_far (by kernel_rfl) (by kernel_rfl) ?_
     repeat (any_goals (first | go_big_quiet_step (((go_at_call 77; with_reducible exact call_far (HIF.out _)))) | quiet_step (((go_at_call 77; with_reducible exact call_far (HIF.out _))))))
     refine wpQuiet_nil ?_; intro w3 hw3
     have hbw3 : Below wr.heap.size wr w3 := by obtain ⟨u, rfl⟩ := hw3; exact below_far wr u
     have HR5 := Lib.hid (OwnK.below hrw.out hbw3)
     have HN5 := Lib.hid (hnw.out.below hbw3)
     have HB5 := Lib.hid (hbw.out.trans (hbw3.mono (by omega)))
     have hs5 := hbw3.size
     clear hw3 hbw3 f0 f1 f2 f3 f4 f5 q0 q1 q2 HIF HEr HAr HDr hrw hnw hbw
     go_wp2
     go_loopw [7] (fun pv wr2 => ∃ p : Nat, pv = .int .i64 p ∧ p ≤ O.length ∧ Hid (∀ j (_ : j < p) (hj : j < O.length), cmpSc O[j] y < 0) ∧ Hid (RowC wr2 (B + 1) G c O) ∧ Hid (Below B w wr2) ∧ Hid (Box3 27 wr2 B (.slice A l.length ca) (.slice D zs.length cd) (.int .i64 x)) ∧ B + 1 ≤ wr2.heap.size) (fun pv _ => O.length - (intOf pv).toNat)
     case atStart => exact ⟨0, rfl, by omega, Lib.hid (fun j h => absurd h (by omega)), HR5, HB5, HN5, by omega⟩
     case round =>
      clear HR5 HB5 HN5 hs5
      obtain ⟨p, rfl, hp, hall, hrw, hbw, hnw, hsz2⟩ := hrel
      have hb' : Below w.heap.size w wr := by rw [HBE.out]; exact hbw.out
      obtain ⟨g0', e0, hg0, c0, c1, c2, c3, c4, c5⟩ := HC.out wr hb'
      cases e0
      clear hb'
      have f0 := far_cell hg0 c0; have f1 := far_cell hg0 c1; have f2 := far_cell hg0 c2; have f3 := far_cell hg0 c3; have f4 := far_cell hg0 c4; have f5 := far_cell hg0 c5
      clear c0 c1 c2 c3 c4 c5
      by_cases hpl : (p : Int) < (O.length : Int)
      ·have hp' : p < O.length := by omega
       obtain ⟨gG, eG, hgG, d0, d1, d2, d3, d4, d5⟩ := (ins_row hrw.out scC_len rfl).sc p hp'
       cases eG
       obtain ⟨z, hzO⟩ : ∃ z, O[p] = z := ⟨_, rfl⟩
       rw [hzO] at d0 d1 d2 d3 d4 d5
       have HZO := Lib.hid hzO; clear hzO
       have e0 := far_cell hgG d0; have e1 := far_cell hgG d1; have e2 := far_cell hgG d2; have e3 := far_cell hgG d3; have e4 := far_cell hgG d4; have e5 := far_cell hgG d5
       have HCF := Lib.hid (fun u => HCS.out z y (far wr u))
       simp only [show cmpSc ⟨z.h, z.a, z.k, z.p, z.g, z.d⟩ ⟨y.h, y.a, y.k, y.p, y.g, y.d⟩ = cmpSc z y from rfl] at HCF
       obtain ⟨R, hR⟩ : ∃ R, cmpSc z y = R := ⟨_, rfl⟩
       rw [hR] at HCF
       have HRE := Lib.hid hR; clear hR
       by_cases hc : R < 0
       ·clear d0 d1 d2 d3 d4 d5
        have HALL := Lib.hid (show ∀ j (_ : j < p + 1) (hj : j < O.length), cmpSc O[j] y < 0 from fun j hj hjl => by
         by_cases e : j = p
         ·subst e; rw [HZO.out, HRE.out]; exact hc
         ·exact hall.out j (by omega) hjl)
        clear hall
        go_wp2
        refine wp_region_far (by kernel_rfl) (by kernel_rfl) ?_
        repeat (any_goals (first | go_big_quiet_step (((go_at_call 78; with_reducible exact call_far (HCF.out _)))) | quiet_step (((go_at_call 78; with_reducible exact call_far (HCF.out _))))))
        refine wpQuiet_nil ?_; intro w3 hw3
        have hbw3 : Below wr.heap.size wr w3 := by obtain ⟨u, rfl⟩ := hw3; exact below_far wr u
        have HR5 := Lib.hid (OwnK.below hrw.out hbw3)
        have HN5 := Lib.hid (hnw.out.below hbw3)
        have HB5 := Lib.hid (hbw.out.trans (hbw3.mono (by omega)))
        have hs5 := hbw3.size
        clear hw3 hbw3 f0 f1 f2 f3 f4 f5 e0 e1 e2 e3 e4 e5 HCF hrw hnw hbw
        go_wp2
        go_roundw
        case rel => exact ⟨p + 1, by go_num, by omega, HALL, HR5, HB5, HN5, by omega⟩
        case measure => simp [intOf]; omega
       ·clear d0 d1 d2 d3 d4 d5
        go_wp2
        refine wp_region_far (by kernel_rfl) (by kernel_rfl) ?_
        repeat (any_goals (first | go_big_quiet_step (((go_at_call 78; with_reducible exact call_far (HCF.out _)))) | quiet_step (((go_at_call 78; with_reducible exact call_far (HCF.out _))))))
        refine wpQuiet_nil ?_; intro w3 hw3
        have hbw3 : Below wr.heap.size wr w3 := by obtain ⟨u, rfl⟩ := hw3; exact below_far wr u
        have HR5 := Lib.hid (OwnK.below hrw.out hbw3)
        have HN5 := Lib.hid (hnw.out.below hbw3)
        have HB5 := Lib.hid (hbw.out.trans (hbw3.mono (by omega)))
        have hs5 := hbw3.size
        have hg3 : g0 < w3.heap.size := by omega
        have hgG3 : G < w3.heap.size := by omega
        clear hw3 hbw3 f0 f1 f2 f3 f4 f5 e0 e1 e2 e3 e4 e5 HCF hrw hnw hbw
        have hb' : Below w.heap.size w w3 := by rw [HBE.out]; exact HB5.out
        obtain ⟨g0', e0, _, c0, c1, c2, c3, c4, c5⟩ := HC.out w3 hb'
        cases e0
        obtain ⟨gG, eG, _, d0, d1, d2, d3, d4, d5⟩ := (ins_row HR5.out scC_len rfl).sc p hp'
        cases eG
        rw [HZO.out] at d0 d1 d2 d3 d4 d5
        clear hb'
        have hNE := sc_neq z.h z.a z.k z.p z.g z.d y.h y.a y.k y.p y.g y.d
        rw [show eqSc ⟨z.h, z.a, z.k, z.p, z.g, z.d⟩ ⟨y.h, y.a, y.k, y.p, y.g, y.d⟩ = eqSc z y from rfl] at hNE
        have hpne : ¬ (p : Int) = (O.length : Int) := by omega
        cases hez : eqSc z y with
        | true =>
         rw [hez] at hNE
         have HIN := Lib.hid (show InsS O (validU l zs x ls (k + 1)) from by rw [HV.out]; exact hin.out.same hp' (HZO.out.trans (eqSc_iff.1 hez)))
         clear hez hall HV hin
         go_wp2_with fail
         go_quiet (fail)
         go_wp2
         go_roundw
         case rel => exact ⟨k + 1, G, c, O, by go_num, by omega, by omega, rfl, HIN, Lib.hid (rowC_drew HR5.out nq), Lib.hid (below_drewN HB5.out nq), Lib.hid (show Box3 27 (w3.drewN nq) B (.slice A l.length ca) (.slice D zs.length cd) (.int .i64 x) from HN5.out), by rw [show (w3.drewN nq).heap = w3.heap from rfl]; omega, by omega⟩
         case measure => simp [intOf]; omega
        | false =>
         rw [hez] at hNE
         have HIN := Lib.hid (show InsS (O.take p ++ y :: O.drop p) (validU l zs x ls (k + 1)) from by
          rw [HV.out]
          refine hin.out.put hp hall.out (fun _ => ?_)
          rw [HZO.out]
          have h1 : cmpSc z y ≠ 0 := fun e => by rw [eqSc_iff.2 (cmpSc_zero e)] at hez; cases hez
          have h2 := HRE.out
          omega)
         clear hez hall HV hin
         go_wp2_with fail
         go_quiet (fail)
         have HRV := Lib.hid (rowC_drew HR5.out nq)
         have HBV := Lib.hid (show Below B w (w3.drewN nq) from below_drewN HB5.out nq)
         have HNV := Lib.hid (show Box3 27 (w3.drewN nq) B (.slice A l.length ca) (.slice D zs.length cd) (.int .i64 x) from HN5.out)
         have hzV : B + 1 ≤ (w3.drewN nq).heap.size := by rw [show (w3.drewN nq).heap = w3.heap from rfl]; omega
         have hgV : g0 < (w3.drewN nq).heap.size := hg3
         have cx0 := show (w3.drewN nq).cell? ⟨g0, k * 6, none⟩ = _ from c0
         have cx1 := show (w3.drewN nq).cell? ⟨g0, k * 6 + 1, none⟩ = _ from c1
         have cx2 := show (w3.drewN nq).cell? ⟨g0, k * 6 + 2, none⟩ = _ from c2
         have cx3 := show (w3.drewN nq).cell? ⟨g0, k * 6 + 3, none⟩ = _ from c3
         have cx4 := show (w3.drewN nq).cell? ⟨g0, k * 6 + 4, none⟩ = _ from c4
         have cx5 := show (w3.drewN nq).cell? ⟨g0, k * 6 + 5, none⟩ = _ from c5
         clear HR5 HB5 HN5 hs5 hg3 hgG3 c0 c1 c2 c3 c4 c5 d0 d1 d2 d3 d4 d5 hNE hc hgG hg0
         generalize w3.drewN nq = V at *
         have htk : (O.take p).length = p := by rw [List.length_take]; omega
         have pc : (p : Int) ≤ (c : Int) := by have := row_cap HRV.out; omega
         have pn : (p : Int) ≤ (O.length : Int) := by omega
         have hcz : ¬ c = p := by have := row_cap HRV.out; omega
         go_wp2_with fail
         go_region_held3 (fun w' => w'.cell? ⟨g0, k * 6, none⟩ = some (.int .i64 y.h) ∧ w'.cell? ⟨g0, k * 6 + 1, none⟩ = some (.int .i64 y.a) ∧ w'.cell? ⟨g0, k * 6 + 2, none⟩ = some (.int .i64 y.k) ∧ w'.cell? ⟨g0, k * 6 + 3, none⟩ = some (.string y.p) ∧ w'.cell? ⟨g0, k * 6 + 4, none⟩ = some (.int .i64 y.g) ∧ w'.cell? ⟨g0, k * 6 + 5, none⟩ = some (.int .i64 y.d))
          (go_keep)
          (first
           | (refine step_append_own_at _ (by rfl) (.tmp 59) (.tmp 62) 28 (by rfl) V.heap.size 34 i0 (.agg #[.int .i64 0, .int .i64 0, .int .i64 0, .string ⟨#[]⟩, .int .i64 0, .int .i64 0]) 6 56 Tryz.underlying28 HI0.out.1 HI0.out.2.1 HI0.out.2.2.1 HI0.out.2.2.2 rfl (by omega) (.slice (some ⟨V.heap.size, 0, none⟩) 0 0) 0 [] (by rfl) ?_ ⟨G, 0, none⟩ p c ((O.take p).flatMap scC) (by rfl) ?_ ?_ all_oneS (by unfold maxLen; omega) (by omega) ?_ ?_; (focus (first | exact own_nilS (by omega) (heap_alloc_new V _) | exact own_nilS (W := World.drew _) (by omega) (heap_alloc_new V _))); (focus (rw [flat_len scC_len, htk])); (focus (first | exact scs_take (OwnK.below HRV.out ((Below.refl _ _).alloc (Nat.le_refl _) _)) hp | exact scs_take (OwnK.below HRV.out ((Below.refl _ _).alloc (Nat.le_refl _) _).drew) hp)); (focus (first | omega | (simp; omega) | simp)); (intro v' w1 hown hgrow hnil _; obtain ⟨g1, c1, rfl, hr1⟩ := RowC.of (n := p) (l := O.take p) (by simpa using hown) htk (fun e => by have := (hnil.1 e).1; cases this); have hbW1 : Below V.heap.size V w1 := (by first | exact ((Below.refl _ _).alloc (Nat.le_refl _) _).grown hgrow (by first | (simp; done) | (simp; omega)) (fun q e => by cases e; first | (simp; done) | (simp; omega)) | exact ((Below.refl _ _).alloc (Nat.le_refl _) _).drew.grown hgrow (by first | (simp; done) | (simp; omega)) (fun q e => by cases e; first | (simp; done) | (simp; omega))); have HR1 := Lib.hid hr1; have cv0 : w1.cell? ⟨g0, k * 6, none⟩ = some (.int .i64 y.h) := (hbW1.cell (p := ⟨g0, k * 6, none⟩) hgV).trans cx0; have cv1 : w1.cell? ⟨g0, k * 6 + 1, none⟩ = some (.int .i64 y.a) := (hbW1.cell (p := ⟨g0, k * 6 + 1, none⟩) hgV).trans cx1; have cv2 : w1.cell? ⟨g0, k * 6 + 2, none⟩ = some (.int .i64 y.k) := (hbW1.cell (p := ⟨g0, k * 6 + 2, none⟩) hgV).trans cx2; have cv3 : w1.cell? ⟨g0, k * 6 + 3, none⟩ = some (.string y.p) := (hbW1.cell (p := ⟨g0, k * 6 + 3, none⟩) hgV).trans cx3; have cv4 : w1.cell? ⟨g0, k * 6 + 4, none⟩ = some (.int .i64 y.g) := (hbW1.cell (p := ⟨g0, k * 6 + 4, none⟩) hgV).trans cx4; have cv5 : w1.cell? ⟨g0, k * 6 + 5, none⟩ = some (.int .i64 y.d) := (hbW1.cell (p := ⟨g0, k * 6 + 5, none⟩) hgV).trans cx5; clear hown hgrow hnil hr1))
           | (refine step_append_own_at _ (by rfl) (.tmp 59) (.tmp 62) 28 (by rfl) V.heap.size 34 i0 (.agg #[.int .i64 0, .int .i64 0, .int .i64 0, .string ⟨#[]⟩, .int .i64 0, .int .i64 0]) 6 56 Tryz.underlying28 HI0.out.1 HI0.out.2.1 HI0.out.2.2.1 HI0.out.2.2.2 rfl (by omega) (.slice (some ⟨V.heap.size, 0, none⟩) 0 0) 0 [] (by rfl) ?_ ⟨G, 0, none⟩ p c ((O.take p).flatMap scC) (by rfl) ?_ ?_ all_oneS (by unfold maxLen; omega) (by omega) ?_ ?_; (focus (first | exact own_nilS (by omega) (heap_alloc2_old V _ _) | exact own_nilS (W := World.drew _) (by omega) (heap_alloc2_old V _ _))); (focus (rw [flat_len scC_len, htk])); (focus (first | exact scs_take (OwnK.below HRV.out (((Below.refl _ _).alloc (Nat.le_refl _) _).alloc (by first | (simp; done) | (simp; omega)) _)) hp | exact scs_take (OwnK.below HRV.out (((Below.refl _ _).alloc (Nat.le_refl _) _).alloc (by first | (simp; done) | (simp; omega)) _).drew) hp)); (focus (first | omega | (simp; omega) | simp)); (intro v' w1 hown hgrow hnil _; obtain ⟨g1, c1, rfl, hr1⟩ := RowC.of (n := p) (l := O.take p) (by simpa using hown) htk (fun e => by have := (hnil.1 e).1; cases this); have hbW1 : Below V.heap.size V w1 := (by first | exact (((Below.refl _ _).alloc (Nat.le_refl _) _).alloc (by first | (simp; done) | (simp; omega)) _).grown hgrow (by first | (simp; done) | (simp; omega)) (fun q e => by cases e; first | (simp; done) | (simp; omega)) | exact (((Below.refl _ _).alloc (Nat.le_refl _) _).alloc (by first | (simp; done) | (simp; omega)) _).drew.grown hgrow (by first | (simp; done) | (simp; omega)) (fun q e => by cases e; first | (simp; done) | (simp; omega))); have HR1 := Lib.hid hr1; have HYB := Lib.hid (show w1.heap[V.heap.size + 1]? = some (.cells #[.int .i64 y.h, .int .i64 y.a, .int .i64 y.k, .string y.p, .int .i64 y.g, .int .i64 y.d] 34 (0, 0)) from (hgrow.block (V.heap.size + 1) (by first | (simp; done) | (simp; omega)) (by intro e; have e2 := Option.some.inj e; simp at e2)).trans (heap_alloc2_new V _ _)); have cv0 : w1.cell? ⟨g0, k * 6, none⟩ = some (.int .i64 y.h) := (hbW1.cell (p := ⟨g0, k * 6, none⟩) hgV).trans cx0; have cv1 : w1.cell? ⟨g0, k * 6 + 1, none⟩ = some (.int .i64 y.a) := (hbW1.cell (p := ⟨g0, k * 6 + 1, none⟩) hgV).trans cx1; have cv2 : w1.cell? ⟨g0, k * 6 + 2, none⟩ = some (.int .i64 y.k) := (hbW1.cell (p := ⟨g0, k * 6 + 2, none⟩) hgV).trans cx2; have cv3 : w1.cell? ⟨g0, k * 6 + 3, none⟩ = some (.string y.p) := (hbW1.cell (p := ⟨g0, k * 6 + 3, none⟩) hgV).trans cx3; have cv4 : w1.cell? ⟨g0, k * 6 + 4, none⟩ = some (.int .i64 y.g) := (hbW1.cell (p := ⟨g0, k * 6 + 4, none⟩) hgV).trans cx4; have cv5 : w1.cell? ⟨g0, k * 6 + 5, none⟩ = some (.int .i64 y.d) := (hbW1.cell (p := ⟨g0, k * 6 + 5, none⟩) hgV).trans cx5; clear hown hgrow hnil hr1))
           | (refine step_append_own_at _ (by rfl) (.tmp 59) (.tmp 62) 28 (by rfl) V.heap.size 34 i0 (.agg #[.int .i64 0, .int .i64 0, .int .i64 0, .string ⟨#[]⟩, .int .i64 0, .int .i64 0]) 6 56 Tryz.underlying28 HI0.out.1 HI0.out.2.1 HI0.out.2.2.1 HI0.out.2.2.2 rfl (by omega) (.slice (some ⟨(V.heap.size + 1), 0, none⟩) 0 0) 0 [] (by rfl) ?_ ⟨G, 0, none⟩ p c ((O.take p).flatMap scC) (by rfl) ?_ ?_ all_oneS (by unfold maxLen; omega) (by omega) ?_ ?_; (focus (first | exact own_nilS (by omega) (heap_alloc2_new V _ _) | exact own_nilS (W := World.drew _) (by omega) (heap_alloc2_new V _ _))); (focus (rw [flat_len scC_len, htk])); (focus (first | exact scs_take (OwnK.below HRV.out (((Below.refl _ _).alloc (Nat.le_refl _) _).alloc (by first | (simp; done) | (simp; omega)) _)) hp | exact scs_take (OwnK.below HRV.out (((Below.refl _ _).alloc (Nat.le_refl _) _).alloc (by first | (simp; done) | (simp; omega)) _).drew) hp)); (focus (first | omega | (simp; omega) | simp)); (intro v' w1 hown hgrow hnil _; obtain ⟨g1, c1, rfl, hr1⟩ := RowC.of (n := p) (l := O.take p) (by simpa using hown) htk (fun e => by have := (hnil.1 e).1; cases this); have hbW1 : Below V.heap.size V w1 := (by first | exact (((Below.refl _ _).alloc (Nat.le_refl _) _).alloc (by first | (simp; done) | (simp; omega)) _).grown hgrow (by first | (simp; done) | (simp; omega)) (fun q e => by cases e; first | (simp; done) | (simp; omega)) | exact (((Below.refl _ _).alloc (Nat.le_refl _) _).alloc (by first | (simp; done) | (simp; omega)) _).drew.grown hgrow (by first | (simp; done) | (simp; omega)) (fun q e => by cases e; first | (simp; done) | (simp; omega))); have HR1 := Lib.hid hr1; have HYB := Lib.hid (show w1.heap[V.heap.size]? = some (.cells #[.int .i64 y.h, .int .i64 y.a, .int .i64 y.k, .string y.p, .int .i64 y.g, .int .i64 y.d] 34 (0, 0)) from (hgrow.block (V.heap.size) (by first | (simp; done) | (simp; omega)) (by intro e; have e2 := Option.some.inj e; simp at e2)).trans (heap_alloc2_old V _ _)); have cv0 : w1.cell? ⟨g0, k * 6, none⟩ = some (.int .i64 y.h) := (hbW1.cell (p := ⟨g0, k * 6, none⟩) hgV).trans cx0; have cv1 : w1.cell? ⟨g0, k * 6 + 1, none⟩ = some (.int .i64 y.a) := (hbW1.cell (p := ⟨g0, k * 6 + 1, none⟩) hgV).trans cx1; have cv2 : w1.cell? ⟨g0, k * 6 + 2, none⟩ = some (.int .i64 y.k) := (hbW1.cell (p := ⟨g0, k * 6 + 2, none⟩) hgV).trans cx2; have cv3 : w1.cell? ⟨g0, k * 6 + 3, none⟩ = some (.string y.p) := (hbW1.cell (p := ⟨g0, k * 6 + 3, none⟩) hgV).trans cx3; have cv4 : w1.cell? ⟨g0, k * 6 + 4, none⟩ = some (.int .i64 y.g) := (hbW1.cell (p := ⟨g0, k * 6 + 4, none⟩) hgV).trans cx4; have cv5 : w1.cell? ⟨g0, k * 6 + 5, none⟩ = some (.int .i64 y.d) := (hbW1.cell (p := ⟨g0, k * 6 + 5, none⟩) hgV).trans cx5; clear hown hgrow hnil hr1))
           | (refine step_append_own_at _ (by rfl) (.tmp 63) (.tmp 68) 28 (by rfl) V.heap.size 34 i0 (.agg #[.int .i64 0, .int .i64 0, .int .i64 0, .string ⟨#[]⟩, .int .i64 0, .int .i64 0]) 6 56 Tryz.underlying28 HI0.out.1 HI0.out.2.1 HI0.out.2.2.1 HI0.out.2.2.2 rfl (by omega) (.slice (some ⟨g1, 0, none⟩) p c1) p ((O.take p).flatMap scC) (by rfl) ?_ ⟨w1.heap.size, 0, none⟩ 1 1 (scC y) (by rfl) (by rfl) ?_ (one_sc y) (by unfold maxLen; omega) (by omega) ?_ ?_; (focus (first | exact RowC.own (OwnK.below HR1.out ((Below.refl _ _).alloc (Nat.le_refl _) _)) htk | exact RowC.own (OwnK.below HR1.out ((Below.refl _ _).alloc (Nat.le_refl _) _).drew) htk)); (focus (exact World.news_of_block (cs := #[.int .i64 y.h, .int .i64 y.a, .int .i64 y.k, .string y.p, .int .i64 y.g, .int .i64 y.d]) (t := 34) (fr := (0, 0)) (heap_alloc_new w1 _))); (focus (have := hbW1.size; first | omega | exact this | (simp; omega))); (intro v' w2 hown hgrow hnil _; obtain ⟨g2, c2, rfl, hr2⟩ := RowC.of (n := p + 1) (l := O.take p ++ [y]) (by rw [List.flatMap_append, List.flatMap_singleton]; exact hown) (by rw [List.length_append, htk]; rfl) (fun e => by have := (hnil.1 e).1; cases this); have hbW2 : Below V.heap.size V w2 := (by first | exact (hbW1.alloc hbW1.size _).grown hgrow (by have := hbW1.size; first | omega | (simp; omega)) (fun q e => by cases e; exact (RowC.low HR1.out).1) | exact (hbW1.alloc hbW1.size _).drew.grown hgrow (by have := hbW1.size; first | omega | (simp; omega)) (fun q e => by cases e; exact (RowC.low HR1.out).1)); have HR2 := Lib.hid hr2; have cz0 : w2.cell? ⟨g0, k * 6, none⟩ = some (.int .i64 y.h) := (hbW2.cell (p := ⟨g0, k * 6, none⟩) hgV).trans cx0; have cz1 : w2.cell? ⟨g0, k * 6 + 1, none⟩ = some (.int .i64 y.a) := (hbW2.cell (p := ⟨g0, k * 6 + 1, none⟩) hgV).trans cx1; have cz2 : w2.cell? ⟨g0, k * 6 + 2, none⟩ = some (.int .i64 y.k) := (hbW2.cell (p := ⟨g0, k * 6 + 2, none⟩) hgV).trans cx2; have cz3 : w2.cell? ⟨g0, k * 6 + 3, none⟩ = some (.string y.p) := (hbW2.cell (p := ⟨g0, k * 6 + 3, none⟩) hgV).trans cx3; have cz4 : w2.cell? ⟨g0, k * 6 + 4, none⟩ = some (.int .i64 y.g) := (hbW2.cell (p := ⟨g0, k * 6 + 4, none⟩) hgV).trans cx4; have cz5 : w2.cell? ⟨g0, k * 6 + 5, none⟩ = some (.int .i64 y.d) := (hbW2.cell (p := ⟨g0, k * 6 + 5, none⟩) hgV).trans cx5; clear hown hgrow hnil hr2))
           | (refine step_append_own_at _ (by rfl) (.tmp 63) (.tmp 68) 28 (by rfl) V.heap.size 34 i0 (.agg #[.int .i64 0, .int .i64 0, .int .i64 0, .string ⟨#[]⟩, .int .i64 0, .int .i64 0]) 6 56 Tryz.underlying28 HI0.out.1 HI0.out.2.1 HI0.out.2.2.1 HI0.out.2.2.2 rfl (by omega) (.slice (some ⟨g1, 0, none⟩) p c1) p ((O.take p).flatMap scC) (by rfl) ?_ ⟨V.heap.size + 1, 0, none⟩ 1 1 (scC y) (by rfl) (by rfl) ?_ (one_sc y) (by unfold maxLen; omega) (by omega) ?_ ?_; (focus (exact RowC.own HR1.out htk)); (focus (exact World.news_of_block (cs := #[.int .i64 y.h, .int .i64 y.a, .int .i64 y.k, .string y.p, .int .i64 y.g, .int .i64 y.d]) (t := 34) (fr := (0, 0)) HYB.out)); (focus (have := hbW1.size; first | omega | exact this | (simp; omega))); (intro v' w2 hown hgrow hnil _; obtain ⟨g2, c2, rfl, hr2⟩ := RowC.of (n := p + 1) (l := O.take p ++ [y]) (by rw [List.flatMap_append, List.flatMap_singleton]; exact hown) (by rw [List.length_append, htk]; rfl) (fun e => by have := (hnil.1 e).1; cases this); have hbW2 : Below V.heap.size V w2 := (by first | exact (hbW1).grown hgrow (by have := hbW1.size; first | omega | (simp; omega)) (fun q e => by cases e; exact (RowC.low HR1.out).1) | exact (hbW1).drew.grown hgrow (by have := hbW1.size; first | omega | (simp; omega)) (fun q e => by cases e; exact (RowC.low HR1.out).1)); have HR2 := Lib.hid hr2; have cz0 : w2.cell? ⟨g0, k * 6, none⟩ = some (.int .i64 y.h) := (hbW2.cell (p := ⟨g0, k * 6, none⟩) hgV).trans cx0; have cz1 : w2.cell? ⟨g0, k * 6 + 1, none⟩ = some (.int .i64 y.a) := (hbW2.cell (p := ⟨g0, k * 6 + 1, none⟩) hgV).trans cx1; have cz2 : w2.cell? ⟨g0, k * 6 + 2, none⟩ = some (.int .i64 y.k) := (hbW2.cell (p := ⟨g0, k * 6 + 2, none⟩) hgV).trans cx2; have cz3 : w2.cell? ⟨g0, k * 6 + 3, none⟩ = some (.string y.p) := (hbW2.cell (p := ⟨g0, k * 6 + 3, none⟩) hgV).trans cx3; have cz4 : w2.cell? ⟨g0, k * 6 + 4, none⟩ = some (.int .i64 y.g) := (hbW2.cell (p := ⟨g0, k * 6 + 4, none⟩) hgV).trans cx4; have cz5 : w2.cell? ⟨g0, k * 6 + 5, none⟩ = some (.int .i64 y.d) := (hbW2.cell (p := ⟨g0, k * 6 + 5, none⟩) hgV).trans cx5; clear hown hgrow hnil hr2))
           | (refine step_append_own_at _ (by rfl) (.tmp 63) (.tmp 68) 28 (by rfl) V.heap.size 34 i0 (.agg #[.int .i64 0, .int .i64 0, .int .i64 0, .string ⟨#[]⟩, .int .i64 0, .int .i64 0]) 6 56 Tryz.underlying28 HI0.out.1 HI0.out.2.1 HI0.out.2.2.1 HI0.out.2.2.2 rfl (by omega) (.slice (some ⟨g1, 0, none⟩) p c1) p ((O.take p).flatMap scC) (by rfl) ?_ ⟨V.heap.size, 0, none⟩ 1 1 (scC y) (by rfl) (by rfl) ?_ (one_sc y) (by unfold maxLen; omega) (by omega) ?_ ?_; (focus (exact RowC.own HR1.out htk)); (focus (exact World.news_of_block (cs := #[.int .i64 y.h, .int .i64 y.a, .int .i64 y.k, .string y.p, .int .i64 y.g, .int .i64 y.d]) (t := 34) (fr := (0, 0)) HYB.out)); (focus (have := hbW1.size; first | omega | exact this | (simp; omega))); (intro v' w2 hown hgrow hnil _; obtain ⟨g2, c2, rfl, hr2⟩ := RowC.of (n := p + 1) (l := O.take p ++ [y]) (by rw [List.flatMap_append, List.flatMap_singleton]; exact hown) (by rw [List.length_append, htk]; rfl) (fun e => by have := (hnil.1 e).1; cases this); have hbW2 : Below V.heap.size V w2 := (by first | exact (hbW1).grown hgrow (by have := hbW1.size; first | omega | (simp; omega)) (fun q e => by cases e; exact (RowC.low HR1.out).1) | exact (hbW1).drew.grown hgrow (by have := hbW1.size; first | omega | (simp; omega)) (fun q e => by cases e; exact (RowC.low HR1.out).1)); have HR2 := Lib.hid hr2; have cz0 : w2.cell? ⟨g0, k * 6, none⟩ = some (.int .i64 y.h) := (hbW2.cell (p := ⟨g0, k * 6, none⟩) hgV).trans cx0; have cz1 : w2.cell? ⟨g0, k * 6 + 1, none⟩ = some (.int .i64 y.a) := (hbW2.cell (p := ⟨g0, k * 6 + 1, none⟩) hgV).trans cx1; have cz2 : w2.cell? ⟨g0, k * 6 + 2, none⟩ = some (.int .i64 y.k) := (hbW2.cell (p := ⟨g0, k * 6 + 2, none⟩) hgV).trans cx2; have cz3 : w2.cell? ⟨g0, k * 6 + 3, none⟩ = some (.string y.p) := (hbW2.cell (p := ⟨g0, k * 6 + 3, none⟩) hgV).trans cx3; have cz4 : w2.cell? ⟨g0, k * 6 + 4, none⟩ = some (.int .i64 y.g) := (hbW2.cell (p := ⟨g0, k * 6 + 4, none⟩) hgV).trans cx4; have cz5 : w2.cell? ⟨g0, k * 6 + 5, none⟩ = some (.int .i64 y.d) := (hbW2.cell (p := ⟨g0, k * 6 + 5, none⟩) hgV).trans cx5; clear hown hgrow hnil hr2))
           | (refine step_append_own_at _ (by rfl) (.tmp 69) (.tmp 72) 28 (by rfl) V.heap.size 34 i0 (.agg #[.int .i64 0, .int .i64 0, .int .i64 0, .string ⟨#[]⟩, .int .i64 0, .int .i64 0]) 6 56 Tryz.underlying28 HI0.out.1 HI0.out.2.1 HI0.out.2.2.1 HI0.out.2.2.2 rfl (by omega) (.slice (some ⟨g2, 0, none⟩) (p + 1) c2) (p + 1) ((O.take p ++ [y]).flatMap scC) (by rfl) ?_ ⟨G, p * 6, none⟩ (O.length - p) (c - p) ((O.drop p).flatMap scC) (by rfl) ?_ ?_ all_oneS (by unfold maxLen; omega) (by omega) ?_ ?_; (focus (exact RowC.own HR2.out (by rw [List.length_append, htk]; rfl))); (focus (rw [flat_len scC_len, List.length_drop]; try omega)); (focus (first | exact scs_rest (OwnK.below HRV.out hbW2) p hp | exact scs_rest (OwnK.below HRV.out hbW2.drew) p hp)); (focus (have := hbW2.size; first | omega | exact this | (simp; omega))); (intro v' w3 hown hgrow hnil _; obtain ⟨g3, c3, rfl, hr3⟩ := RowC.of (n := p + 1 + (O.length - p)) (l := O.take p ++ [y] ++ O.drop p) (by rw [List.flatMap_append]; exact hown) (by rw [List.length_append, List.length_append, htk, List.length_drop]; simp; try omega) (fun e => by have := (hnil.1 e).1; cases this); have hbW3 : Below V.heap.size V w3 := (by first | exact hbW2.grown hgrow hbW2.size (fun q e => by cases e; exact (RowC.low HR2.out).1) | exact hbW2.drew.grown hgrow hbW2.size (fun q e => by cases e; exact (RowC.low HR2.out).1)); have HR3 := Lib.hid hr3; have cy0 : w3.cell? ⟨g0, k * 6, none⟩ = some (.int .i64 y.h) := (hbW3.cell (p := ⟨g0, k * 6, none⟩) hgV).trans cx0; have cy1 : w3.cell? ⟨g0, k * 6 + 1, none⟩ = some (.int .i64 y.a) := (hbW3.cell (p := ⟨g0, k * 6 + 1, none⟩) hgV).trans cx1; have cy2 : w3.cell? ⟨g0, k * 6 + 2, none⟩ = some (.int .i64 y.k) := (hbW3.cell (p := ⟨g0, k * 6 + 2, none⟩) hgV).trans cx2; have cy3 : w3.cell? ⟨g0, k * 6 + 3, none⟩ = some (.string y.p) := (hbW3.cell (p := ⟨g0, k * 6 + 3, none⟩) hgV).trans cx3; have cy4 : w3.cell? ⟨g0, k * 6 + 4, none⟩ = some (.int .i64 y.g) := (hbW3.cell (p := ⟨g0, k * 6 + 4, none⟩) hgV).trans cx4; have cy5 : w3.cell? ⟨g0, k * 6 + 5, none⟩ = some (.int .i64 y.d) := (hbW3.cell (p := ⟨g0, k * 6 + 5, none⟩) hgV).trans cx5; clear hown hgrow hnil hr3))
           | fail)
         all_goals
          have hz3 : (O.take p ++ y :: O.drop p).length = p + 1 + (O.length - p) := by rw [List.length_append, htk, List.length_cons, List.length_drop]; omega
          have h3 : RowC w3 (B + 1) g3 c3 (O.take p ++ y :: O.drop p) := by
           have h4 := OwnK.mono HR3.out (show B + 1 ≤ V.heap.size by omega)
           rw [List.append_assoc] at h4
           exact h4
          have HR4 := Lib.hid h3
          have HB4 := Lib.hid (HBV.out.trans (hbW3.mono (by omega)))
          have HN4 := Lib.hid (HNV.out.below hbW3)
          have hz4 := hbW3.size
          clear h3 hbW3 hbW2 hbW1 cx0 cx1 cx2 cx3 cx4 cx5 cv0 cv1 cv2 cv3 cv4 cv5 cz0 cz1 cz2 cz3 cz4 cz5 cy0 cy1 cy2 cy3 cy4 cy5
          go_wp2
          go_roundw
          case rel => exact ⟨k + 1, g3, c3, O.take p ++ y :: O.drop p, by go_num, by omega, by omega, by rw [hz3], HIN, HR4, HB4, HN4, by omega, by omega⟩
          case measure => simp [intOf]; omega

      ·have hpl2 : O.length ≤ p := by omega
       have hpd : decide (p < O.length) = false := decide_eq_false (by omega)
       have hpd2 : decide ((p : Int) < (O.length : Int)) = false := decide_eq_false (by omega)
       have hpb : ((p : Int) == (O.length : Int)) = true := by rw [beq_iff_eq]; omega
       have HIN := Lib.hid (show InsS (O.take p ++ y :: O.drop p) (validU l zs x ls (k + 1)) from by
        rw [HV.out]
        exact hin.out.put hp hall.out (fun q => absurd q (by omega)))
       clear hall HV hin
       go_wp2
       refine wp_region_far (by kernel_rfl) (by kernel_rfl) ?_
       repeat (any_goals (first | go_big_quiet_step (fail) | quiet_step (fail)))
       refine wpQuiet_nil ?_; intro w3 hw3
       have hbw3 : Below wr.heap.size wr w3 := by obtain ⟨u, rfl⟩ := hw3; exact below_far wr u
       have HR5 := Lib.hid (OwnK.below hrw.out hbw3)
       have HN5 := Lib.hid (hnw.out.below hbw3)
       have HB5 := Lib.hid (hbw.out.trans (hbw3.mono (by omega)))
       have hs5 := hbw3.size
       have hg3 : g0 < w3.heap.size := by omega
       clear hw3 hbw3 f0 f1 f2 f3 f4 f5 hrw hnw hbw
       have hb' : Below w.heap.size w w3 := by rw [HBE.out]; exact HB5.out
       obtain ⟨g0', e0, _, c0, c1, c2, c3, c4, c5⟩ := HC.out w3 hb'
       cases e0
       clear hb'
       go_wp2_with fail
       go_quiet (fail)
       have HRV := Lib.hid (rowC_drew HR5.out nq)
       have HBV := Lib.hid (show Below B w (w3.drewN nq) from below_drewN HB5.out nq)
       have HNV := Lib.hid (show Box3 27 (w3.drewN nq) B (.slice A l.length ca) (.slice D zs.length cd) (.int .i64 x) from HN5.out)
       have hzV : B + 1 ≤ (w3.drewN nq).heap.size := by rw [show (w3.drewN nq).heap = w3.heap from rfl]; omega
       have hgV : g0 < (w3.drewN nq).heap.size := hg3
       have cx0 := show (w3.drewN nq).cell? ⟨g0, k * 6, none⟩ = _ from c0
       have cx1 := show (w3.drewN nq).cell? ⟨g0, k * 6 + 1, none⟩ = _ from c1
       have cx2 := show (w3.drewN nq).cell? ⟨g0, k * 6 + 2, none⟩ = _ from c2
       have cx3 := show (w3.drewN nq).cell? ⟨g0, k * 6 + 3, none⟩ = _ from c3
       have cx4 := show (w3.drewN nq).cell? ⟨g0, k * 6 + 4, none⟩ = _ from c4
       have cx5 := show (w3.drewN nq).cell? ⟨g0, k * 6 + 5, none⟩ = _ from c5
       clear HR5 HB5 HN5 hs5 hg3 c0 c1 c2 c3 c4 c5 hg0
       generalize w3.drewN nq = V at *
       have htk : (O.take p).length = p := by rw [List.length_take]; omega
       have pc : (p : Int) ≤ (c : Int) := by have := row_cap HRV.out; omega
       have pn : (p : Int) ≤ (O.length : Int) := by omega
       have hpl := hpl2
       by_cases hck : c = p
       ·subst c
        go_wp2_with fail
        go_region_held3 (fun w' => w'.cell? ⟨g0, k * 6, none⟩ = some (.int .i64 y.h) ∧ w'.cell? ⟨g0, k * 6 + 1, none⟩ = some (.int .i64 y.a) ∧ w'.cell? ⟨g0, k * 6 + 2, none⟩ = some (.int .i64 y.k) ∧ w'.cell? ⟨g0, k * 6 + 3, none⟩ = some (.string y.p) ∧ w'.cell? ⟨g0, k * 6 + 4, none⟩ = some (.int .i64 y.g) ∧ w'.cell? ⟨g0, k * 6 + 5, none⟩ = some (.int .i64 y.d))
         (go_keep)
         (first
          | (refine step_append_own_at _ (by rfl) (.tmp 59) (.tmp 62) 28 (by rfl) V.heap.size 34 i0 (.agg #[.int .i64 0, .int .i64 0, .int .i64 0, .string ⟨#[]⟩, .int .i64 0, .int .i64 0]) 6 56 Tryz.underlying28 HI0.out.1 HI0.out.2.1 HI0.out.2.2.1 HI0.out.2.2.2 rfl (by omega) (.slice (some ⟨V.heap.size, 0, none⟩) 0 0) 0 [] (by rfl) ?_ ⟨G, 0, none⟩ p p ((O.take p).flatMap scC) (by rfl) ?_ ?_ all_oneS (by unfold maxLen; omega) (by omega) ?_ ?_; (focus (first | exact own_nilS (by omega) (heap_alloc_new V _) | exact own_nilS (W := World.drew _) (by omega) (heap_alloc_new V _))); (focus (rw [flat_len scC_len, htk])); (focus (first | exact scs_take (OwnK.below HRV.out ((Below.refl _ _).alloc (Nat.le_refl _) _)) hp | exact scs_take (OwnK.below HRV.out ((Below.refl _ _).alloc (Nat.le_refl _) _).drew) hp)); (focus (first | omega | (simp; omega) | simp)); (intro v' w1 hown hgrow hnil _; obtain ⟨g1, c1, rfl, hr1⟩ := RowC.of (n := p) (l := O.take p) (by simpa using hown) htk (fun e => by have := (hnil.1 e).1; cases this); have hbW1 : Below V.heap.size V w1 := (by first | exact ((Below.refl _ _).alloc (Nat.le_refl _) _).grown hgrow (by first | (simp; done) | (simp; omega)) (fun q e => by cases e; first | (simp; done) | (simp; omega)) | exact ((Below.refl _ _).alloc (Nat.le_refl _) _).drew.grown hgrow (by first | (simp; done) | (simp; omega)) (fun q e => by cases e; first | (simp; done) | (simp; omega))); have HR1 := Lib.hid hr1; have cv0 : w1.cell? ⟨g0, k * 6, none⟩ = some (.int .i64 y.h) := (hbW1.cell (p := ⟨g0, k * 6, none⟩) hgV).trans cx0; have cv1 : w1.cell? ⟨g0, k * 6 + 1, none⟩ = some (.int .i64 y.a) := (hbW1.cell (p := ⟨g0, k * 6 + 1, none⟩) hgV).trans cx1; have cv2 : w1.cell? ⟨g0, k * 6 + 2, none⟩ = some (.int .i64 y.k) := (hbW1.cell (p := ⟨g0, k * 6 + 2, none⟩) hgV).trans cx2; have cv3 : w1.cell? ⟨g0, k * 6 + 3, none⟩ = some (.string y.p) := (hbW1.cell (p := ⟨g0, k * 6 + 3, none⟩) hgV).trans cx3; have cv4 : w1.cell? ⟨g0, k * 6 + 4, none⟩ = some (.int .i64 y.g) := (hbW1.cell (p := ⟨g0, k * 6 + 4, none⟩) hgV).trans cx4; have cv5 : w1.cell? ⟨g0, k * 6 + 5, none⟩ = some (.int .i64 y.d) := (hbW1.cell (p := ⟨g0, k * 6 + 5, none⟩) hgV).trans cx5; clear hown hgrow hnil hr1))
          | (refine step_append_own_at _ (by rfl) (.tmp 59) (.tmp 62) 28 (by rfl) V.heap.size 34 i0 (.agg #[.int .i64 0, .int .i64 0, .int .i64 0, .string ⟨#[]⟩, .int .i64 0, .int .i64 0]) 6 56 Tryz.underlying28 HI0.out.1 HI0.out.2.1 HI0.out.2.2.1 HI0.out.2.2.2 rfl (by omega) (.slice (some ⟨V.heap.size, 0, none⟩) 0 0) 0 [] (by rfl) ?_ ⟨G, 0, none⟩ p p ((O.take p).flatMap scC) (by rfl) ?_ ?_ all_oneS (by unfold maxLen; omega) (by omega) ?_ ?_; (focus (first | exact own_nilS (by omega) (heap_alloc2_old V _ _) | exact own_nilS (W := World.drew _) (by omega) (heap_alloc2_old V _ _))); (focus (rw [flat_len scC_len, htk])); (focus (first | exact scs_take (OwnK.below HRV.out (((Below.refl _ _).alloc (Nat.le_refl _) _).alloc (by first | (simp; done) | (simp; omega)) _)) hp | exact scs_take (OwnK.below HRV.out (((Below.refl _ _).alloc (Nat.le_refl _) _).alloc (by first | (simp; done) | (simp; omega)) _).drew) hp)); (focus (first | omega | (simp; omega) | simp)); (intro v' w1 hown hgrow hnil _; obtain ⟨g1, c1, rfl, hr1⟩ := RowC.of (n := p) (l := O.take p) (by simpa using hown) htk (fun e => by have := (hnil.1 e).1; cases this); have hbW1 : Below V.heap.size V w1 := (by first | exact (((Below.refl _ _).alloc (Nat.le_refl _) _).alloc (by first | (simp; done) | (simp; omega)) _).grown hgrow (by first | (simp; done) | (simp; omega)) (fun q e => by cases e; first | (simp; done) | (simp; omega)) | exact (((Below.refl _ _).alloc (Nat.le_refl _) _).alloc (by first | (simp; done) | (simp; omega)) _).drew.grown hgrow (by first | (simp; done) | (simp; omega)) (fun q e => by cases e; first | (simp; done) | (simp; omega))); have HR1 := Lib.hid hr1; have HYB := Lib.hid (show w1.heap[V.heap.size + 1]? = some (.cells #[.int .i64 y.h, .int .i64 y.a, .int .i64 y.k, .string y.p, .int .i64 y.g, .int .i64 y.d] 34 (0, 0)) from (hgrow.block (V.heap.size + 1) (by first | (simp; done) | (simp; omega)) (by intro e; have e2 := Option.some.inj e; simp at e2)).trans (heap_alloc2_new V _ _)); have cv0 : w1.cell? ⟨g0, k * 6, none⟩ = some (.int .i64 y.h) := (hbW1.cell (p := ⟨g0, k * 6, none⟩) hgV).trans cx0; have cv1 : w1.cell? ⟨g0, k * 6 + 1, none⟩ = some (.int .i64 y.a) := (hbW1.cell (p := ⟨g0, k * 6 + 1, none⟩) hgV).trans cx1; have cv2 : w1.cell? ⟨g0, k * 6 + 2, none⟩ = some (.int .i64 y.k) := (hbW1.cell (p := ⟨g0, k * 6 + 2, none⟩) hgV).trans cx2; have cv3 : w1.cell? ⟨g0, k * 6 + 3, none⟩ = some (.string y.p) := (hbW1.cell (p := ⟨g0, k * 6 + 3, none⟩) hgV).trans cx3; have cv4 : w1.cell? ⟨g0, k * 6 + 4, none⟩ = some (.int .i64 y.g) := (hbW1.cell (p := ⟨g0, k * 6 + 4, none⟩) hgV).trans cx4; have cv5 : w1.cell? ⟨g0, k * 6 + 5, none⟩ = some (.int .i64 y.d) := (hbW1.cell (p := ⟨g0, k * 6 + 5, none⟩) hgV).trans cx5; clear hown hgrow hnil hr1))
          | (refine step_append_own_at _ (by rfl) (.tmp 59) (.tmp 62) 28 (by rfl) V.heap.size 34 i0 (.agg #[.int .i64 0, .int .i64 0, .int .i64 0, .string ⟨#[]⟩, .int .i64 0, .int .i64 0]) 6 56 Tryz.underlying28 HI0.out.1 HI0.out.2.1 HI0.out.2.2.1 HI0.out.2.2.2 rfl (by omega) (.slice (some ⟨(V.heap.size + 1), 0, none⟩) 0 0) 0 [] (by rfl) ?_ ⟨G, 0, none⟩ p p ((O.take p).flatMap scC) (by rfl) ?_ ?_ all_oneS (by unfold maxLen; omega) (by omega) ?_ ?_; (focus (first | exact own_nilS (by omega) (heap_alloc2_new V _ _) | exact own_nilS (W := World.drew _) (by omega) (heap_alloc2_new V _ _))); (focus (rw [flat_len scC_len, htk])); (focus (first | exact scs_take (OwnK.below HRV.out (((Below.refl _ _).alloc (Nat.le_refl _) _).alloc (by first | (simp; done) | (simp; omega)) _)) hp | exact scs_take (OwnK.below HRV.out (((Below.refl _ _).alloc (Nat.le_refl _) _).alloc (by first | (simp; done) | (simp; omega)) _).drew) hp)); (focus (first | omega | (simp; omega) | simp)); (intro v' w1 hown hgrow hnil _; obtain ⟨g1, c1, rfl, hr1⟩ := RowC.of (n := p) (l := O.take p) (by simpa using hown) htk (fun e => by have := (hnil.1 e).1; cases this); have hbW1 : Below V.heap.size V w1 := (by first | exact (((Below.refl _ _).alloc (Nat.le_refl _) _).alloc (by first | (simp; done) | (simp; omega)) _).grown hgrow (by first | (simp; done) | (simp; omega)) (fun q e => by cases e; first | (simp; done) | (simp; omega)) | exact (((Below.refl _ _).alloc (Nat.le_refl _) _).alloc (by first | (simp; done) | (simp; omega)) _).drew.grown hgrow (by first | (simp; done) | (simp; omega)) (fun q e => by cases e; first | (simp; done) | (simp; omega))); have HR1 := Lib.hid hr1; have HYB := Lib.hid (show w1.heap[V.heap.size]? = some (.cells #[.int .i64 y.h, .int .i64 y.a, .int .i64 y.k, .string y.p, .int .i64 y.g, .int .i64 y.d] 34 (0, 0)) from (hgrow.block (V.heap.size) (by first | (simp; done) | (simp; omega)) (by intro e; have e2 := Option.some.inj e; simp at e2)).trans (heap_alloc2_old V _ _)); have cv0 : w1.cell? ⟨g0, k * 6, none⟩ = some (.int .i64 y.h) := (hbW1.cell (p := ⟨g0, k * 6, none⟩) hgV).trans cx0; have cv1 : w1.cell? ⟨g0, k * 6 + 1, none⟩ = some (.int .i64 y.a) := (hbW1.cell (p := ⟨g0, k * 6 + 1, none⟩) hgV).trans cx1; have cv2 : w1.cell? ⟨g0, k * 6 + 2, none⟩ = some (.int .i64 y.k) := (hbW1.cell (p := ⟨g0, k * 6 + 2, none⟩) hgV).trans cx2; have cv3 : w1.cell? ⟨g0, k * 6 + 3, none⟩ = some (.string y.p) := (hbW1.cell (p := ⟨g0, k * 6 + 3, none⟩) hgV).trans cx3; have cv4 : w1.cell? ⟨g0, k * 6 + 4, none⟩ = some (.int .i64 y.g) := (hbW1.cell (p := ⟨g0, k * 6 + 4, none⟩) hgV).trans cx4; have cv5 : w1.cell? ⟨g0, k * 6 + 5, none⟩ = some (.int .i64 y.d) := (hbW1.cell (p := ⟨g0, k * 6 + 5, none⟩) hgV).trans cx5; clear hown hgrow hnil hr1))
          | (refine step_append_own_at _ (by rfl) (.tmp 63) (.tmp 68) 28 (by rfl) V.heap.size 34 i0 (.agg #[.int .i64 0, .int .i64 0, .int .i64 0, .string ⟨#[]⟩, .int .i64 0, .int .i64 0]) 6 56 Tryz.underlying28 HI0.out.1 HI0.out.2.1 HI0.out.2.2.1 HI0.out.2.2.2 rfl (by omega) (.slice (some ⟨g1, 0, none⟩) p c1) p ((O.take p).flatMap scC) (by rfl) ?_ ⟨w1.heap.size, 0, none⟩ 1 1 (scC y) (by rfl) (by rfl) ?_ (one_sc y) (by unfold maxLen; omega) (by omega) ?_ ?_; (focus (first | exact RowC.own (OwnK.below HR1.out ((Below.refl _ _).alloc (Nat.le_refl _) _)) htk | exact RowC.own (OwnK.below HR1.out ((Below.refl _ _).alloc (Nat.le_refl _) _).drew) htk)); (focus (exact World.news_of_block (cs := #[.int .i64 y.h, .int .i64 y.a, .int .i64 y.k, .string y.p, .int .i64 y.g, .int .i64 y.d]) (t := 34) (fr := (0, 0)) (heap_alloc_new w1 _))); (focus (have := hbW1.size; first | omega | exact this | (simp; omega))); (intro v' w2 hown hgrow hnil _; obtain ⟨g2, c2, rfl, hr2⟩ := RowC.of (n := p + 1) (l := O.take p ++ [y]) (by rw [List.flatMap_append, List.flatMap_singleton]; exact hown) (by rw [List.length_append, htk]; rfl) (fun e => by have := (hnil.1 e).1; cases this); have hbW2 : Below V.heap.size V w2 := (by first | exact (hbW1.alloc hbW1.size _).grown hgrow (by have := hbW1.size; first | omega | (simp; omega)) (fun q e => by cases e; exact (RowC.low HR1.out).1) | exact (hbW1.alloc hbW1.size _).drew.grown hgrow (by have := hbW1.size; first | omega | (simp; omega)) (fun q e => by cases e; exact (RowC.low HR1.out).1)); have HR2 := Lib.hid hr2; have cz0 : w2.cell? ⟨g0, k * 6, none⟩ = some (.int .i64 y.h) := (hbW2.cell (p := ⟨g0, k * 6, none⟩) hgV).trans cx0; have cz1 : w2.cell? ⟨g0, k * 6 + 1, none⟩ = some (.int .i64 y.a) := (hbW2.cell (p := ⟨g0, k * 6 + 1, none⟩) hgV).trans cx1; have cz2 : w2.cell? ⟨g0, k * 6 + 2, none⟩ = some (.int .i64 y.k) := (hbW2.cell (p := ⟨g0, k * 6 + 2, none⟩) hgV).trans cx2; have cz3 : w2.cell? ⟨g0, k * 6 + 3, none⟩ = some (.string y.p) := (hbW2.cell (p := ⟨g0, k * 6 + 3, none⟩) hgV).trans cx3; have cz4 : w2.cell? ⟨g0, k * 6 + 4, none⟩ = some (.int .i64 y.g) := (hbW2.cell (p := ⟨g0, k * 6 + 4, none⟩) hgV).trans cx4; have cz5 : w2.cell? ⟨g0, k * 6 + 5, none⟩ = some (.int .i64 y.d) := (hbW2.cell (p := ⟨g0, k * 6 + 5, none⟩) hgV).trans cx5; clear hown hgrow hnil hr2))
          | (refine step_append_own_at _ (by rfl) (.tmp 63) (.tmp 68) 28 (by rfl) V.heap.size 34 i0 (.agg #[.int .i64 0, .int .i64 0, .int .i64 0, .string ⟨#[]⟩, .int .i64 0, .int .i64 0]) 6 56 Tryz.underlying28 HI0.out.1 HI0.out.2.1 HI0.out.2.2.1 HI0.out.2.2.2 rfl (by omega) (.slice (some ⟨g1, 0, none⟩) p c1) p ((O.take p).flatMap scC) (by rfl) ?_ ⟨V.heap.size + 1, 0, none⟩ 1 1 (scC y) (by rfl) (by rfl) ?_ (one_sc y) (by unfold maxLen; omega) (by omega) ?_ ?_; (focus (exact RowC.own HR1.out htk)); (focus (exact World.news_of_block (cs := #[.int .i64 y.h, .int .i64 y.a, .int .i64 y.k, .string y.p, .int .i64 y.g, .int .i64 y.d]) (t := 34) (fr := (0, 0)) HYB.out)); (focus (have := hbW1.size; first | omega | exact this | (simp; omega))); (intro v' w2 hown hgrow hnil _; obtain ⟨g2, c2, rfl, hr2⟩ := RowC.of (n := p + 1) (l := O.take p ++ [y]) (by rw [List.flatMap_append, List.flatMap_singleton]; exact hown) (by rw [List.length_append, htk]; rfl) (fun e => by have := (hnil.1 e).1; cases this); have hbW2 : Below V.heap.size V w2 := (by first | exact (hbW1).grown hgrow (by have := hbW1.size; first | omega | (simp; omega)) (fun q e => by cases e; exact (RowC.low HR1.out).1) | exact (hbW1).drew.grown hgrow (by have := hbW1.size; first | omega | (simp; omega)) (fun q e => by cases e; exact (RowC.low HR1.out).1)); have HR2 := Lib.hid hr2; have cz0 : w2.cell? ⟨g0, k * 6, none⟩ = some (.int .i64 y.h) := (hbW2.cell (p := ⟨g0, k * 6, none⟩) hgV).trans cx0; have cz1 : w2.cell? ⟨g0, k * 6 + 1, none⟩ = some (.int .i64 y.a) := (hbW2.cell (p := ⟨g0, k * 6 + 1, none⟩) hgV).trans cx1; have cz2 : w2.cell? ⟨g0, k * 6 + 2, none⟩ = some (.int .i64 y.k) := (hbW2.cell (p := ⟨g0, k * 6 + 2, none⟩) hgV).trans cx2; have cz3 : w2.cell? ⟨g0, k * 6 + 3, none⟩ = some (.string y.p) := (hbW2.cell (p := ⟨g0, k * 6 + 3, none⟩) hgV).trans cx3; have cz4 : w2.cell? ⟨g0, k * 6 + 4, none⟩ = some (.int .i64 y.g) := (hbW2.cell (p := ⟨g0, k * 6 + 4, none⟩) hgV).trans cx4; have cz5 : w2.cell? ⟨g0, k * 6 + 5, none⟩ = some (.int .i64 y.d) := (hbW2.cell (p := ⟨g0, k * 6 + 5, none⟩) hgV).trans cx5; clear hown hgrow hnil hr2))
          | (refine step_append_own_at _ (by rfl) (.tmp 63) (.tmp 68) 28 (by rfl) V.heap.size 34 i0 (.agg #[.int .i64 0, .int .i64 0, .int .i64 0, .string ⟨#[]⟩, .int .i64 0, .int .i64 0]) 6 56 Tryz.underlying28 HI0.out.1 HI0.out.2.1 HI0.out.2.2.1 HI0.out.2.2.2 rfl (by omega) (.slice (some ⟨g1, 0, none⟩) p c1) p ((O.take p).flatMap scC) (by rfl) ?_ ⟨V.heap.size, 0, none⟩ 1 1 (scC y) (by rfl) (by rfl) ?_ (one_sc y) (by unfold maxLen; omega) (by omega) ?_ ?_; (focus (exact RowC.own HR1.out htk)); (focus (exact World.news_of_block (cs := #[.int .i64 y.h, .int .i64 y.a, .int .i64 y.k, .string y.p, .int .i64 y.g, .int .i64 y.d]) (t := 34) (fr := (0, 0)) HYB.out)); (focus (have := hbW1.size; first | omega | exact this | (simp; omega))); (intro v' w2 hown hgrow hnil _; obtain ⟨g2, c2, rfl, hr2⟩ := RowC.of (n := p + 1) (l := O.take p ++ [y]) (by rw [List.flatMap_append, List.flatMap_singleton]; exact hown) (by rw [List.length_append, htk]; rfl) (fun e => by have := (hnil.1 e).1; cases this); have hbW2 : Below V.heap.size V w2 := (by first | exact (hbW1).grown hgrow (by have := hbW1.size; first | omega | (simp; omega)) (fun q e => by cases e; exact (RowC.low HR1.out).1) | exact (hbW1).drew.grown hgrow (by have := hbW1.size; first | omega | (simp; omega)) (fun q e => by cases e; exact (RowC.low HR1.out).1)); have HR2 := Lib.hid hr2; have cz0 : w2.cell? ⟨g0, k * 6, none⟩ = some (.int .i64 y.h) := (hbW2.cell (p := ⟨g0, k * 6, none⟩) hgV).trans cx0; have cz1 : w2.cell? ⟨g0, k * 6 + 1, none⟩ = some (.int .i64 y.a) := (hbW2.cell (p := ⟨g0, k * 6 + 1, none⟩) hgV).trans cx1; have cz2 : w2.cell? ⟨g0, k * 6 + 2, none⟩ = some (.int .i64 y.k) := (hbW2.cell (p := ⟨g0, k * 6 + 2, none⟩) hgV).trans cx2; have cz3 : w2.cell? ⟨g0, k * 6 + 3, none⟩ = some (.string y.p) := (hbW2.cell (p := ⟨g0, k * 6 + 3, none⟩) hgV).trans cx3; have cz4 : w2.cell? ⟨g0, k * 6 + 4, none⟩ = some (.int .i64 y.g) := (hbW2.cell (p := ⟨g0, k * 6 + 4, none⟩) hgV).trans cx4; have cz5 : w2.cell? ⟨g0, k * 6 + 5, none⟩ = some (.int .i64 y.d) := (hbW2.cell (p := ⟨g0, k * 6 + 5, none⟩) hgV).trans cx5; clear hown hgrow hnil hr2))
          | (refine step_append_own_at _ (by rfl) (.tmp 69) (.tmp 72) 28 (by rfl) V.heap.size 34 i0 (.agg #[.int .i64 0, .int .i64 0, .int .i64 0, .string ⟨#[]⟩, .int .i64 0, .int .i64 0]) 6 56 Tryz.underlying28 HI0.out.1 HI0.out.2.1 HI0.out.2.2.1 HI0.out.2.2.2 rfl (by omega) (.slice (some ⟨g2, 0, none⟩) (p + 1) c2) (p + 1) ((O.take p ++ [y]).flatMap scC) (by rfl) ?_ ⟨G, p * 6, none⟩ 0 (p - p) ((O.drop p).flatMap scC) (by rfl) ?_ ?_ all_oneS (by unfold maxLen; omega) (by omega) ?_ ?_; (focus (exact RowC.own HR2.out (by rw [List.length_append, htk]; rfl))); (focus (rw [flat_len scC_len, List.length_drop]; try omega)); (focus (rw [List.drop_eq_nil_of_le hpl]; intro j u hu; simp at hu)); (focus (have := hbW2.size; first | omega | exact this | (simp; omega))); (intro v' w3 hown hgrow hnil _; obtain ⟨g3, c3, rfl, hr3⟩ := RowC.of (n := p + 1 + 0) (l := O.take p ++ [y] ++ O.drop p) (by rw [List.flatMap_append]; exact hown) (by rw [List.length_append, List.length_append, htk, List.length_drop]; simp; try omega) (fun e => by have := (hnil.1 e).1; cases this); have hbW3 : Below V.heap.size V w3 := (by first | exact hbW2.grown hgrow hbW2.size (fun q e => by cases e; exact (RowC.low HR2.out).1) | exact hbW2.drew.grown hgrow hbW2.size (fun q e => by cases e; exact (RowC.low HR2.out).1)); have HR3 := Lib.hid hr3; have cy0 : w3.cell? ⟨g0, k * 6, none⟩ = some (.int .i64 y.h) := (hbW3.cell (p := ⟨g0, k * 6, none⟩) hgV).trans cx0; have cy1 : w3.cell? ⟨g0, k * 6 + 1, none⟩ = some (.int .i64 y.a) := (hbW3.cell (p := ⟨g0, k * 6 + 1, none⟩) hgV).trans cx1; have cy2 : w3.cell? ⟨g0, k * 6 + 2, none⟩ = some (.int .i64 y.k) := (hbW3.cell (p := ⟨g0, k * 6 + 2, none⟩) hgV).trans cx2; have cy3 : w3.cell? ⟨g0, k * 6 + 3, none⟩ = some (.string y.p) := (hbW3.cell (p := ⟨g0, k * 6 + 3, none⟩) hgV).trans cx3; have cy4 : w3.cell? ⟨g0, k * 6 + 4, none⟩ = some (.int .i64 y.g) := (hbW3.cell (p := ⟨g0, k * 6 + 4, none⟩) hgV).trans cx4; have cy5 : w3.cell? ⟨g0, k * 6 + 5, none⟩ = some (.int .i64 y.d) := (hbW3.cell (p := ⟨g0, k * 6 + 5, none⟩) hgV).trans cx5; clear hown hgrow hnil hr3))
          | (refine step_append_own_at _ (by rfl) (.tmp 69) (.tmp 72) 28 (by rfl) V.heap.size 34 i0 (.agg #[.int .i64 0, .int .i64 0, .int .i64 0, .string ⟨#[]⟩, .int .i64 0, .int .i64 0]) 6 56 Tryz.underlying28 HI0.out.1 HI0.out.2.1 HI0.out.2.2.1 HI0.out.2.2.2 rfl (by omega) (.slice (some ⟨g2, 0, none⟩) (p + 1) c2) (p + 1) ((O.take p ++ [y]).flatMap scC) (by rfl) ?_ ⟨G, 0, none⟩ 0 (p - p) ((O.drop p).flatMap scC) (by rfl) ?_ ?_ all_oneS (by unfold maxLen; omega) (by omega) ?_ ?_; (focus (exact RowC.own HR2.out (by rw [List.length_append, htk]; rfl))); (focus (rw [flat_len scC_len, List.length_drop]; try omega)); (focus (rw [List.drop_eq_nil_of_le hpl]; intro j u hu; simp at hu)); (focus (have := hbW2.size; first | omega | exact this | (simp; omega))); (intro v' w3 hown hgrow hnil _; obtain ⟨g3, c3, rfl, hr3⟩ := RowC.of (n := p + 1 + 0) (l := O.take p ++ [y] ++ O.drop p) (by rw [List.flatMap_append]; exact hown) (by rw [List.length_append, List.length_append, htk, List.length_drop]; simp; try omega) (fun e => by have := (hnil.1 e).1; cases this); have hbW3 : Below V.heap.size V w3 := (by first | exact hbW2.grown hgrow hbW2.size (fun q e => by cases e; exact (RowC.low HR2.out).1) | exact hbW2.drew.grown hgrow hbW2.size (fun q e => by cases e; exact (RowC.low HR2.out).1)); have HR3 := Lib.hid hr3; have cy0 : w3.cell? ⟨g0, k * 6, none⟩ = some (.int .i64 y.h) := (hbW3.cell (p := ⟨g0, k * 6, none⟩) hgV).trans cx0; have cy1 : w3.cell? ⟨g0, k * 6 + 1, none⟩ = some (.int .i64 y.a) := (hbW3.cell (p := ⟨g0, k * 6 + 1, none⟩) hgV).trans cx1; have cy2 : w3.cell? ⟨g0, k * 6 + 2, none⟩ = some (.int .i64 y.k) := (hbW3.cell (p := ⟨g0, k * 6 + 2, none⟩) hgV).trans cx2; have cy3 : w3.cell? ⟨g0, k * 6 + 3, none⟩ = some (.string y.p) := (hbW3.cell (p := ⟨g0, k * 6 + 3, none⟩) hgV).trans cx3; have cy4 : w3.cell? ⟨g0, k * 6 + 4, none⟩ = some (.int .i64 y.g) := (hbW3.cell (p := ⟨g0, k * 6 + 4, none⟩) hgV).trans cx4; have cy5 : w3.cell? ⟨g0, k * 6 + 5, none⟩ = some (.int .i64 y.d) := (hbW3.cell (p := ⟨g0, k * 6 + 5, none⟩) hgV).trans cx5; clear hown hgrow hnil hr3))
          | (refine step_append_own_at _ (by rfl) (.tmp 69) (.tmp 72) 28 (by rfl) V.heap.size 34 i0 (.agg #[.int .i64 0, .int .i64 0, .int .i64 0, .string ⟨#[]⟩, .int .i64 0, .int .i64 0]) 6 56 Tryz.underlying28 HI0.out.1 HI0.out.2.1 HI0.out.2.2.1 HI0.out.2.2.2 rfl (by omega) (.slice (some ⟨g2, 0, none⟩) (p + 1) c2) (p + 1) ((O.take p ++ [y]).flatMap scC) (by rfl) ?_ ⟨G, 0, none⟩ 0 0 ((O.drop p).flatMap scC) (by rfl) ?_ ?_ all_oneS (by unfold maxLen; omega) (by omega) ?_ ?_; (focus (exact RowC.own HR2.out (by rw [List.length_append, htk]; rfl))); (focus (rw [flat_len scC_len, List.length_drop]; try omega)); (focus (rw [List.drop_eq_nil_of_le hpl]; intro j u hu; simp at hu)); (focus (have := hbW2.size; first | omega | exact this | (simp; omega))); (intro v' w3 hown hgrow hnil _; obtain ⟨g3, c3, rfl, hr3⟩ := RowC.of (n := p + 1 + 0) (l := O.take p ++ [y] ++ O.drop p) (by rw [List.flatMap_append]; exact hown) (by rw [List.length_append, List.length_append, htk, List.length_drop]; simp; try omega) (fun e => by have := (hnil.1 e).1; cases this); have hbW3 : Below V.heap.size V w3 := (by first | exact hbW2.grown hgrow hbW2.size (fun q e => by cases e; exact (RowC.low HR2.out).1) | exact hbW2.drew.grown hgrow hbW2.size (fun q e => by cases e; exact (RowC.low HR2.out).1)); have HR3 := Lib.hid hr3; have cy0 : w3.cell? ⟨g0, k * 6, none⟩ = some (.int .i64 y.h) := (hbW3.cell (p := ⟨g0, k * 6, none⟩) hgV).trans cx0; have cy1 : w3.cell? ⟨g0, k * 6 + 1, none⟩ = some (.int .i64 y.a) := (hbW3.cell (p := ⟨g0, k * 6 + 1, none⟩) hgV).trans cx1; have cy2 : w3.cell? ⟨g0, k * 6 + 2, none⟩ = some (.int .i64 y.k) := (hbW3.cell (p := ⟨g0, k * 6 + 2, none⟩) hgV).trans cx2; have cy3 : w3.cell? ⟨g0, k * 6 + 3, none⟩ = some (.string y.p) := (hbW3.cell (p := ⟨g0, k * 6 + 3, none⟩) hgV).trans cx3; have cy4 : w3.cell? ⟨g0, k * 6 + 4, none⟩ = some (.int .i64 y.g) := (hbW3.cell (p := ⟨g0, k * 6 + 4, none⟩) hgV).trans cx4; have cy5 : w3.cell? ⟨g0, k * 6 + 5, none⟩ = some (.int .i64 y.d) := (hbW3.cell (p := ⟨g0, k * 6 + 5, none⟩) hgV).trans cx5; clear hown hgrow hnil hr3))
          | fail)
        all_goals
         have hz3 : (O.take p ++ y :: O.drop p).length = p + 1 + 0 := by rw [List.length_append, htk, List.length_cons, List.length_drop]; omega
         have h3 : RowC w3 (B + 1) g3 c3 (O.take p ++ y :: O.drop p) := by
          have h4 := OwnK.mono HR3.out (show B + 1 ≤ V.heap.size by omega)
          rw [List.append_assoc] at h4
          exact h4
         have HR4 := Lib.hid h3
         have HB4 := Lib.hid (HBV.out.trans (hbW3.mono (by omega)))
         have HN4 := Lib.hid (HNV.out.below hbW3)
         have hz4 := hbW3.size
         clear h3 hbW3 hbW2 hbW1 cx0 cx1 cx2 cx3 cx4 cx5 cv0 cv1 cv2 cv3 cv4 cv5 cz0 cz1 cz2 cz3 cz4 cz5 cy0 cy1 cy2 cy3 cy4 cy5
         go_wp2
         go_roundw
         case rel => exact ⟨k + 1, g3, c3, O.take p ++ y :: O.drop p, by go_num, by omega, by omega, by rw [hz3], HIN, HR4, HB4, HN4, by omega, by omega⟩
         case measure => simp [intOf]; omega

       ·have hcz : 0 < c - p := by have := row_cap HRV.out; omega
        go_wp2_with fail
        go_region_held3 (fun w' => w'.cell? ⟨g0, k * 6, none⟩ = some (.int .i64 y.h) ∧ w'.cell? ⟨g0, k * 6 + 1, none⟩ = some (.int .i64 y.a) ∧ w'.cell? ⟨g0, k * 6 + 2, none⟩ = some (.int .i64 y.k) ∧ w'.cell? ⟨g0, k * 6 + 3, none⟩ = some (.string y.p) ∧ w'.cell? ⟨g0, k * 6 + 4, none⟩ = some (.int .i64 y.g) ∧ w'.cell? ⟨g0, k * 6 + 5, none⟩ = some (.int .i64 y.d))
         (go_keep)
         (first
          | (refine step_append_own_at _ (by rfl) (.tmp 59) (.tmp 62) 28 (by rfl) V.heap.size 34 i0 (.agg #[.int .i64 0, .int .i64 0, .int .i64 0, .string ⟨#[]⟩, .int .i64 0, .int .i64 0]) 6 56 Tryz.underlying28 HI0.out.1 HI0.out.2.1 HI0.out.2.2.1 HI0.out.2.2.2 rfl (by omega) (.slice (some ⟨V.heap.size, 0, none⟩) 0 0) 0 [] (by rfl) ?_ ⟨G, 0, none⟩ p c ((O.take p).flatMap scC) (by rfl) ?_ ?_ all_oneS (by unfold maxLen; omega) (by omega) ?_ ?_; (focus (first | exact own_nilS (by omega) (heap_alloc_new V _) | exact own_nilS (W := World.drew _) (by omega) (heap_alloc_new V _))); (focus (rw [flat_len scC_len, htk])); (focus (first | exact scs_take (OwnK.below HRV.out ((Below.refl _ _).alloc (Nat.le_refl _) _)) hp | exact scs_take (OwnK.below HRV.out ((Below.refl _ _).alloc (Nat.le_refl _) _).drew) hp)); (focus (first | omega | (simp; omega) | simp)); (intro v' w1 hown hgrow hnil _; obtain ⟨g1, c1, rfl, hr1⟩ := RowC.of (n := p) (l := O.take p) (by simpa using hown) htk (fun e => by have := (hnil.1 e).1; cases this); have hbW1 : Below V.heap.size V w1 := (by first | exact ((Below.refl _ _).alloc (Nat.le_refl _) _).grown hgrow (by first | (simp; done) | (simp; omega)) (fun q e => by cases e; first | (simp; done) | (simp; omega)) | exact ((Below.refl _ _).alloc (Nat.le_refl _) _).drew.grown hgrow (by first | (simp; done) | (simp; omega)) (fun q e => by cases e; first | (simp; done) | (simp; omega))); have HR1 := Lib.hid hr1; have cv0 : w1.cell? ⟨g0, k * 6, none⟩ = some (.int .i64 y.h) := (hbW1.cell (p := ⟨g0, k * 6, none⟩) hgV).trans cx0; have cv1 : w1.cell? ⟨g0, k * 6 + 1, none⟩ = some (.int .i64 y.a) := (hbW1.cell (p := ⟨g0, k * 6 + 1, none⟩) hgV).trans cx1; have cv2 : w1.cell? ⟨g0, k * 6 + 2, none⟩ = some (.int .i64 y.k) := (hbW1.cell (p := ⟨g0, k * 6 + 2, none⟩) hgV).trans cx2; have cv3 : w1.cell? ⟨g0, k * 6 + 3, none⟩ = some (.string y.p) := (hbW1.cell (p := ⟨g0, k * 6 + 3, none⟩) hgV).trans cx3; have cv4 : w1.cell? ⟨g0, k * 6 + 4, none⟩ = some (.int .i64 y.g) := (hbW1.cell (p := ⟨g0, k * 6 + 4, none⟩) hgV).trans cx4; have cv5 : w1.cell? ⟨g0, k * 6 + 5, none⟩ = some (.int .i64 y.d) := (hbW1.cell (p := ⟨g0, k * 6 + 5, none⟩) hgV).trans cx5; clear hown hgrow hnil hr1))
          | (refine step_append_own_at _ (by rfl) (.tmp 59) (.tmp 62) 28 (by rfl) V.heap.size 34 i0 (.agg #[.int .i64 0, .int .i64 0, .int .i64 0, .string ⟨#[]⟩, .int .i64 0, .int .i64 0]) 6 56 Tryz.underlying28 HI0.out.1 HI0.out.2.1 HI0.out.2.2.1 HI0.out.2.2.2 rfl (by omega) (.slice (some ⟨V.heap.size, 0, none⟩) 0 0) 0 [] (by rfl) ?_ ⟨G, 0, none⟩ p c ((O.take p).flatMap scC) (by rfl) ?_ ?_ all_oneS (by unfold maxLen; omega) (by omega) ?_ ?_; (focus (first | exact own_nilS (by omega) (heap_alloc2_old V _ _) | exact own_nilS (W := World.drew _) (by omega) (heap_alloc2_old V _ _))); (focus (rw [flat_len scC_len, htk])); (focus (first | exact scs_take (OwnK.below HRV.out (((Below.refl _ _).alloc (Nat.le_refl _) _).alloc (by first | (simp; done) | (simp; omega)) _)) hp | exact scs_take (OwnK.below HRV.out (((Below.refl _ _).alloc (Nat.le_refl _) _).alloc (by first | (simp; done) | (simp; omega)) _).drew) hp)); (focus (first | omega | (simp; omega) | simp)); (intro v' w1 hown hgrow hnil _; obtain ⟨g1, c1, rfl, hr1⟩ := RowC.of (n := p) (l := O.take p) (by simpa using hown) htk (fun e => by have := (hnil.1 e).1; cases this); have hbW1 : Below V.heap.size V w1 := (by first | exact (((Below.refl _ _).alloc (Nat.le_refl _) _).alloc (by first | (simp; done) | (simp; omega)) _).grown hgrow (by first | (simp; done) | (simp; omega)) (fun q e => by cases e; first | (simp; done) | (simp; omega)) | exact (((Below.refl _ _).alloc (Nat.le_refl _) _).alloc (by first | (simp; done) | (simp; omega)) _).drew.grown hgrow (by first | (simp; done) | (simp; omega)) (fun q e => by cases e; first | (simp; done) | (simp; omega))); have HR1 := Lib.hid hr1; have HYB := Lib.hid (show w1.heap[V.heap.size + 1]? = some (.cells #[.int .i64 y.h, .int .i64 y.a, .int .i64 y.k, .string y.p, .int .i64 y.g, .int .i64 y.d] 34 (0, 0)) from (hgrow.block (V.heap.size + 1) (by first | (simp; done) | (simp; omega)) (by intro e; have e2 := Option.some.inj e; simp at e2)).trans (heap_alloc2_new V _ _)); have cv0 : w1.cell? ⟨g0, k * 6, none⟩ = some (.int .i64 y.h) := (hbW1.cell (p := ⟨g0, k * 6, none⟩) hgV).trans cx0; have cv1 : w1.cell? ⟨g0, k * 6 + 1, none⟩ = some (.int .i64 y.a) := (hbW1.cell (p := ⟨g0, k * 6 + 1, none⟩) hgV).trans cx1; have cv2 : w1.cell? ⟨g0, k * 6 + 2, none⟩ = some (.int .i64 y.k) := (hbW1.cell (p := ⟨g0, k * 6 + 2, none⟩) hgV).trans cx2; have cv3 : w1.cell? ⟨g0, k * 6 + 3, none⟩ = some (.string y.p) := (hbW1.cell (p := ⟨g0, k * 6 + 3, none⟩) hgV).trans cx3; have cv4 : w1.cell? ⟨g0, k * 6 + 4, none⟩ = some (.int .i64 y.g) := (hbW1.cell (p := ⟨g0, k * 6 + 4, none⟩) hgV).trans cx4; have cv5 : w1.cell? ⟨g0, k * 6 + 5, none⟩ = some (.int .i64 y.d) := (hbW1.cell (p := ⟨g0, k * 6 + 5, none⟩) hgV).trans cx5; clear hown hgrow hnil hr1))
          | (refine step_append_own_at _ (by rfl) (.tmp 59) (.tmp 62) 28 (by rfl) V.heap.size 34 i0 (.agg #[.int .i64 0, .int .i64 0, .int .i64 0, .string ⟨#[]⟩, .int .i64 0, .int .i64 0]) 6 56 Tryz.underlying28 HI0.out.1 HI0.out.2.1 HI0.out.2.2.1 HI0.out.2.2.2 rfl (by omega) (.slice (some ⟨(V.heap.size + 1), 0, none⟩) 0 0) 0 [] (by rfl) ?_ ⟨G, 0, none⟩ p c ((O.take p).flatMap scC) (by rfl) ?_ ?_ all_oneS (by unfold maxLen; omega) (by omega) ?_ ?_; (focus (first | exact own_nilS (by omega) (heap_alloc2_new V _ _) | exact own_nilS (W := World.drew _) (by omega) (heap_alloc2_new V _ _))); (focus (rw [flat_len scC_len, htk])); (focus (first | exact scs_take (OwnK.below HRV.out (((Below.refl _ _).alloc (Nat.le_refl _) _).alloc (by first | (simp; done) | (simp; omega)) _)) hp | exact scs_take (OwnK.below HRV.out (((Below.refl _ _).alloc (Nat.le_refl _) _).alloc (by first | (simp; done) | (simp; omega)) _).drew) hp)); (focus (first | omega | (simp; omega) | simp)); (intro v' w1 hown hgrow hnil _; obtain ⟨g1, c1, rfl, hr1⟩ := RowC.of (n := p) (l := O.take p) (by simpa using hown) htk (fun e => by have := (hnil.1 e).1; cases this); have hbW1 : Below V.heap.size V w1 := (by first | exact (((Below.refl _ _).alloc (Nat.le_refl _) _).alloc (by first | (simp; done) | (simp; omega)) _).grown hgrow (by first | (simp; done) | (simp; omega)) (fun q e => by cases e; first | (simp; done) | (simp; omega)) | exact (((Below.refl _ _).alloc (Nat.le_refl _) _).alloc (by first | (simp; done) | (simp; omega)) _).drew.grown hgrow (by first | (simp; done) | (simp; omega)) (fun q e => by cases e; first | (simp; done) | (simp; omega))); have HR1 := Lib.hid hr1; have HYB := Lib.hid (show w1.heap[V.heap.size]? = some (.cells #[.int .i64 y.h, .int .i64 y.a, .int .i64 y.k, .string y.p, .int .i64 y.g, .int .i64 y.d] 34 (0, 0)) from (hgrow.block (V.heap.size) (by first | (simp; done) | (simp; omega)) (by intro e; have e2 := Option.some.inj e; simp at e2)).trans (heap_alloc2_old V _ _)); have cv0 : w1.cell? ⟨g0, k * 6, none⟩ = some (.int .i64 y.h) := (hbW1.cell (p := ⟨g0, k * 6, none⟩) hgV).trans cx0; have cv1 : w1.cell? ⟨g0, k * 6 + 1, none⟩ = some (.int .i64 y.a) := (hbW1.cell (p := ⟨g0, k * 6 + 1, none⟩) hgV).trans cx1; have cv2 : w1.cell? ⟨g0, k * 6 + 2, none⟩ = some (.int .i64 y.k) := (hbW1.cell (p := ⟨g0, k * 6 + 2, none⟩) hgV).trans cx2; have cv3 : w1.cell? ⟨g0, k * 6 + 3, none⟩ = some (.string y.p) := (hbW1.cell (p := ⟨g0, k * 6 + 3, none⟩) hgV).trans cx3; have cv4 : w1.cell? ⟨g0, k * 6 + 4, none⟩ = some (.int .i64 y.g) := (hbW1.cell (p := ⟨g0, k * 6 + 4, none⟩) hgV).trans cx4; have cv5 : w1.cell? ⟨g0, k * 6 + 5, none⟩ = some (.int .i64 y.d) := (hbW1.cell (p := ⟨g0, k * 6 + 5, none⟩) hgV).trans cx5; clear hown hgrow hnil hr1))
          | (refine step_append_own_at _ (by rfl) (.tmp 63) (.tmp 68) 28 (by rfl) V.heap.size 34 i0 (.agg #[.int .i64 0, .int .i64 0, .int .i64 0, .string ⟨#[]⟩, .int .i64 0, .int .i64 0]) 6 56 Tryz.underlying28 HI0.out.1 HI0.out.2.1 HI0.out.2.2.1 HI0.out.2.2.2 rfl (by omega) (.slice (some ⟨g1, 0, none⟩) p c1) p ((O.take p).flatMap scC) (by rfl) ?_ ⟨w1.heap.size, 0, none⟩ 1 1 (scC y) (by rfl) (by rfl) ?_ (one_sc y) (by unfold maxLen; omega) (by omega) ?_ ?_; (focus (first | exact RowC.own (OwnK.below HR1.out ((Below.refl _ _).alloc (Nat.le_refl _) _)) htk | exact RowC.own (OwnK.below HR1.out ((Below.refl _ _).alloc (Nat.le_refl _) _).drew) htk)); (focus (exact World.news_of_block (cs := #[.int .i64 y.h, .int .i64 y.a, .int .i64 y.k, .string y.p, .int .i64 y.g, .int .i64 y.d]) (t := 34) (fr := (0, 0)) (heap_alloc_new w1 _))); (focus (have := hbW1.size; first | omega | exact this | (simp; omega))); (intro v' w2 hown hgrow hnil _; obtain ⟨g2, c2, rfl, hr2⟩ := RowC.of (n := p + 1) (l := O.take p ++ [y]) (by rw [List.flatMap_append, List.flatMap_singleton]; exact hown) (by rw [List.length_append, htk]; rfl) (fun e => by have := (hnil.1 e).1; cases this); have hbW2 : Below V.heap.size V w2 := (by first | exact (hbW1.alloc hbW1.size _).grown hgrow (by have := hbW1.size; first | omega | (simp; omega)) (fun q e => by cases e; exact (RowC.low HR1.out).1) | exact (hbW1.alloc hbW1.size _).drew.grown hgrow (by have := hbW1.size; first | omega | (simp; omega)) (fun q e => by cases e; exact (RowC.low HR1.out).1)); have HR2 := Lib.hid hr2; have cz0 : w2.cell? ⟨g0, k * 6, none⟩ = some (.int .i64 y.h) := (hbW2.cell (p := ⟨g0, k * 6, none⟩) hgV).trans cx0; have cz1 : w2.cell? ⟨g0, k * 6 + 1, none⟩ = some (.int .i64 y.a) := (hbW2.cell (p := ⟨g0, k * 6 + 1, none⟩) hgV).trans cx1; have cz2 : w2.cell? ⟨g0, k * 6 + 2, none⟩ = some (.int .i64 y.k) := (hbW2.cell (p := ⟨g0, k * 6 + 2, none⟩) hgV).trans cx2; have cz3 : w2.cell? ⟨g0, k * 6 + 3, none⟩ = some (.string y.p) := (hbW2.cell (p := ⟨g0, k * 6 + 3, none⟩) hgV).trans cx3; have cz4 : w2.cell? ⟨g0, k * 6 + 4, none⟩ = some (.int .i64 y.g) := (hbW2.cell (p := ⟨g0, k * 6 + 4, none⟩) hgV).trans cx4; have cz5 : w2.cell? ⟨g0, k * 6 + 5, none⟩ = some (.int .i64 y.d) := (hbW2.cell (p := ⟨g0, k * 6 + 5, none⟩) hgV).trans cx5; clear hown hgrow hnil hr2))
          | (refine step_append_own_at _ (by rfl) (.tmp 63) (.tmp 68) 28 (by rfl) V.heap.size 34 i0 (.agg #[.int .i64 0, .int .i64 0, .int .i64 0, .string ⟨#[]⟩, .int .i64 0, .int .i64 0]) 6 56 Tryz.underlying28 HI0.out.1 HI0.out.2.1 HI0.out.2.2.1 HI0.out.2.2.2 rfl (by omega) (.slice (some ⟨g1, 0, none⟩) p c1) p ((O.take p).flatMap scC) (by rfl) ?_ ⟨V.heap.size + 1, 0, none⟩ 1 1 (scC y) (by rfl) (by rfl) ?_ (one_sc y) (by unfold maxLen; omega) (by omega) ?_ ?_; (focus (exact RowC.own HR1.out htk)); (focus (exact World.news_of_block (cs := #[.int .i64 y.h, .int .i64 y.a, .int .i64 y.k, .string y.p, .int .i64 y.g, .int .i64 y.d]) (t := 34) (fr := (0, 0)) HYB.out)); (focus (have := hbW1.size; first | omega | exact this | (simp; omega))); (intro v' w2 hown hgrow hnil _; obtain ⟨g2, c2, rfl, hr2⟩ := RowC.of (n := p + 1) (l := O.take p ++ [y]) (by rw [List.flatMap_append, List.flatMap_singleton]; exact hown) (by rw [List.length_append, htk]; rfl) (fun e => by have := (hnil.1 e).1; cases this); have hbW2 : Below V.heap.size V w2 := (by first | exact (hbW1).grown hgrow (by have := hbW1.size; first | omega | (simp; omega)) (fun q e => by cases e; exact (RowC.low HR1.out).1) | exact (hbW1).drew.grown hgrow (by have := hbW1.size; first | omega | (simp; omega)) (fun q e => by cases e; exact (RowC.low HR1.out).1)); have HR2 := Lib.hid hr2; have cz0 : w2.cell? ⟨g0, k * 6, none⟩ = some (.int .i64 y.h) := (hbW2.cell (p := ⟨g0, k * 6, none⟩) hgV).trans cx0; have cz1 : w2.cell? ⟨g0, k * 6 + 1, none⟩ = some (.int .i64 y.a) := (hbW2.cell (p := ⟨g0, k * 6 + 1, none⟩) hgV).trans cx1; have cz2 : w2.cell? ⟨g0, k * 6 + 2, none⟩ = some (.int .i64 y.k) := (hbW2.cell (p := ⟨g0, k * 6 + 2, none⟩) hgV).trans cx2; have cz3 : w2.cell? ⟨g0, k * 6 + 3, none⟩ = some (.string y.p) := (hbW2.cell (p := ⟨g0, k * 6 + 3, none⟩) hgV).trans cx3; have cz4 : w2.cell? ⟨g0, k * 6 + 4, none⟩ = some (.int .i64 y.g) := (hbW2.cell (p := ⟨g0, k * 6 + 4, none⟩) hgV).trans cx4; have cz5 : w2.cell? ⟨g0, k * 6 + 5, none⟩ = some (.int .i64 y.d) := (hbW2.cell (p := ⟨g0, k * 6 + 5, none⟩) hgV).trans cx5; clear hown hgrow hnil hr2))
          | (refine step_append_own_at _ (by rfl) (.tmp 63) (.tmp 68) 28 (by rfl) V.heap.size 34 i0 (.agg #[.int .i64 0, .int .i64 0, .int .i64 0, .string ⟨#[]⟩, .int .i64 0, .int .i64 0]) 6 56 Tryz.underlying28 HI0.out.1 HI0.out.2.1 HI0.out.2.2.1 HI0.out.2.2.2 rfl (by omega) (.slice (some ⟨g1, 0, none⟩) p c1) p ((O.take p).flatMap scC) (by rfl) ?_ ⟨V.heap.size, 0, none⟩ 1 1 (scC y) (by rfl) (by rfl) ?_ (one_sc y) (by unfold maxLen; omega) (by omega) ?_ ?_; (focus (exact RowC.own HR1.out htk)); (focus (exact World.news_of_block (cs := #[.int .i64 y.h, .int .i64 y.a, .int .i64 y.k, .string y.p, .int .i64 y.g, .int .i64 y.d]) (t := 34) (fr := (0, 0)) HYB.out)); (focus (have := hbW1.size; first | omega | exact this | (simp; omega))); (intro v' w2 hown hgrow hnil _; obtain ⟨g2, c2, rfl, hr2⟩ := RowC.of (n := p + 1) (l := O.take p ++ [y]) (by rw [List.flatMap_append, List.flatMap_singleton]; exact hown) (by rw [List.length_append, htk]; rfl) (fun e => by have := (hnil.1 e).1; cases this); have hbW2 : Below V.heap.size V w2 := (by first | exact (hbW1).grown hgrow (by have := hbW1.size; first | omega | (simp; omega)) (fun q e => by cases e; exact (RowC.low HR1.out).1) | exact (hbW1).drew.grown hgrow (by have := hbW1.size; first | omega | (simp; omega)) (fun q e => by cases e; exact (RowC.low HR1.out).1)); have HR2 := Lib.hid hr2; have cz0 : w2.cell? ⟨g0, k * 6, none⟩ = some (.int .i64 y.h) := (hbW2.cell (p := ⟨g0, k * 6, none⟩) hgV).trans cx0; have cz1 : w2.cell? ⟨g0, k * 6 + 1, none⟩ = some (.int .i64 y.a) := (hbW2.cell (p := ⟨g0, k * 6 + 1, none⟩) hgV).trans cx1; have cz2 : w2.cell? ⟨g0, k * 6 + 2, none⟩ = some (.int .i64 y.k) := (hbW2.cell (p := ⟨g0, k * 6 + 2, none⟩) hgV).trans cx2; have cz3 : w2.cell? ⟨g0, k * 6 + 3, none⟩ = some (.string y.p) := (hbW2.cell (p := ⟨g0, k * 6 + 3, none⟩) hgV).trans cx3; have cz4 : w2.cell? ⟨g0, k * 6 + 4, none⟩ = some (.int .i64 y.g) := (hbW2.cell (p := ⟨g0, k * 6 + 4, none⟩) hgV).trans cx4; have cz5 : w2.cell? ⟨g0, k * 6 + 5, none⟩ = some (.int .i64 y.d) := (hbW2.cell (p := ⟨g0, k * 6 + 5, none⟩) hgV).trans cx5; clear hown hgrow hnil hr2))
          | (refine step_append_own_at _ (by rfl) (.tmp 69) (.tmp 72) 28 (by rfl) V.heap.size 34 i0 (.agg #[.int .i64 0, .int .i64 0, .int .i64 0, .string ⟨#[]⟩, .int .i64 0, .int .i64 0]) 6 56 Tryz.underlying28 HI0.out.1 HI0.out.2.1 HI0.out.2.2.1 HI0.out.2.2.2 rfl (by omega) (.slice (some ⟨g2, 0, none⟩) (p + 1) c2) (p + 1) ((O.take p ++ [y]).flatMap scC) (by rfl) ?_ ⟨G, p * 6, none⟩ 0 (c - p) ((O.drop p).flatMap scC) (by rfl) ?_ ?_ all_oneS (by unfold maxLen; omega) (by omega) ?_ ?_; (focus (exact RowC.own HR2.out (by rw [List.length_append, htk]; rfl))); (focus (rw [flat_len scC_len, List.length_drop]; try omega)); (focus (rw [List.drop_eq_nil_of_le hpl]; intro j u hu; simp at hu)); (focus (have := hbW2.size; first | omega | exact this | (simp; omega))); (intro v' w3 hown hgrow hnil _; obtain ⟨g3, c3, rfl, hr3⟩ := RowC.of (n := p + 1 + 0) (l := O.take p ++ [y] ++ O.drop p) (by rw [List.flatMap_append]; exact hown) (by rw [List.length_append, List.length_append, htk, List.length_drop]; simp; try omega) (fun e => by have := (hnil.1 e).1; cases this); have hbW3 : Below V.heap.size V w3 := (by first | exact hbW2.grown hgrow hbW2.size (fun q e => by cases e; exact (RowC.low HR2.out).1) | exact hbW2.drew.grown hgrow hbW2.size (fun q e => by cases e; exact (RowC.low HR2.out).1)); have HR3 := Lib.hid hr3; have cy0 : w3.cell? ⟨g0, k * 6, none⟩ = some (.int .i64 y.h) := (hbW3.cell (p := ⟨g0, k * 6, none⟩) hgV).trans cx0; have cy1 : w3.cell? ⟨g0, k * 6 + 1, none⟩ = some (.int .i64 y.a) := (hbW3.cell (p := ⟨g0, k * 6 + 1, none⟩) hgV).trans cx1; have cy2 : w3.cell? ⟨g0, k * 6 + 2, none⟩ = some (.int .i64 y.k) := (hbW3.cell (p := ⟨g0, k * 6 + 2, none⟩) hgV).trans cx2; have cy3 : w3.cell? ⟨g0, k * 6 + 3, none⟩ = some (.string y.p) := (hbW3.cell (p := ⟨g0, k * 6 + 3, none⟩) hgV).trans cx3; have cy4 : w3.cell? ⟨g0, k * 6 + 4, none⟩ = some (.int .i64 y.g) := (hbW3.cell (p := ⟨g0, k * 6 + 4, none⟩) hgV).trans cx4; have cy5 : w3.cell? ⟨g0, k * 6 + 5, none⟩ = some (.int .i64 y.d) := (hbW3.cell (p := ⟨g0, k * 6 + 5, none⟩) hgV).trans cx5; clear hown hgrow hnil hr3))
          | (refine step_append_own_at _ (by rfl) (.tmp 69) (.tmp 72) 28 (by rfl) V.heap.size 34 i0 (.agg #[.int .i64 0, .int .i64 0, .int .i64 0, .string ⟨#[]⟩, .int .i64 0, .int .i64 0]) 6 56 Tryz.underlying28 HI0.out.1 HI0.out.2.1 HI0.out.2.2.1 HI0.out.2.2.2 rfl (by omega) (.slice (some ⟨g2, 0, none⟩) (p + 1) c2) (p + 1) ((O.take p ++ [y]).flatMap scC) (by rfl) ?_ ⟨G, 0, none⟩ 0 (c - p) ((O.drop p).flatMap scC) (by rfl) ?_ ?_ all_oneS (by unfold maxLen; omega) (by omega) ?_ ?_; (focus (exact RowC.own HR2.out (by rw [List.length_append, htk]; rfl))); (focus (rw [flat_len scC_len, List.length_drop]; try omega)); (focus (rw [List.drop_eq_nil_of_le hpl]; intro j u hu; simp at hu)); (focus (have := hbW2.size; first | omega | exact this | (simp; omega))); (intro v' w3 hown hgrow hnil _; obtain ⟨g3, c3, rfl, hr3⟩ := RowC.of (n := p + 1 + 0) (l := O.take p ++ [y] ++ O.drop p) (by rw [List.flatMap_append]; exact hown) (by rw [List.length_append, List.length_append, htk, List.length_drop]; simp; try omega) (fun e => by have := (hnil.1 e).1; cases this); have hbW3 : Below V.heap.size V w3 := (by first | exact hbW2.grown hgrow hbW2.size (fun q e => by cases e; exact (RowC.low HR2.out).1) | exact hbW2.drew.grown hgrow hbW2.size (fun q e => by cases e; exact (RowC.low HR2.out).1)); have HR3 := Lib.hid hr3; have cy0 : w3.cell? ⟨g0, k * 6, none⟩ = some (.int .i64 y.h) := (hbW3.cell (p := ⟨g0, k * 6, none⟩) hgV).trans cx0; have cy1 : w3.cell? ⟨g0, k * 6 + 1, none⟩ = some (.int .i64 y.a) := (hbW3.cell (p := ⟨g0, k * 6 + 1, none⟩) hgV).trans cx1; have cy2 : w3.cell? ⟨g0, k * 6 + 2, none⟩ = some (.int .i64 y.k) := (hbW3.cell (p := ⟨g0, k * 6 + 2, none⟩) hgV).trans cx2; have cy3 : w3.cell? ⟨g0, k * 6 + 3, none⟩ = some (.string y.p) := (hbW3.cell (p := ⟨g0, k * 6 + 3, none⟩) hgV).trans cx3; have cy4 : w3.cell? ⟨g0, k * 6 + 4, none⟩ = some (.int .i64 y.g) := (hbW3.cell (p := ⟨g0, k * 6 + 4, none⟩) hgV).trans cx4; have cy5 : w3.cell? ⟨g0, k * 6 + 5, none⟩ = some (.int .i64 y.d) := (hbW3.cell (p := ⟨g0, k * 6 + 5, none⟩) hgV).trans cx5; clear hown hgrow hnil hr3))
          | (refine step_append_own_at _ (by rfl) (.tmp 69) (.tmp 72) 28 (by rfl) V.heap.size 34 i0 (.agg #[.int .i64 0, .int .i64 0, .int .i64 0, .string ⟨#[]⟩, .int .i64 0, .int .i64 0]) 6 56 Tryz.underlying28 HI0.out.1 HI0.out.2.1 HI0.out.2.2.1 HI0.out.2.2.2 rfl (by omega) (.slice (some ⟨g2, 0, none⟩) (p + 1) c2) (p + 1) ((O.take p ++ [y]).flatMap scC) (by rfl) ?_ ⟨G, 0, none⟩ 0 0 ((O.drop p).flatMap scC) (by rfl) ?_ ?_ all_oneS (by unfold maxLen; omega) (by omega) ?_ ?_; (focus (exact RowC.own HR2.out (by rw [List.length_append, htk]; rfl))); (focus (rw [flat_len scC_len, List.length_drop]; try omega)); (focus (rw [List.drop_eq_nil_of_le hpl]; intro j u hu; simp at hu)); (focus (have := hbW2.size; first | omega | exact this | (simp; omega))); (intro v' w3 hown hgrow hnil _; obtain ⟨g3, c3, rfl, hr3⟩ := RowC.of (n := p + 1 + 0) (l := O.take p ++ [y] ++ O.drop p) (by rw [List.flatMap_append]; exact hown) (by rw [List.length_append, List.length_append, htk, List.length_drop]; simp; try omega) (fun e => by have := (hnil.1 e).1; cases this); have hbW3 : Below V.heap.size V w3 := (by first | exact hbW2.grown hgrow hbW2.size (fun q e => by cases e; exact (RowC.low HR2.out).1) | exact hbW2.drew.grown hgrow hbW2.size (fun q e => by cases e; exact (RowC.low HR2.out).1)); have HR3 := Lib.hid hr3; have cy0 : w3.cell? ⟨g0, k * 6, none⟩ = some (.int .i64 y.h) := (hbW3.cell (p := ⟨g0, k * 6, none⟩) hgV).trans cx0; have cy1 : w3.cell? ⟨g0, k * 6 + 1, none⟩ = some (.int .i64 y.a) := (hbW3.cell (p := ⟨g0, k * 6 + 1, none⟩) hgV).trans cx1; have cy2 : w3.cell? ⟨g0, k * 6 + 2, none⟩ = some (.int .i64 y.k) := (hbW3.cell (p := ⟨g0, k * 6 + 2, none⟩) hgV).trans cx2; have cy3 : w3.cell? ⟨g0, k * 6 + 3, none⟩ = some (.string y.p) := (hbW3.cell (p := ⟨g0, k * 6 + 3, none⟩) hgV).trans cx3; have cy4 : w3.cell? ⟨g0, k * 6 + 4, none⟩ = some (.int .i64 y.g) := (hbW3.cell (p := ⟨g0, k * 6 + 4, none⟩) hgV).trans cx4; have cy5 : w3.cell? ⟨g0, k * 6 + 5, none⟩ = some (.int .i64 y.d) := (hbW3.cell (p := ⟨g0, k * 6 + 5, none⟩) hgV).trans cx5; clear hown hgrow hnil hr3))
          | fail)
        all_goals
         have hz3 : (O.take p ++ y :: O.drop p).length = p + 1 + 0 := by rw [List.length_append, htk, List.length_cons, List.length_drop]; omega
         have h3 : RowC w3 (B + 1) g3 c3 (O.take p ++ y :: O.drop p) := by
          have h4 := OwnK.mono HR3.out (show B + 1 ≤ V.heap.size by omega)
          rw [List.append_assoc] at h4
          exact h4
         have HR4 := Lib.hid h3
         have HB4 := Lib.hid (HBV.out.trans (hbW3.mono (by omega)))
         have HN4 := Lib.hid (HNV.out.below hbW3)
         have hz4 := hbW3.size
         clear h3 hbW3 hbW2 hbW1 cx0 cx1 cx2 cx3 cx4 cx5 cv0 cv1 cv2 cv3 cv4 cv5 cz0 cz1 cz2 cz3 cz4 cz5 cy0 cy1 cy2 cy3 cy4 cy5
         go_wp2
         go_roundw
         case rel => exact ⟨k + 1, g3, c3, O.take p ++ y :: O.drop p, by go_num, by omega, by omega, by rw [hz3], HIN, HR4, HB4, HN4, by omega, by omega⟩
         case measure => simp [intOf]; omega

   ·have hk3 : k = 200 := by omega
    have HSV := Lib.hid (show sortV l zs x ls = O from by rw [hin.out.done, validU_all (show k = min ls.length 200 by omega)]; rfl)
    clear hin n0 n1 n2
    go_wp2
    go_ret
    rw [HSV.out]
    exact ⟨G, c, rfl, OwnK.mono hrw.out (by omega), hbw.out⟩
  ·have hk3 : k = ls.length := by omega
   have HSV := Lib.hid (show sortV l zs x ls = O from by rw [hin.out.done, validU_all (show k = min ls.length 200 by omega)]; rfl)
   clear hin n0 n1 n2
   go_wp2
   go_ret
   rw [HSV.out]
   exact ⟨G, c, rfl, OwnK.mono hrw.out (by omega), hbw.out⟩
end Go.Proofs.YtinijleelhbpoaaGreat

/- Comparing, marking and holding a slice of Scan of the call's own. Written by mk/scanmk.py. -/
namespace Go.Proofs.YtinijleelhbpoaaGreat
open Go.RowKit
abbrev OwnKsc (w : World) (b : Nat) (v : Value) (l : List Sc) : Prop := OwnK 34 6 scC w b v l
theorem below_sc {w w' : World} {b : Nat} {v : Value} {l : List Sc} (h : OwnKsc w b v l) (hb : Below w.heap.size w w') : OwnKsc w' b v l := OwnK.below h hb
def mk_sc (k n : Nat) : List Sc := (List.range n).map fun i => ⟨((k + 6 * i + 0 : Nat) : Int), ((k + 6 * i + 1 : Nat) : Int), ((k + 6 * i + 2 : Nat) : Int), mtxt (k + 6 * i + 3), ((k + 6 * i + 4 : Nat) : Int), ((k + 6 * i + 5 : Nat) : Int)⟩
theorem mk_sc_len (k n : Nat) : (mk_sc k n).length = n := by simp [mk_sc]
theorem mk_sc_succ (k n : Nat) : (mk_sc k (n + 1)).flatMap scC = (mk_sc k n).flatMap scC ++ [.int .i64 (((k + 6 * n + 0 : Nat) : Int)), .int .i64 (((k + 6 * n + 1 : Nat) : Int)), .int .i64 (((k + 6 * n + 2 : Nat) : Int)), .string (mtxt (k + 6 * n + 3)), .int .i64 (((k + 6 * n + 4 : Nat) : Int)), .int .i64 (((k + 6 * n + 5 : Nat) : Int))] := by
 simp [mk_sc, List.range_succ, scC]
theorem mk_sc_flen (k n : Nat) : ((mk_sc k n).flatMap scC).length = n * 6 := by rw [flat_len scC_len, mk_sc_len]
theorem eqo_sc (u v : Value) (l : List Sc) (b c : Nat) (w : World) (hu : OwnKsc w b u l) (hv : OwnKsc w c v l) (hn : l.length ≤ 1048576) :
  Calls Tryz.prog 53 #[u, v] w fun e w' => e = .returned (.bool true) ∧ Below w.heap.size w w' := by
 obtain ⟨A, ca, rfl⟩ := hu.opens
 obtain ⟨B, cb, rfl⟩ := hv.opens
 exact eq_scs A B ca cb l w (hu.ins scC_len).2 (hv.ins scC_len).2 (by omega)
set_option maxRecDepth 100000 in
set_option maxHeartbeats 2000000 in
theorem mark_sc (v : Value) (k0 b : Nat) (l : List Sc) (w : World) (hv : OwnKsc w b v l) (hn : l.length ≤ 1048576) (_h0 : 0 < k0) (hk : k0 ≤ 1000000000) :
  Calls Tryz.prog 59 #[v, .int .i64 k0] w fun e w' => e = .returned (.int .i64 ((k0 + 6 * l.length : Nat) : Int)) ∧ OwnKsc w' b v (mk_sc k0 l.length) ∧ w.grownBy w' v.ownBlock := by
 by_cases h0 : l = []
 ·subst h0
  obtain ⟨A, cap, rfl⟩ := hv.opens
  have HV := Lib.hid hv; clear hv
  rw [show ([] : List Sc).length = 0 from rfl] at *
  go_enter Tryz.func59, Tryz.ntmps59
  go_wp2
  go_loopw [1, 5] (fun k' i wr => i = .int .i64 0 ∧ k' = .int .i64 k0 ∧ wr = w) (fun _ _ _ => 0)
  case atStart => exact ⟨rfl, rfl, rfl⟩
  case round =>
   obtain ⟨rfl, rfl, rfl⟩ := hrel
   go_wp2
   go_ret
   exact ⟨rfl, HV.out, ⟨rfl, rfl, rfl, Nat.le_refl _, fun _ _ _ => rfl⟩⟩
 ·obtain ⟨g, cap, rfl, _, _⟩ := hv.row h0
  clear h0
  have hcl : (l.flatMap scC).length = l.length * 6 := flat_len scC_len l
  have hv' : w.ownsRow b 34 6 (.slice (some ⟨g, 0, none⟩) l.length cap) l.length ((mk_sc k0 0).flatMap scC ++ (l.flatMap scC).drop 0) := by
   have h : w.ownsRow b 34 6 (.slice (some ⟨g, 0, none⟩) l.length cap) l.length (l.flatMap scC) := hv
   simpa [mk_sc] using h
  have HV := Lib.hid hv'; clear hv hv'
  generalize l.flatMap scC = cs at *
  rw [show (Value.slice (some ⟨g, 0, none⟩) l.length cap).ownBlock = some g from rfl]
  go_enter Tryz.func59, Tryz.ntmps59
  go_wp2
  go_loopw [1, 5] (fun k i wr => ∃ j : Nat, j ≤ l.length ∧ i = .int .i64 j ∧ k = .int .i64 ((k0 + 6 * j : Nat) : Int) ∧ wr.ownsRow b 34 6 (.slice (some ⟨g, 0, none⟩) l.length cap) l.length ((mk_sc k0 j).flatMap scC ++ cs.drop (j * 6)) ∧ w.grownBy wr (some g)) (fun _ i _ => l.length - (intOf i).toNat)
  case atStart => exact ⟨0, Nat.zero_le _, rfl, rfl, by simpa using HV.out, ⟨rfl, rfl, rfl, Nat.le_refl _, fun _ _ _ => rfl⟩⟩
  case round =>
   obtain ⟨j, hj, rfl, rfl, hown, hgr⟩ := hrel
   clear HV
   by_cases hlt : (j : Int) < (l.length : Int)
   ·have hjn : j < l.length := by omega
    have HSU := Lib.hid (mk_sc_succ k0 j)
    have hpl := mk_sc_flen k0 j
    obtain ⟨K, hK⟩ : ∃ K, K = k0 + 6 * j := ⟨_, rfl⟩
    rw [← hK] at HSU ⊢
    have HK := Lib.hid hK
    have hKb : K ≤ 9223372036854775000 := by omega
    have hKp : 0 < K := by omega
    clear hK
    have hjj : (j + 1) * 6 ≤ l.length * 6 := Nat.mul_le_mul_right 6 hjn
    have hj1 : (j + 1) * 6 = j * 6 + 6 := by omega
    generalize (mk_sc k0 j).flatMap scC = P at *
    have HM := Lib.hid (show ∀ W : World, Calls Tryz.prog 125 #[.int .i64 ((K : Int) + 1 + 1 + 1)] W fun e w' => e = .returned (.string (mtxt (K + 3))) ∧ Below W.heap.size W w' from fun W => by
     have h := mark_text (K + 3) W (by omega) (by omega)
     rw [show (((K + 3 : Nat) : Int)) = (K : Int) + 1 + 1 + 1 by omega] at h
     exact h)
    have R0 := hown
    have f0 : wr.frozen? ⟨g, j * 6, none⟩ = false := R0.frozenAt (j * 6)
    obtain ⟨v0, e0⟩ : ∃ v, wr.cell? ⟨g, j * 6, none⟩ = some v := by
     rw [R0.cellAt (j * 6) (by first | omega | (simp; omega))]
     exact ⟨_, List.getElem?_eq_getElem (by simp; omega)⟩
    have f1 : wr.frozen? ⟨g, j * 6 + 1, none⟩ = false := R0.frozenAt (j * 6 + 1)
    obtain ⟨v1, e1⟩ : ∃ v, wr.cell? ⟨g, j * 6 + 1, none⟩ = some v := by
     rw [R0.cellAt (j * 6 + 1) (by first | omega | (simp; omega))]
     exact ⟨_, List.getElem?_eq_getElem (by simp; omega)⟩
    have f2 : wr.frozen? ⟨g, j * 6 + 2, none⟩ = false := R0.frozenAt (j * 6 + 2)
    obtain ⟨v2, e2⟩ : ∃ v, wr.cell? ⟨g, j * 6 + 2, none⟩ = some v := by
     rw [R0.cellAt (j * 6 + 2) (by first | omega | (simp; omega))]
     exact ⟨_, List.getElem?_eq_getElem (by simp; omega)⟩
    have S0 := R0.stored (j * 6) (.int .i64 ((K : Int)))
    have R1 := S0.1
    have S1 := R1.stored (j * 6 + 1) (.int .i64 ((K : Int) + 1))
    have R2 := S1.1
    have S2 := R2.stored (j * 6 + 2) (.int .i64 ((K : Int) + 1 + 1))
    have R3 := S2.1
    have HR3 := Lib.hid R3
    have HG3 := Lib.hid (only_trans (only_trans (only_trans hgr S0.2) S1.2) S2.2)
    clear R0 S0 R1 S1 R2 S2 R3 hown hgr
    go_wp2_with fail
    refine (HM.out _).mono ?_; rintro e w4 ⟨rfl, hb4⟩
    have R4 := World.ownsRow.kept HR3.out (row := none) ⟨hb4.os, hb4.tape, hb4.output, hb4.size, fun i hi _ => hb4.block i hi⟩ (.inr (fun e => by cases e))
    have HG4 := Lib.hid (only_trans HG3.out (only_of_below hb4 g))
    clear hb4 HG3 HR3 e0 e1 e2 f0 f1 f2
    have f3 : w4.frozen? ⟨g, j * 6 + 3, none⟩ = false := R4.frozenAt (j * 6 + 3)
    obtain ⟨v3, e3⟩ : ∃ v, w4.cell? ⟨g, j * 6 + 3, none⟩ = some v := by
     rw [R4.cellAt (j * 6 + 3) (by first | omega | (simp; omega))]
     exact ⟨_, List.getElem?_eq_getElem (by simp; omega)⟩
    have f4 : w4.frozen? ⟨g, j * 6 + 4, none⟩ = false := R4.frozenAt (j * 6 + 4)
    obtain ⟨v4, e4⟩ : ∃ v, w4.cell? ⟨g, j * 6 + 4, none⟩ = some v := by
     rw [R4.cellAt (j * 6 + 4) (by first | omega | (simp; omega))]
     exact ⟨_, List.getElem?_eq_getElem (by simp; omega)⟩
    have f5 : w4.frozen? ⟨g, j * 6 + 5, none⟩ = false := R4.frozenAt (j * 6 + 5)
    obtain ⟨v5, e5⟩ : ∃ v, w4.cell? ⟨g, j * 6 + 5, none⟩ = some v := by
     rw [R4.cellAt (j * 6 + 5) (by first | omega | (simp; omega))]
     exact ⟨_, List.getElem?_eq_getElem (by simp; omega)⟩
    have S3 := R4.stored (j * 6 + 3) (.string (mtxt (K + 3)))
    have R5 := S3.1
    have S4 := R5.stored (j * 6 + 4) (.int .i64 ((K : Int) + 1 + 1 + 1 + 1))
    have R6 := S4.1
    have S5 := R6.stored (j * 6 + 5) (.int .i64 ((K : Int) + 1 + 1 + 1 + 1 + 1))
    have R7 := S5.1
    have EQ := Lib.hid (show (((((((P ++ cs.drop (j * 6)).set (j * 6) (.int .i64 ((K : Int)))).set (j * 6 + 1) (.int .i64 ((K : Int) + 1))).set (j * 6 + 2) (.int .i64 ((K : Int) + 1 + 1))).set (j * 6 + 3) (.string (mtxt (K + 3)))).set (j * 6 + 4) (.int .i64 ((K : Int) + 1 + 1 + 1 + 1))).set (j * 6 + 5) (.int .i64 ((K : Int) + 1 + 1 + 1 + 1 + 1))) = (mk_sc k0 (j + 1)).flatMap scC ++ cs.drop ((j + 1) * 6) from by
     rw [HSU.out]
     rw [set_app (p := j * 6) _ (by first | exact hpl | (simp only [List.length_append, List.length_cons, List.length_nil]; omega)) (by omega)]
     rw [set_app (p := j * 6 + 1) _ (by first | exact hpl | (simp only [List.length_append, List.length_cons, List.length_nil]; omega)) (by omega)]
     rw [set_app (p := j * 6 + 2) _ (by first | exact hpl | (simp only [List.length_append, List.length_cons, List.length_nil]; omega)) (by omega)]
     rw [set_app (p := j * 6 + 3) _ (by first | exact hpl | (simp only [List.length_append, List.length_cons, List.length_nil]; omega)) (by omega)]
     rw [set_app (p := j * 6 + 4) _ (by first | exact hpl | (simp only [List.length_append, List.length_cons, List.length_nil]; omega)) (by omega)]
     rw [set_app (p := j * 6 + 5) _ (by first | exact hpl | (simp only [List.length_append, List.length_cons, List.length_nil]; omega)) (by omega)]
     rw [show (j + 1) * 6 = j * 6 + 6 by omega]
     rw [show ((K + 0 : Nat) : Int) = (K : Int) by omega, show ((K + 1 : Nat) : Int) = (K : Int) + 1 by omega, show ((K + 2 : Nat) : Int) = (K : Int) + 1 + 1 by omega, show ((K + 4 : Nat) : Int) = (K : Int) + 1 + 1 + 1 + 1 by omega, show ((K + 5 : Nat) : Int) = (K : Int) + 1 + 1 + 1 + 1 + 1 by omega]
     simp only [List.append_assoc, List.cons_append, List.nil_append])
    have HG := Lib.hid (only_trans (only_trans (only_trans HG4.out S3.2) S4.2) S5.2)
    have HST := Lib.hid R7
    clear hpl S3 S4 S5 R4 R5 R6 R7 HG4
    go_wp2
    go_roundw
    case rel =>
     refine ⟨j + 1, by omega, by go_num, by rw [HK.out]; go_num, ?_, HG.out⟩
     rw [← EQ.out]
     exact HST.out
    case measure => simp [intOf]; omega
   ·obtain rfl : j = l.length := by omega
    have HO := Lib.hid hown; clear hown
    go_wp2
    go_ret
    refine ⟨rfl, ?_, hgr⟩
    have h := HO.out
    rw [List.drop_of_length_le (by omega), List.append_nil] at h
    unfold OwnKsc OwnK
    rw [mk_sc_len]
    exact h
end Go.Proofs.YtinijleelhbpoaaGreat

/- SortScans: both contracts, as the laws want them. -/
namespace Go.Proofs.YtinijleelhbpoaaGreat
open Go.RowKit
theorem sortV_len {l : List Lg} {zs : List Int} {x : Int} {ls : List Sc} : (sortV l zs x ls).length ≤ ls.length := by
 have h1 := dedU_len (sortSc (validB l zs x ls)) (sortSc (validB l zs x ls)).length
 have h2 := sortSc_len (validB l zs x ls)
 have h3 : (validB l zs x ls).length ≤ ls.length := Nat.le_trans (List.length_filter_le _ _) (by rw [List.length_take]; omega)
 show (dedU _ _).length ≤ _
 omega
theorem sort_specV (A : Option Addr) (ca : Nat) (l : List Lg) (D : Option Addr) (cd : Nat) (zs : List Int) (x : Int) (E : Option Addr) (ce : Nat) (ls : List Sc) (w : World) (hA : InK 6 lgC w A l) (hD : IntsIn w D zs) (hs : ∀ z ∈ l, z.f.size ≤ maxLen ∧ z.t.size ≤ maxLen) (hn : l.length ≤ 1048576) (hm : zs.length ≤ 1048576) (hE : InK 6 scC w E ls) (hk : ls.length ≤ 1048576) (_hc : ls.length ≤ ce) :
  Calls Tryz.prog 18 #[.agg #[.slice A l.length ca, .slice D zs.length cd, .int .i64 x], .slice E ls.length ce] w fun e w' => ∃ v, e = .returned v ∧ OwnKsc w' w.heap.size v (sortV l zs x ls) ∧ Below w.heap.size w w' :=
 (sort_spec A ca l D cd zs x E ce ls w hA hD hs hn hm hE hk).mono fun _ _ ⟨_, _, he, hr, hb⟩ => ⟨_, he, hr, hb⟩
theorem sort_implV (A : Option Addr) (ca : Nat) (l : List Lg) (D : Option Addr) (cd : Nat) (zs : List Int) (x : Int) (E : Option Addr) (ce : Nat) (ls : List Sc) (w : World) (hA : InK 6 lgC w A l) (hD : IntsIn w D zs) (hs : ∀ z ∈ l, z.f.size ≤ maxLen ∧ z.t.size ≤ maxLen) (hn : l.length ≤ 1048576) (hm : zs.length ≤ 1048576) (hE : InK 6 scC w E ls) (hk : ls.length ≤ 1048576) (hce : ls.length ≤ ce) :
  Calls Tryz.prog 17 #[.agg #[.slice A l.length ca, .slice D zs.length cd, .int .i64 x], .slice E ls.length ce] w fun e w' => ∃ v, e = .returned v ∧ OwnKsc w' w.heap.size v (sortV l zs x ls) ∧ Below w.heap.size w w' :=
 (sort_impl A ca l D cd zs x E ce ls w hA hD hs hn hm hE hk hce).mono fun _ _ ⟨_, _, he, hr, hb⟩ => ⟨_, he, hr, hb⟩
end Go.Proofs.YtinijleelhbpoaaGreat

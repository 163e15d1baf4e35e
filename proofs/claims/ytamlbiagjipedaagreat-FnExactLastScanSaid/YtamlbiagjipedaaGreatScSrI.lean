/- impl.SortScans. -/
import Derived.Test.YtamlbiagjipedaaGreatScComp
import Derived.Test.YtamlbiagjipedaaGreatIsSc
import Derived.Test.YtamlbiagjipedaaGreatBg
import Derived.Maps.AppendAt
namespace Go.Proofs.YtamlbiagjipedaaGreat
open Go.RowKit
/-- the valid ones among the first 200 -/
def validB (l : List Lg) (zs : List Int) (x : Int) (ls : List Sc) : List Sc := (ls.take 200).filter fun r => scB l zs x r
def sortV (l : List Lg) (zs : List Int) (x : Int) (ls : List Sc) : List Sc := dedB (sortSc (validB l zs x ls))
def validU (l : List Lg) (zs : List Int) (x : Int) (ls : List Sc) (k : Nat) : List Sc := (ls.take k).filter fun r => scB l zs x r
theorem validU_len {l : List Lg} {zs : List Int} {x : Int} {ls : List Sc} {k : Nat} : (validU l zs x ls k).length ≤ k :=
  Nat.le_trans (List.length_filter_le _ _) (by rw [List.length_take]; omega)
theorem validU_yes {l : List Lg} {zs : List Int} {x : Int} {ls : List Sc} {k : Nat} (hk : k < ls.length) (h : scB l zs x ls[k] = true) : validU l zs x ls (k + 1) = validU l zs x ls k ++ [ls[k]] := by
  unfold validU
  rw [List.take_succ_eq_append_getElem hk, List.filter_append]
  simp [h]
theorem validU_no {l : List Lg} {zs : List Int} {x : Int} {ls : List Sc} {k : Nat} (hk : k < ls.length) (h : scB l zs x ls[k] = false) : validU l zs x ls (k + 1) = validU l zs x ls k := by
  unfold validU
  rw [List.take_succ_eq_append_getElem hk, List.filter_append]
  simp [h]
theorem validU_all {l : List Lg} {zs : List Int} {x : Int} {ls : List Sc} {k : Nat} (hk : k = min ls.length 200) : validU l zs x ls k = validB l zs x ls := by
  unfold validU validB
  by_cases h : ls.length ≤ 200
  · rw [List.take_of_length_le (by omega), List.take_of_length_le h]
  · rw [show k = 200 by omega]
theorem RowC.of {w : World} {b n : Nat} {v : Value} {l : List Sc} (h : w.ownsRow b 34 6 v n (l.flatMap scC)) (hn : l.length = n) (hv : v ≠ .slice none 0 0) : ∃ g c, v = .slice (some ⟨g, 0, none⟩) n c ∧ RowC w b g c l := by
  subst hn; exact rowC_of h hv
theorem RowC.low {w : World} {b g c : Nat} {l : List Sc} (h : RowC w b g c l) : b ≤ g ∧ g < w.heap.size := World.ownsRow.lt h g rfl
set_option maxRecDepth 100000 in
set_option maxHeartbeats 400000 in
theorem sort_impl (A : Option Addr) (ca : Nat) (l : List Lg) (D : Option Addr) (cd : Nat) (zs : List Int) (x : Int) (E : Option Addr) (ce : Nat) (ls : List Sc) (w : World) (hA : InK 6 lgC w A l) (hD : IntsIn w D zs) (hs : ∀ z ∈ l, z.f.size ≤ maxLen ∧ z.t.size ≤ maxLen) (hn : l.length ≤ 1048576) (hm : zs.length ≤ 1048576) (hE : InK 6 scC w E ls) (hk : ls.length ≤ 1048576) (hce : ls.length ≤ ce) :
    Calls Tryz.prog 16 #[.agg #[.slice A l.length ca, .slice D zs.length cd, .int .i64 x], .slice E ls.length ce] w fun e w' => ∃ G c, e = .returned (.slice (some ⟨G, 0, none⟩) (sortV l zs x ls).length c) ∧ RowC w' w.heap.size G c (sortV l zs x ls) ∧ Below w.heap.size w w' := by
  have HI := Lib.hid (fun (y : Sc) W (h1 : InK 6 lgC W A l) (h2 : IntsIn W D zs) => is_sc y.h y.a y.k y.p y.g y.d A ca l D cd zs x W h1 h2 hs hn hm)
  obtain ⟨i0, hi0, hz0, hz1, hz2⟩ := info_parts sc_info
  have HA := Lib.hid hA; have HD := Lib.hid hD; have HE := Lib.hid hE; clear hA hD hE hs
  obtain ⟨m, hmm⟩ : ∃ m, m = min ls.length 200 := ⟨_, rfl⟩
  have hm1 : min (ls.length : Int) 200 = (m : Int) := by omega
  have hm2 : ((m : Int)).toNat = m := Int.toNat_natCast m
  have hm3 : max (m : Int) 0 = (m : Int) := by omega
  have hml : m ≤ ls.length := by omega
  have hm200 : m ≤ 200 := by omega
  generalize hB : w.heap.size = B at *
  have hNB : Box3 27 (w.alloc (.cells #[.slice A l.length ca, .slice D zs.length cd, .int .i64 x] 27)) B (.slice A l.length ca) (.slice D zs.length cd) (.int .i64 x) := by rw [← hB]; exact Box3.new w
  have hw1 : Below B w (w.alloc (.cells #[.slice A l.length ca, .slice D zs.length cd, .int .i64 x] 27)) := (Below.refl B w).alloc (by omega) _
  have hz : (w.alloc (.cells #[.slice A l.length ca, .slice D zs.length cd, .int .i64 x] 27)).heap.size = B + 1 := by rw [World.size_alloc, hB]
  have HBE := Lib.hid hB
  go_enter Tryz.func16, Tryz.ntmps16
  go_wp2
  clear hB
  rw [← hmm]
  have HMM := Lib.hid hmm; clear hmm hm1 hm2 hm3
  generalize w.alloc (.cells #[.slice A l.length ca, .slice D zs.length cd, .int .i64 x] 27) = w1 at *
  have HR0 : RowC (w1.alloc (.cells #[] 34)) (B + 1) (B + 1) 0 (validU l zs x ls 0) := by
    have h := World.ownsRow_made (e := 34) (size := 6) (base := B + 1) w1 #[] 0 (by omega) (Nat.zero_le _) rfl
    rw [hz] at h
    exact h
  have hb0 : Below B w (w1.alloc (.cells #[] 34)) := hw1.alloc (by omega) _
  have HN0 := Lib.hid (hNB.below ((Below.refl _ _).alloc (Nat.le_refl _) (.cells #[] 34)))
  have hsz0 : B + 2 ≤ (w1.alloc (.cells #[] 34)).heap.size := by rw [World.size_alloc]; omega
  clear hNB hw1
  go_loopw [15, 5] (fun i v wr => ∃ k G c : Nat, i = .int .i64 k ∧ k ≤ m ∧ v = .slice (some ⟨G, 0, none⟩) (validU l zs x ls k).length c ∧ Hid (RowC wr (B + 1) G c (validU l zs x ls k)) ∧ Hid (Below B w wr) ∧ Hid (Box3 27 wr B (.slice A l.length ca) (.slice D zs.length cd) (.int .i64 x)) ∧ B + 1 ≤ wr.heap.size) (fun i _ _ => m - (intOf i).toNat)
  case atStart => exact ⟨0, B + 1, 0, rfl, by omega, rfl, Lib.hid HR0, Lib.hid hb0, HN0, by omega⟩
  case round =>
    obtain ⟨k, G, c, rfl, hkm, rfl, hrw, hbw, hnw, hsz⟩ := hrel
    obtain ⟨n0, n1, n2⟩ := hnw.out.cells
    have hBlt : B < wr.heap.size := by omega
    by_cases hlt : (k : Int) < (m : Int)
    · have hkl : k < ls.length := by omega
      have hb' : Below w.heap.size w wr := by rw [HBE.out]; exact hbw.out
      obtain ⟨g0, e0, hg0, c0, c1, c2, c3, c4, c5⟩ := (HE.out.below hb').sc k hkl
      have HAr := Lib.hid (HA.out.below hb'); have HDr := Lib.hid (HD.out.below hb')
      clear hb'
      subst e0
      have HY := Lib.hid (validU_yes (l := l) (zs := zs) (x := x) hkl)
      have HN := Lib.hid (validU_no (l := l) (zs := zs) (x := x) hkl)
      have hvl := validU_len (l := l) (zs := zs) (x := x) (ls := ls) (k := k)
      generalize ls[k] = y at c0 c1 c2 c3 c4 c5 HY HN
      have hkI : (k : Int) < (ls.length : Int) := by omega
      go_wp2_with fail
      refine (HI.out y _ (HAr.out.below ((Below.refl _ _).alloc (Nat.le_refl _) _)) (HDr.out.below ((Below.refl _ _).alloc (Nat.le_refl _) _))).mono ?_
      rintro e w5 ⟨rfl, hb5⟩
      have hbx := (BoxS.new wr).below hb5
      have hb' := al_below hb5
      obtain ⟨s0, s1, s2, s3, s4, s5⟩ := hbx.cells
      have hwlt : wr.heap.size < w5.heap.size := hbx.lt
      have HR5 := Lib.hid (OwnK.below hrw.out hb')
      have HN5 := Lib.hid (hnw.out.below hb')
      have HB5 := Lib.hid (hbw.out.trans (hb'.mono (by omega)))
      clear hb5 hbx hb' c0 c1 c2 c3 c4 c5 n0 n1 n2 HAr HDr hrw hnw hbw
      rw [show scB l zs x ⟨y.h, y.a, y.k, y.p, y.g, y.d⟩ = scB l zs x y from rfl]
      cases hq : scB l zs x y with
      | true =>
        have HV := Lib.hid (HY.out hq)
        clear HY HN hq
        have hmx : (validU l zs x ls k).length + 1 ≤ maxLen := by unfold maxLen; omega
        have hmb : ((validU l zs x ls k).length + 1) * 56 ≤ 140737488355328 := by omega
        go_wp2_with (at_builtin; refine wpList_append_own_at _ rfl (.tmp 22) (.tmp 24) 28 rfl (B + 1) 34 i0 _ 6 56 Tryz.underlying28 hi0 hz0 hz1 hz2 rfl (by omega) _ _ _ rfl (HR5.out.alloc _) ⟨w5.heap.size, 0, none⟩ 1 1 (scC y) rfl rfl (World.news_of_block (cs := #[.int .i64 y.h, .int .i64 y.a, .int .i64 y.k, .string y.p, .int .i64 y.g, .int .i64 y.d]) (t := 34) (fr := (0, 0)) (heap_alloc_new w5 _)) (one_sc y) hmx hmb (by rw [World.size_alloc]; omega) ?_; intro v' w6 hown hgr hnil _; obtain ⟨G2, c2, rfl, hr6⟩ := RowC.of (l := validU l zs x ls k ++ [y]) (by rw [List.flatMap_append, List.flatMap_singleton]; exact hown) (by simp) (fun e => by have := (hnil.1 e).1; cases this))
        have hlow := RowC.low HR5.out
        have HB6 := Lib.hid ((HB5.out.alloc (by omega) (.cells #[.int .i64 y.h, .int .i64 y.a, .int .i64 y.k, .string y.p, .int .i64 y.g, .int .i64 y.d] 34)).grown hgr (by rw [World.size_alloc]; omega) (fun q e => by cases e; exact (show B ≤ G by omega)))
        have HN6 := Lib.hid (((HN5.out.below ((Below.refl _ _).alloc (Nat.le_refl _) (.cells #[.int .i64 y.h, .int .i64 y.a, .int .i64 y.k, .string y.p, .int .i64 y.g, .int .i64 y.d] 34)))).apart hgr (fun e => by have e2 : B = G := Option.some.inj e; omega))
        have hz6 := hgr.size
        rw [World.size_alloc] at hz6
        go_roundw
        case rel => exact ⟨k + 1, G2, c2, by go_num, by omega, by rw [HV.out, List.length_append]; rfl, Lib.hid (by rw [HV.out]; exact hr6), HB6, HN6, by omega⟩
        case measure => simp [intOf]; omega
      | false =>
        have HV := Lib.hid (HN.out hq)
        clear HY HN hq
        go_wp2
        go_roundw
        case rel => exact ⟨k + 1, G, c, by go_num, by omega, by rw [HV.out], Lib.hid (by rw [HV.out]; exact HR5.out), HB5, HN5, by omega⟩
        case measure => simp [intOf]; omega
    · obtain rfl : k = m := by omega
      have HV := Lib.hid (validU_all (l := l) (zs := zs) (x := x) HMM.out)
      clear n0 n1 n2
      have hvl := validU_len (l := l) (zs := zs) (x := x) (ls := ls) (k := k)
      go_wp2_with fail
      rw [HV.out] at hrw hvl ⊢
      have HSV := Lib.hid (show sortV l zs x ls = dedB (sortSc (validB l zs x ls)) from rfl)
      have hsl := sortSc_len (validB l zs x ls)
      have HRW := Lib.hid (OwnK.mono hrw.out (show B ≤ B + 1 by omega))
      clear hrw HV
      generalize validB l zs x ls = V at *
      refine (sort_scs HRW.out (by omega)).mono ?_
      rintro e w2 ⟨rfl, ho2, hg2⟩
      have HB2 := Lib.hid (hbw.out.grown hg2 (by omega) (fun q e => by cases e; exact (RowC.low HRW.out).1))
      have HR2 := Lib.hid (show RowC w2 B G c (sortSc V) from by unfold RowC; rw [hsl]; exact ho2)
      have hs2 := hg2.size
      clear ho2 hg2
      rw [← hsl]
      have hsm : (sortSc V).length ≤ 1048576 := by omega
      clear hsl hvl
      generalize sortSc V = S at *
      go_wp2_with fail
      refine (comp_sc B G c S w2 HR2.out hsm).mono ?_
      rintro e w3 ⟨rfl, hr3, hg3⟩
      have HR3 := Lib.hid hr3
      have HB3 := Lib.hid (HB2.out.grown hg3 (by omega) (fun q e => by cases e; exact (RowC.low HR2.out).1))
      clear hr3 hg3 hs2
      go_wp2
      go_ret
      rw [HSV.out]
      exact ⟨G, c, rfl, HR3.out, HB3.out⟩
end Go.Proofs.YtamlbiagjipedaaGreat

/- The contract of impl.BestArrivals. -/
import Derived.Test.YtinijleelhbpoaaGreatBestI
import Derived.Deep.RegionHeld3
namespace Go.Proofs.YtinijleelhbpoaaGreat
open Go.RowKit
theorem best_40 (l : List Lg) (zs : List Int) (x : Int) (fr : ByteArray) (at_ legs : Int) : (bestB l zs x fr at_ legs).length ≤ 100 := by
 by_cases h : bestOk l zs x fr at_ legs
 ·rw [best_yes h, listT_len]
  have h1 := (net_at (serv_iff.1 h.1).1).1
  have h2 := placesB_len l
  omega
 ·rw [best_no h]; simp
theorem by_last {l : List Lg} {zs : List Int} {x : Int} {fr : ByteArray} {a legs : Int} {bs : List Nat} (h : ByL l zs x fr a legs bs) : arrT l zs x fr a (min legs.toNat (placesB l).length) = arrT l zs x fr a (bs.length - 1) := by
 have h1 := h.pos; have h2 := h.le; have h3 := h.pl
 rcases h.fin with e | e
 ·rw [show min legs.toNat (placesB l).length = bs.length - 1 by omega]
 ·refine arr_same (k := bs.length - 1) ?_ (by omega)
  rw [show bs.length - 1 + 1 = bs.length by omega]
  exact e
set_option maxRecDepth 100000 in
set_option maxHeartbeats 4000000 in
theorem by_none (fr : ByteArray) (at_ legs : Int) (A : Option Addr) (ca : Nat) (l : List Lg) (D : Option Addr) (cd : Nat) (zs : List Int) (x : Int) (w : World) (hA : InK 6 lgC w A l) (hD : IntsIn w D zs) (hs : ∀ z ∈ l, z.f.size ≤ maxLen ∧ z.t.size ≤ maxLen) (hn : l.length ≤ 1048576) (hm : zs.length ≤ 1048576)
  (hno : ¬ bestOk l zs x fr at_ legs) :
  Calls Tryz.prog 90 #[.agg #[.slice A l.length ca, .slice D zs.length cd, .int .i64 x], .string fr, .int .i64 at_, .int .i64 legs] w fun e w' => e = .returned (.slice none 0 0) ∧ Below w.heap.size w w' := by
 have hB := Box3.new (T := 27) (v0 := .slice A l.length ca) (v1 := .slice D zs.length cd) (v2 := .int .i64 x) w
 have hb0 := (Below.refl w.heap.size w).alloc (Nat.le_refl _) (.cells #[.slice A l.length ca, .slice D zs.length cd, .int .i64 x] 27)
 have H0 := Lib.hid (And.intro hB (And.intro hb0 (And.intro (hA.below hb0) (hD.below hb0)))); clear hB hb0 hA hD
 have HSV := Lib.hid (fun W (h1 : InK 6 lgC W A l) (h2 : IntsIn W D zs) => serves_impl fr A ca l D cd zs x W h1 h2 hs hn hm)
 clear hs
 have hbad : servB l zs x fr = false ∨ 100000 < at_ ∨ legs < 0 := by
  cases h1 : servB l zs x fr with
  | false => exact .inl rfl
  | true =>
   by_cases h2 : 100000 < at_
   ·exact .inr (.inl h2)
   ·by_cases h3 : legs < 0
    ·exact .inr (.inr h3)
    ·exact absurd ⟨h1, by omega, by omega⟩ hno
 clear hno
 generalize servB l zs x fr = S at *
 rcases hbad with h | h | h
 ·subst h
  go_enter Tryz.func90, Tryz.ntmps90
  go_wp2_with fail
  refine (HSV.out _ H0.out.2.2.1 H0.out.2.2.2).mono ?_; rintro e w1 ⟨rfl, hb1⟩
  go_wp2
  all_goals
   go_ret
   exact ⟨rfl, H0.out.2.1.trans (hb1.mono (Nat.le_of_lt H0.out.1.lt))⟩
 ·cases S with
  | false =>
   go_enter Tryz.func90, Tryz.ntmps90
   go_wp2_with fail
   refine (HSV.out _ H0.out.2.2.1 H0.out.2.2.2).mono ?_; rintro e w1 ⟨rfl, hb1⟩
   go_wp2
   all_goals
    go_ret
    exact ⟨rfl, H0.out.2.1.trans (hb1.mono (Nat.le_of_lt H0.out.1.lt))⟩
  | true =>
   go_enter Tryz.func90, Tryz.ntmps90
   go_wp2_with fail
   refine (HSV.out _ H0.out.2.2.1 H0.out.2.2.2).mono ?_; rintro e w1 ⟨rfl, hb1⟩
   go_wp2
   all_goals
    go_ret
    exact ⟨rfl, H0.out.2.1.trans (hb1.mono (Nat.le_of_lt H0.out.1.lt))⟩
 ·cases S with
  | false =>
   go_enter Tryz.func90, Tryz.ntmps90
   go_wp2_with fail
   refine (HSV.out _ H0.out.2.2.1 H0.out.2.2.2).mono ?_; rintro e w1 ⟨rfl, hb1⟩
   go_wp2
   all_goals
    go_ret
    exact ⟨rfl, H0.out.2.1.trans (hb1.mono (Nat.le_of_lt H0.out.1.lt))⟩
  | true =>
   by_cases h4 : 100000 < at_
   ·go_enter Tryz.func90, Tryz.ntmps90
    go_wp2_with fail
    refine (HSV.out _ H0.out.2.2.1 H0.out.2.2.2).mono ?_; rintro e w1 ⟨rfl, hb1⟩
    go_wp2
    all_goals
     go_ret
     exact ⟨rfl, H0.out.2.1.trans (hb1.mono (Nat.le_of_lt H0.out.1.lt))⟩
   ·go_enter Tryz.func90, Tryz.ntmps90
    go_wp2_with fail
    refine (HSV.out _ H0.out.2.2.1 H0.out.2.2.2).mono ?_; rintro e w1 ⟨rfl, hb1⟩
    go_wp2
    all_goals
     go_ret
     exact ⟨rfl, H0.out.2.1.trans (hb1.mono (Nat.le_of_lt H0.out.1.lt))⟩
set_option maxRecDepth 100000 in
set_option maxHeartbeats 4000000 in
theorem best_impl (fr : ByteArray) (at_ legs : Int) (A : Option Addr) (ca : Nat) (l : List Lg) (D : Option Addr) (cd : Nat) (zs : List Int) (x : Int) (w : World) (hA : InK 6 lgC w A l) (hD : IntsIn w D zs) (hs : ∀ z ∈ l, z.f.size ≤ maxLen ∧ z.t.size ≤ maxLen) (hn : l.length ≤ 1048576) (hm : zs.length ≤ 1048576)
  (hf : fr.size ≤ maxLen) (hlg2 : legs ≤ 9223372036854775807) (hat2 : -9223372036854775808 ≤ at_) :
  Calls Tryz.prog 179 #[.agg #[.slice A l.length ca, .slice D zs.length cd, .int .i64 x], .string fr, .int .i64 at_, .int .i64 legs] w fun e w' => ∃ v, e = .returned v ∧ OwnI w' w.heap.size v (bestB l zs x fr at_ legs) ∧ Below w.heap.size w w' := by
 have hB := Box3.new (T := 27) (v0 := .slice A l.length ca) (v1 := .slice D zs.length cd) (v2 := .int .i64 x) w
 have hb0 := (Below.refl w.heap.size w).alloc (Nat.le_refl _) (.cells #[.slice A l.length ca, .slice D zs.length cd, .int .i64 x] 27)
 have H0 := Lib.hid (And.intro hB (And.intro hb0 (And.intro (hA.below hb0) (hD.below hb0)))); clear hB hb0 hA hD
 by_cases hok : bestOk l zs x fr at_ legs
 rotate_left
 ·have HE := Lib.hid (best_no hok)
  have HN := Lib.hid (by_none fr at_ legs A ca l D cd zs x _ H0.out.2.2.1 H0.out.2.2.2 hs hn hm hok)
  clear hok hs
  go_enter Tryz.func179, Tryz.ntmps179
  go_wp2_with fail
  refine HN.out.mono ?_; rintro e w1 ⟨rfl, hb1⟩
  have hb1' := H0.out.2.1.trans (hb1.mono (Nat.le_of_lt H0.out.1.lt))
  go_wp2
  go_ret
  exact ⟨_, rfl, by rw [HE.out]; exact OwnI.mono (ownI_new w1) hb1'.size, hb1'.alloc hb1'.size _⟩
 ·have HE := Lib.hid (best_yes hok)
  have HN := Lib.hid (by_legs fr at_ legs A ca l D cd zs x _ H0.out.2.2.1 H0.out.2.2.2 hs hn hm hf hok.1 hok.2.1 hok.2.2 hlg2 hat2)
  clear hok
  go_enter Tryz.func179, Tryz.ntmps179
  go_wp2_with fail
  generalize hB : w.heap.size = B at *
  have HBE := Lib.hid hB; clear hB
  generalize w.alloc (.cells #[.slice A l.length ca, .slice D zs.length cd, .int .i64 x] 27) = W0 at *
  refine HN.out.mono ?_; rintro e w1 ⟨v, bs, rfl, hR, hBy, hb1⟩
  have hpos := hBy.pos
  have hpl4 : bs.length ≤ 4000000 := by have := hBy.pl; have := placesB_len l; omega
  have HL := Lib.hid (by_last hBy)
  have hbz1 := hb1.size
  have hBW0 := H0.out.1.lt
  have H1 := Lib.hid (And.intro (H0.out.1.below hb1) (And.intro (H0.out.2.1.trans (hb1.mono (Nat.le_of_lt H0.out.1.lt))) (And.intro (H0.out.2.2.1.below hb1) (H0.out.2.2.2.below hb1)))); clear H0 hb1 HN
  obtain ⟨gv, cap, rfl, hgv1, hgv2⟩ := hR.form hpos
  obtain ⟨k, hk⟩ : ∃ k, bs.length = k + 1 := ⟨bs.length - 1, by omega⟩
  have hMk := (hR.maps k (by omega)).2
  have hck := hR.cell k (by omega)
  obtain ⟨b, hb⟩ : ∃ b, b = bs[k]'(by omega) := ⟨_, rfl⟩
  rw [← hb] at hMk hck
  rw [hk] at HL
  have HIO := Lib.hid (fun W' (h : Below w1.heap.size w1 W') => in_order b _ _ A ca l D cd zs.length x W' (H1.out.2.2.1.below h) hs hn (hMk.below h))
  have HV := Lib.hid (show bestB l zs x fr at_ legs = listT (placesB l) (arrT l zs x fr (max at_ 0) k) by rw [HE.out, HL.out]; rfl)
  clear hR hBy hMk hb HE HL hs
  obtain ⟨b0, b1, b2⟩ := H1.out.1.cells
  have hBr : B < w1.heap.size := H1.out.1.lt
  obtain ⟨n, hnb⟩ : ∃ n, n = bs.length := ⟨_, rfl⟩
  rw [← hnb] at hk hpl4 ⊢
  have hki : (n : Int) - 1 = (k : Int) := by omega
  have hkw : IntKind.i64.wrap ((n : Int) - 1) = (k : Int) := by rw [IntKind.wrap_i64]; omega
  have hkx : IntKind.i64.wrap (k : Int) = (k : Int) := by rw [IntKind.wrap_i64]; omega
  have hkp : (0 : Int) ≤ (k : Int) := by omega
  have hkr : (k : Int) < (n : Int) := by omega
  have hkn : k < n := by omega
  have hk0 : ¬ (n : Int) = 0 := by omega
  have hk1 : ¬ n = 0 := by omega
  clear hk hnb hpos
  go_wp2_with fail
  obtain ⟨WW, hWW⟩ : ∃ WW : World, WW = w1 := ⟨_, rfl⟩
  subst hWW
  go_region_held3 (fun w' => w'.cell? ⟨B, 0, none⟩ = some (.slice A l.length ca) ∧ w'.cell? ⟨B, 1, none⟩ = some (.slice D zs.length cd) ∧ w'.cell? ⟨B, 2, none⟩ = some (.int .i64 x) ∧ w'.cell? ⟨gv, k, none⟩ = some (.map (some b)))
   (go_keep)
   (first
    | (go_at_call 216; refine (HIO.out _ ?_).mono ?_; (focus (first | exact Below.refl _ _ | exact (Below.refl _ _).drew)); (rintro e u ⟨vo, rfl, hvo, hu⟩; (first | (have hbu : Below WW.heap.size WW u := below_undrew hu) | (have hbu : Below WW.heap.size WW u := hu)); have HVO := Lib.hid hvo; obtain ⟨d0, d1, d2⟩ := (H1.out.1.below hbu).cells; have dck := (hbu.cell (p := ⟨gv, k, none⟩) hgv2).trans hck; clear hvo hu)))
  all_goals
   go_wp2
   go_ret
   exact ⟨_, rfl, by rw [HV.out, HBE.out]; exact OwnI.mono HVO.out (Nat.le_of_lt hBr), by rw [HBE.out]; exact H1.out.2.1.trans (hbu.mono (Nat.le_of_lt hBr))⟩
end Go.Proofs.YtinijleelhbpoaaGreat

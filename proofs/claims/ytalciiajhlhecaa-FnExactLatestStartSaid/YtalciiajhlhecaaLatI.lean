/- The contract of impl.LatestStarts. -/
import Derived.Test.YtalciiajhlhecaaStartsTo
import Derived.Test.YtalciiajhlhecaaBestI
import Derived.Deep.RegionHeld3
namespace Go.Proofs.Ytalciiajhlhecaa
open Go.RowKit
theorem lat_40 (l : List Lg) (zs : List Int) (x : Int) (to : ByteArray) (by_ : Int) : (latB l zs x to by_).length ≤ 100 := by
  by_cases h : latOk l zs x to by_
  · rw [lat_yes h, listT_len]
    have h1 := (net_at (serv_iff.1 h.1).1).1
    have h2 := placesB_len l
    omega
  · rw [lat_no h]; simp
theorem lat_fin {l : List Lg} {zs : List Int} {x : Int} {to : ByteArray} {by_ : Int} {K : Nat} (h : latOk l zs x to by_) (hK : latT l zs x to by_ (K + 1) = latT l zs x to by_ K) : latB l zs x to by_ = listT (placesB l) (latT l zs x to by_ K) := by
  rw [lat_yes h]
  obtain ⟨hnet, htp⟩ := serv_iff.1 h.1
  have hok : ∀ z ∈ l, legOk z = true := fun z hz => by obtain ⟨j, hj, rfl⟩ := List.getElem_of_mem hz; exact (net_at hnet).2.1 j hj
  have hfx := lat_fix (l := l) (zs := zs) (ch := x) (to := to) (b := by_) (pl := placesB l) hok (net_at hnet).2.2.2.1 htp (fun z hz => (pl_place hz).1) (k := (placesB l).length) (by omega)
  rcases Nat.le_total K (placesB l).length with hle | hle
  · rw [lat_same hK hle]
  · rw [lat_same hfx hle]
set_option maxRecDepth 100000 in
set_option maxHeartbeats 1500000 in
theorem lat_impl (to : ByteArray) (by_ : Int) (A : Option Addr) (ca : Nat) (l : List Lg) (D : Option Addr) (cd : Nat) (zs : List Int) (x : Int) (w : World) (hA : InK 6 lgC w A l) (hD : IntsIn w D zs) (hs : ∀ z ∈ l, z.f.size ≤ maxLen ∧ z.t.size ≤ maxLen) (hn : l.length ≤ 1048576) (hm : zs.length ≤ 1048576)
    (hto : to.size ≤ maxLen) (hby : by_ ≤ 9223372036854775807) :
    Calls Try.prog 57 #[.agg #[.slice A l.length ca, .slice D zs.length cd, .int .i64 x], .string to, .int .i64 by_] w fun e w' => ∃ v, e = .returned v ∧ OwnI w' w.heap.size v (latB l zs x to by_) ∧ Below w.heap.size w w' := by
  have hB := Box3.new (T := 39) (v0 := .slice A l.length ca) (v1 := .slice D zs.length cd) (v2 := .int .i64 x) w
  have hb0 := (Below.refl w.heap.size w).alloc (Nat.le_refl _) (.cells #[.slice A l.length ca, .slice D zs.length cd, .int .i64 x] 39)
  have H0 := Lib.hid (And.intro hB (And.intro hb0 (And.intro (hA.below hb0) (hD.below hb0)))); clear hB hb0 hA hD
  have HSV := Lib.hid (fun W (h1 : InK 6 lgC W A l) (h2 : IntsIn W D zs) => serves_impl to A ca l D cd zs x W h1 h2 hs hn hm)
  by_cases hok : latOk l zs x to by_
  rotate_left
  · have HE := Lib.hid (lat_no hok)
    cases hsv : servB l zs x to with
    | false =>
      rw [hsv] at HSV
      clear hs hsv hok
      go_enter Try.func57, Try.ntmps57
      go_wp2_with fail
      refine (HSV.out _ H0.out.2.2.1 H0.out.2.2.2).mono ?_; rintro e w1 ⟨rfl, hb1⟩
      have hb1' := H0.out.2.1.trans (hb1.mono (Nat.le_of_lt H0.out.1.lt))
      go_wp2
      go_ret
      exact ⟨_, rfl, by rw [HE.out]; exact OwnI.mono (ownI_new w1) hb1'.size, hb1'.alloc hb1'.size _⟩
    | true =>
      have hb0 : by_ < 0 := by
        by_cases h : by_ < 0
        · exact h
        · exact absurd ⟨hsv, by omega⟩ hok
      rw [hsv] at HSV
      clear hs hsv hok
      go_enter Try.func57, Try.ntmps57
      go_wp2_with fail
      refine (HSV.out _ H0.out.2.2.1 H0.out.2.2.2).mono ?_; rintro e w1 ⟨rfl, hb1⟩
      have hb1' := H0.out.2.1.trans (hb1.mono (Nat.le_of_lt H0.out.1.lt))
      go_wp2
      go_ret
      exact ⟨_, rfl, by rw [HE.out]; exact OwnI.mono (ownI_new w1) hb1'.size, hb1'.alloc hb1'.size _⟩
  · have HOK := Lib.hid hok
    have hb0 : ¬ by_ < 0 := by have := hok.2; omega
    have HST := Lib.hid (fun W (h1 : InK 6 lgC W A l) (h2 : IntsIn W D zs) => starts_to to by_ hto hok.2 hby A ca l D cd zs x W h1 h2 hs hn hm hok.1)
    have HIO := Lib.hid (fun b m g W (h1 : InK 6 lgC W A l) (h3 : MapT W b m g) => in_order b m g A ca l D cd zs.length x W h1 hs hn h3)
    rw [hok.1] at HSV
    clear hs hok
    go_enter Try.func57, Try.ntmps57
    go_wp2_with fail
    generalize hB : w.heap.size = B at *
    have HBE := Lib.hid hB; clear hB
    generalize w.alloc (.cells #[.slice A l.length ca, .slice D zs.length cd, .int .i64 x] 39) = W0 at *
    refine (HSV.out _ H0.out.2.2.1 H0.out.2.2.2).mono ?_; rintro e w1 ⟨rfl, hb1⟩
    have H1 := Lib.hid (And.intro (H0.out.1.below hb1) (And.intro (H0.out.2.1.trans (hb1.mono (Nat.le_of_lt H0.out.1.lt))) (And.intro (H0.out.2.2.1.below hb1) (H0.out.2.2.2.below hb1)))); clear H0 hb1 HSV
    have hBr : B < w1.heap.size := H1.out.1.lt
    obtain ⟨b0, b1, b2⟩ := H1.out.1.cells
    go_wp2_with fail
    obtain ⟨WW, hWW⟩ : ∃ WW : World, WW = w1 := ⟨_, rfl⟩
    subst hWW
    go_region_held3 (fun w' => w'.cell? ⟨B, 0, none⟩ = some (.slice A l.length ca) ∧ w'.cell? ⟨B, 1, none⟩ = some (.slice D zs.length cd) ∧ w'.cell? ⟨B, 2, none⟩ = some (.int .i64 x))
      (go_keep)
      (first
        | (go_at_call 116; refine (HST.out _ (H1.out.2.2.1.below ?_) (H1.out.2.2.2.below ?_)).mono ?_; (focus (first | exact Below.refl _ _ | exact (Below.refl _ _).drew)); (focus (first | exact Below.refl _ _ | exact (Below.refl _ _).drew)); (rintro e u ⟨b, K, m, rfl, hbb, hMM, hKK, hu⟩; (first | (have hbu : Below WW.heap.size WW u := below_undrew hu) | (have hbu : Below WW.heap.size WW u := hu)); obtain ⟨d0, d1, d2⟩ := (H1.out.1.below hbu).cells; have HMM := Lib.hid hMM; have HKK := Lib.hid hKK; clear hu hMM hKK hbb))
        | (go_at_call 92; refine (HIO.out b _ _ _ (H1.out.2.2.1.below ?_) HMM.out).mono ?_; (focus (first | with_reducible exact hbu | exact hbu.drew)); (rintro e u2 ⟨vo, rfl, hvo, hu2⟩; have hbu2 : Below u.heap.size u u2 := hu2; have HVO := Lib.hid hvo; obtain ⟨e0, e1, e2⟩ := ((H1.out.1.below hbu).below hbu2).cells; clear hvo hu2)))
    all_goals
      go_wp2
      go_ret
      exact ⟨_, rfl, by rw [lat_fin HOK.out HKK.out, HBE.out]; exact OwnI.mono HVO.out (Nat.le_of_lt (Nat.lt_of_lt_of_le hBr hbu.size)), by rw [HBE.out]; exact H1.out.2.1.trans ((hbu.trans (hbu2.mono hbu.size)).mono (Nat.le_of_lt hBr))⟩
end Go.Proofs.Ytalciiajhlhecaa

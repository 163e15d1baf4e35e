/- One leg more: the contract of impl.oneLegOn. -/
import Derived.Test.YtalciiajhlhecaaTripOn
import Derived.Test.YtalciiajhlhecaaMapC
namespace Go.Proofs.Ytalciiajhlhecaa
open Go.RowKit
theorem fold_take {α β : Type} (f : β → α → β) (b : β) (l : List α) (k : Nat) (hk : k < l.length) : (l.take (k + 1)).foldl f b = f ((l.take k).foldl f b) l[k] := by
  rw [List.take_add_one, List.getElem?_eq_getElem hk, Option.toList_some, List.foldl_append]; rfl
theorem oneT_none {zs : List Int} {ch : Int} {fr : ByteArray} {g h : Tm} {x : Lg} (e : legOut zs ch fr g x = none) : oneT zs ch fr g h x = h := by unfold oneT; rw [e]; rfl
theorem oneT_put {zs : List Int} {ch : Int} {fr : ByteArray} {g h : Tm} {x : Lg} {e : Int} (he : legOut zs ch fr g x = some e) (hb : ∀ b, h x.t = some b → e < b) : oneT zs ch fr g h x = putT h x.t e := by
  unfold oneT takeT
  rw [he]
  dsimp only
  cases hx : h x.t with
  | none => rfl
  | some b => dsimp only; rw [if_pos (hb b hx)]
theorem oneT_keep {zs : List Int} {ch : Int} {fr : ByteArray} {g h : Tm} {x : Lg} {e b : Int} (he : legOut zs ch fr g x = some e) (hx : h x.t = some b) (hb : ¬ e < b) : oneT zs ch fr g h x = h := by
  unfold oneT takeT
  rw [he]
  dsimp only
  rw [hx]
  dsimp only
  rw [if_neg hb]
set_option maxRecDepth 100000 in
set_option maxHeartbeats 4000000 in
theorem one_leg (fr : ByteArray) (b m : Nat) (g : Tm) (A : Option Addr) (ca : Nat) (l : List Lg) (D : Option Addr) (cd : Nat) (zs : List Int) (x : Int) (w : World) (hA : InK 6 lgC w A l) (hD : IntsIn w D zs) (hs : ∀ z ∈ l, z.f.size ≤ maxLen ∧ z.t.size ≤ maxLen) (hn : l.length ≤ 1048576) (hm : zs.length ≤ 1048576)
    (hnet : netB l zs x = true) (hM : MapT w b m g) (hmm : m ≤ 1000000) (hg : ∀ q v, g q = some v → 0 ≤ v ∧ v ≤ 100000) :
    Calls Try.prog 140 #[.agg #[.slice A l.length ca, .slice D zs.length cd, .int .i64 x], .string fr, .map (some b)] w fun e w' => ∃ b', e = .returned (.map (some b')) ∧ w.heap.size ≤ b' ∧ MapT w' b' (m + l.length) (roundT zs x fr l g) ∧ Below w.heap.size w w' := by
  have hB := Box3.new (T := 39) (v0 := .slice A l.length ca) (v1 := .slice D zs.length cd) (v2 := .int .i64 x) w
  have hb0 := (Below.refl w.heap.size w).alloc (Nat.le_refl _) (.cells #[.slice A l.length ca, .slice D zs.length cd, .int .i64 x] 39)
  have H0 := Lib.hid (And.intro hB (And.intro hb0 (And.intro (hA.below hb0) (And.intro (hD.below hb0) (hM.below hb0))))); clear hB hb0 hA hD hM
  have HS := Lib.hid hs
  have HTR := Lib.hid (fun k (hk : k < l.length) W (h1 : InK 6 lgC W A l) (h2 : IntsIn W D zs) (h3 : MapT W b m g) => trip_on fr b m g k A ca l D cd zs x W h1 h2 hs hn hm hnet hk h3 hg)
  have HEN := Lib.hid (fun k (hk : k < l.length) (d : Int) W (h1 : InK 6 lgC W A l) (h2 : IntsIn W D zs) (hd : 0 ≤ d ∧ d ≤ 60) => end_impl A ca l D cd zs x k d W h1 h2 hk hn hd (leg_bd ((net_at hnet).2.1 k hk)).1 (leg_bd ((net_at hnet).2.1 k hk)).2.1)
  have HLB := Lib.hid (fun k (hk : k < l.length) => leg_bd ((net_at hnet).2.1 k hk))
  have hl20 := (net_at hnet).1
  clear hs hnet hg
  go_enter Try.func140, Try.ntmps140
  go_wp2_with fail
  generalize hB : w.heap.size = B at *
  have HBE := Lib.hid hB; clear hB
  generalize w.alloc (.cells #[.slice A l.length ca, .slice D zs.length cd, .int .i64 x] 39) = W at *
  refine (clone_map H0.out.2.2.2.2).mono ?_; rintro e w1 ⟨rfl, hM1, hb1⟩
  have hCB : B < W.heap.size := H0.out.1.lt
  have hbC : b < W.heap.size := H0.out.2.2.2.2.lt
  have hW1 : W.heap.size < w1.heap.size := hM1.lt
  have HM1 := Lib.hid hM1; clear hM1
  obtain ⟨b0, b1, b2⟩ := (H0.out.1.below hb1).cells
  go_wp2
  clear b0 b1 b2
  go_loopw [20] (fun i wr => ∃ k : Nat, k ≤ l.length ∧ i = .int .i64 k ∧ MapT wr W.heap.size (m + k) ((l.take k).foldl (oneT zs x fr g) g) ∧ Below W.heap.size W wr) (fun i _ => l.length - (intOf i).toNat)
  case atStart => exact ⟨0, Nat.zero_le _, rfl, HM1.out, hb1⟩
  case round =>
    clear hW1 HM1 hb1
    obtain ⟨k, hk, rfl, hMk, hb⟩ := hrel
    have hCk := hMk.lt
    have HMK := Lib.hid hMk; clear hMk
    have HB := Lib.hid hb
    obtain ⟨b0, b1, b2⟩ := (H0.out.1.below hb).cells
    have hBr : B < wr.heap.size := by omega
    have HBW := Lib.hid (show Below B w wr from H0.out.2.1.trans (hb.mono (Nat.le_of_lt hCB)))
    by_cases hlt : (k : Int) < (l.length : Int)
    · have hkn : k < l.length := by omega
      have HF := Lib.hid (fold_take (oneT zs x fr g) g l k hkn)
      have HZ := Lib.hid (HS.out l[k] (List.getElem_mem hkn))
      have HLO := Lib.hid (legOut_of (zs := zs) (ch := x) (fr := fr) (g := g) (x := l[k]))
      have HOB := Lib.hid (onD_bd (zs := zs) (ch := x) (fr := fr) (g := g) (x := l[k]))
      have HT1 := Lib.hid (fun W' (h : Below wr.heap.size wr W') => HTR.out k hkn W' ((H0.out.2.2.1.below HB.out).below h) ((H0.out.2.2.2.1.below HB.out).below h) ((H0.out.2.2.2.2.below HB.out).below h))
      have HE1 := Lib.hid (fun d W' (h : Below wr.heap.size wr W') => HEN.out k hkn d W' ((H0.out.2.2.1.below HB.out).below h) ((H0.out.2.2.2.1.below HB.out).below h))
      have hlb := HLB.out k hkn
      have hlb1 := hlb.1; have hlb2 := hlb.2.1
      clear hlb
      obtain ⟨gb, rfl, hgb, c0, c1, c2, c3, c4, c5⟩ := (H0.out.2.2.1.below hb).lg k hkn
      obtain ⟨y, hy⟩ : ∃ y, y = l[k] := ⟨_, rfl⟩
      rw [← hy] at c0 c1 c2 c3 c4 c5 HZ HF HLO HOB HT1 HE1 hlb1 hlb2
      clear hy HB
      obtain ⟨L, hL⟩ : ∃ L : Obj, L = .cells #[.string y.f, .string y.t, .int .i64 y.s, .int .i64 y.k, .int .i64 y.d, .int .i64 y.r] 53 := ⟨_, rfl⟩
      have hbL := (Below.refl wr.heap.size wr).alloc (Nat.le_refl _) L
      by_cases hd : onD zs x fr g y < 0
      · have HN := Lib.hid (oneT_none (h := (l.take k).foldl (oneT zs x fr g) g) (HLO.out.trans (if_pos hd)))
        have HX := Lib.hid (fun W' h => by
          have h := HT1.out W' h
          rw [trTup_no hd] at h
          exact h)
        clear HT1 HE1 HLO HOB hd
        go_wp2_with fail
        rw [← hL]
        refine (HX.out _ hbL).mono ?_; rintro e w2 ⟨rfl, hb2⟩
        go_wp2
        go_roundw
        case rel => exact ⟨k + 1, by omega, by go_num, by rw [HF.out, HN.out]; exact (((HMK.out.below hbL).below hb2).alloc _).mono (by omega), ((hb.trans (hbL.mono (by omega))).trans (hb2.mono (by have := hbL.size; omega))).alloc (by have := hbL.size; have := hb2.size; omega) _⟩
        case measure => simp [intOf]; omega
      · have HX := Lib.hid (fun W' h => by
          have h := HT1.out W' h
          rw [trTup_yes hd] at h
          exact h)
        have hdb : 0 ≤ onD zs x fr g y ∧ onD zs x fr g y ≤ 60 := by rcases HOB.out with h | h <;> omega
        have HLS := Lib.hid (HLO.out.trans (if_neg hd))
        clear HT1 HLO HOB hd
        generalize onD zs x fr g y = d at *
        obtain ⟨E, hE⟩ : ∃ E, E = d * 1440 + y.s + y.k := ⟨_, rfl⟩
        have HEE := Lib.hid (fun W' h => by
          have h := HE1.out d W' h hdb
          rw [← hE] at h
          exact h)
        rw [← hE] at HLS
        have HWF := Lib.hid (show (Lit.int .i64 E).wf = true from WalkArith.wf_i64 (by omega))
        clear HE1 hE hlb1 hlb2 hdb
        go_wp2_with fail
        rw [← hL]
        refine (HX.out _ hbL).mono ?_; rintro e w2 ⟨rfl, hb2⟩
        have hLb : w2.heap[wr.heap.size]? = some L := (hb2.block _ (by simp)).trans (heap_alloc_new wr L)
        have hb2' := hbL.trans (hb2.mono hbL.size)
        clear b0 b1 b2
        obtain ⟨b0, b1, b2⟩ := ((H0.out.1.below hb).below hb2').cells
        have hBr2 : B < w2.heap.size := by have := hb2'.size; omega
        have HM2 := Lib.hid (HMK.out.below hb2')
        clear HMK HX hb2 c0 c1 c2 c3 c4 c5
        go_wp2_with fail
        have hbT := (Below.refl w2.heap.size w2).alloc (Nat.le_refl _) (.cells #[.int .i64 (k : Int), .int .i64 d] 49)
        refine (HEE.out _ (hb2'.trans (hbT.mono hb2'.size))).mono ?_; rintro e w3 ⟨rfl, hb3⟩
        have hb3' := hbT.trans (hb3.mono hbT.size)
        have hL3 : w3.cell? ⟨wr.heap.size, 1, none⟩ = some (.string y.t) := by
          rw [cell_of_row w3 wr.heap.size 1 _ _ (0, 0) ((hb3'.block _ (Array.getElem?_eq_some_iff.1 hLb).1).trans (hL ▸ hLb))]; rfl
        have HM3 := Lib.hid (HM2.out.below hb3')
        have hb4 := hb2'.trans (hb3'.mono hb2'.size)
        have HB3 := Lib.hid (hb.trans (hb4.mono (Nat.le_of_lt hCk)))
        have hz3 : W.heap.size < w3.heap.size := HM3.out.lt
        have hwz : wr.heap.size < w3.heap.size := by have := hb3'.size; have := (Array.getElem?_eq_some_iff.1 hLb).1; omega
        clear HM2 HEE hbT hb3 hb3' hb2' hLb b0 b1 b2 hb4
        obtain ⟨h, hh0⟩ : ∃ h, h = (l.take k).foldl (oneT zs x fr g) g := ⟨_, rfl⟩
        rw [← hh0] at HM3 HF
        clear hh0
        cases hh : h y.t with
        | none =>
          have HN := Lib.hid (oneT_put (h := h) HLS.out (fun b hb => by rw [hh] at hb; cases hb))
          go_wp2_with (first
            | (at_lookup; refine wp_look rfl _ _ 107 rfl Try.underlying107 W.heap.size (m + k) h rfl HM3.out _ rfl HZ.out.2 0 false (by rw [hh]; rfl) (by rw [hh]; rfl) ?_)
            | (at_mapUpdate; refine wp_store rfl _ _ _ 107 rfl Try.underlying107 W.heap.size (m + k) h rfl HM3.out (by omega) _ E rfl rfl HZ.out.2 HWF.out ?_; intro w4 hM4 hg4)
            | fail)
          go_roundw
          case rel => exact ⟨k + 1, by omega, by go_num, by rw [HF.out, HN.out]; exact hM4, HB3.out.grown hg4 (by omega) (by simp)⟩
          case measure => simp [intOf]; omega
        | some e0 =>
          by_cases hlt0 : E < e0
          · have HN := Lib.hid (oneT_put (h := h) HLS.out (fun b hb => by rw [hh] at hb; cases hb; exact hlt0))
            go_wp2_with (first
              | (at_lookup; refine wp_look rfl _ _ 107 rfl Try.underlying107 W.heap.size (m + k) h rfl HM3.out _ rfl HZ.out.2 e0 true (by rw [hh]; rfl) (by rw [hh]; rfl) ?_)
              | (at_mapUpdate; refine wp_store rfl _ _ _ 107 rfl Try.underlying107 W.heap.size (m + k) h rfl HM3.out (by omega) _ E rfl rfl HZ.out.2 HWF.out ?_; intro w4 hM4 hg4)
              | fail)
            go_roundw
            case rel => exact ⟨k + 1, by omega, by go_num, by rw [HF.out, HN.out]; exact hM4, HB3.out.grown hg4 (by omega) (by simp)⟩
            case measure => simp [intOf]; omega
          · have HN := Lib.hid (oneT_keep HLS.out hh hlt0)
            go_wp2_with (first
              | (at_lookup; refine wp_look rfl _ _ 107 rfl Try.underlying107 W.heap.size (m + k) h rfl HM3.out _ rfl HZ.out.2 e0 true (by rw [hh]; rfl) (by rw [hh]; rfl) ?_)
              | fail)
            go_roundw
            case rel => exact ⟨k + 1, by omega, by go_num, by rw [HF.out, HN.out]; exact HM3.out.mono (by omega), HB3.out⟩
            case measure => simp [intOf]; omega
    · obtain rfl : k = l.length := by omega
      go_wp2
      go_ret
      exact ⟨_, rfl, by have := HBW.out.size; have := H0.out.2.1.size; omega, by have h := HMK.out; rw [List.take_length] at h; exact h, by rw [HBE.out]; exact HBW.out⟩
end Go.Proofs.Ytalciiajhlhecaa

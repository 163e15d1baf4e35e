/- The latest starts by place. -/
import Derived.Test.YtalciiajhlhecaaBefore
namespace Go.Proofs.Ytalciiajhlhecaa
open Go.RowKit
theorem fit_unique {D : DataW Unit} {g g' : Tm} (h : FitT D g) (h' : FitT D g') : g = g' := by
  funext s
  have e := (h.has s).symm.trans (h'.has s)
  cases hg : g s with
  | none =>
    rw [hg] at e
    cases hg' : g' s with
    | none => rfl
    | some v => rw [hg'] at e; cases e
  | some v =>
    rw [hg] at e
    cases hg' : g' s with
    | none => rw [hg'] at e; cases e
    | some v' =>
      have h1 := (h.at_ s v hg .nil).symm.trans (h'.at_ s v' hg' .nil)
      have : v = v' := by simpa [iD] using h1
      rw [this]
theorem MapT.unique {w : World} {b n n' : Nat} {g g' : Tm} (h : MapT w b n g) (h' : MapT w b n' g') : g = g' := by
  obtain ⟨D, ⟨es, clock, h1, _, _, h2⟩, h3⟩ := h
  obtain ⟨D', ⟨es', clock', h1', _, _, h2'⟩, h3'⟩ := h'
  have e := Option.some.inj (h1.symm.trans h1')
  cases e
  rw [h2] at h3
  rw [h2'] at h3'
  exact fit_unique h3 h3'
/-- a measure of rounds, read off the table that a map holds -/
theorem round_measure (L : Nat → Tm) (hup : ∀ k, UpT (L k) (L (k + 1))) (P C : Nat) : ∃ μ : Value → World → Nat, (∀ k wr, k ≤ P → MapT wr C (1 + 20 * k) (L k) → (k = 0 ∨ L k ≠ L (k - 1)) → μ (.bool true) wr = P + 2 - k) ∧ ∀ wr, μ (.bool false) wr = 0 := by
  classical
  have hmono : ∀ k m, UpT (L k) (L (k + m)) := fun k m => by
    induction m with
    | zero => exact UpT.refl _
    | succ m ih => exact ih.trans (hup (k + m))
  have hlt : ∀ k k', k < k' → (k' = 0 ∨ L k' ≠ L (k' - 1)) → L k ≠ L k' := fun k k' h h1 e => by
    rcases h1 with h1 | h1
    · omega
    · refine h1 ?_
      have a := hmono k (k' - 1 - k)
      rw [show k + (k' - 1 - k) = k' - 1 by omega] at a
      have b := hup (k' - 1)
      rw [show k' - 1 + 1 = k' by omega] at b
      have c : L (k' - 1) = L k := funext fun q => UpT.mid a b (by rw [e])
      rw [c, e]
  refine ⟨fun a wr => if a = .bool true then (if h : ∃ k, k ≤ P ∧ MapT wr C (1 + 20 * k) (L k) ∧ (k = 0 ∨ L k ≠ L (k - 1)) then P + 2 - h.choose else 0) else 0, fun k wr hk hM h1 => ?_, fun wr => by simp⟩
  have h : ∃ k, k ≤ P ∧ MapT wr C (1 + 20 * k) (L k) ∧ (k = 0 ∨ L k ≠ L (k - 1)) := ⟨k, hk, hM, h1⟩
  have hs := h.choose_spec
  have e := MapT.unique hM hs.2.1
  have : h.choose = k := by
    rcases Nat.lt_trichotomy h.choose k with hl | hl | hl
    · exact absurd e.symm (hlt _ _ hl h1)
    · exact hl
    · exact absurd e (hlt _ _ hl hs.2.2)
  simp only [if_true, dif_pos h, this]
/-- what startsTo answers: a map of the latest starts, which a further round leaves as they are -/
def LatPost (l : List Lg) (zs : List Int) (x : Int) (to : ByteArray) (by_ : Int) (w : World) (e : Ending) (w' : World) : Prop := ∃ (b K m : Nat), e = .returned (.map (some b)) ∧ w.heap.size ≤ b ∧ MapT w' b m (latT l zs x to by_ K) ∧ latT l zs x to by_ (K + 1) = latT l zs x to by_ K ∧ Below w.heap.size w w'
set_option maxRecDepth 100000 in
set_option maxHeartbeats 1500000 in
theorem starts_to (to : ByteArray) (by_ : Int) (hto : to.size ≤ maxLen) (h0 : 0 ≤ by_) (hby : by_ ≤ 9223372036854775807) (A : Option Addr) (ca : Nat) (l : List Lg) (D : Option Addr) (cd : Nat) (zs : List Int) (x : Int) (w : World) (hA : InK 6 lgC w A l) (hD : IntsIn w D zs) (hs : ∀ z ∈ l, z.f.size ≤ maxLen ∧ z.t.size ≤ maxLen) (hn : l.length ≤ 1048576) (hm : zs.length ≤ 1048576)
    (hsv : servB l zs x to = true) :
    Calls Try.prog 116 #[.agg #[.slice A l.length ca, .slice D zs.length cd, .int .i64 x], .string to, .int .i64 by_] w fun e w' => LatPost l zs x to by_ w e w' := by
  obtain ⟨hnet, htp⟩ := serv_iff.1 hsv
  have hB := Box3.new (T := 39) (v0 := .slice A l.length ca) (v1 := .slice D zs.length cd) (v2 := .int .i64 x) w
  have hb0 := (Below.refl w.heap.size w).alloc (Nat.le_refl _) (.cells #[.slice A l.length ca, .slice D zs.length cd, .int .i64 x] 39)
  have H0 := Lib.hid (And.intro hB (And.intro hb0 (And.intro (hA.below hb0) (hD.below hb0)))); clear hB hb0 hA hD
  have HS := Lib.hid hs
  have hok : ∀ z ∈ l, legOk z = true := fun z hz => by obtain ⟨j, hj, rfl⟩ := List.getElem_of_mem hz; exact (net_at hnet).2.1 j hj
  have hch := (net_at hnet).2.2.2.1
  have HIN := Lib.hid (fun k => lat_in (zs := zs) (ch := x) (to := to) hok hch h0 k)
  have HFI := Lib.hid (fun j h (hi : InL by_ h) => fold_in (zs := zs) (ch := x) (to := to) hch (l.take j) h (fun y hy => hok y (List.mem_of_mem_take hy)) hi)
  have HFX := Lib.hid (fun k hk => lat_fix (l := l) (zs := zs) (ch := x) (to := to) (b := by_) (pl := placesB l) hok hch htp (fun z hz => (pl_place hz).1) (k := k) hk)
  have HTR := Lib.hid (fun b m g k (hk : k < l.length) W (h1 : InK 6 lgC W A l) (h2 : IntsIn W D zs) (h3 : MapT W b m g) (hg : ∀ q v, g q = some v → 0 ≤ v ∧ v ≤ 9223372036854775807) => trip_before to b m g k A ca l D cd zs x W h1 h2 hs hn hm hnet hk h3 hg)
  have HST := Lib.hid (fun k (hk : k < l.length) (d : Int) W (h1 : InK 6 lgC W A l) (h2 : IntsIn W D zs) (hd : 0 ≤ d ∧ d ≤ 60) => start_impl A ca l D cd zs x k d W h1 h2 hk hn hd (leg_bd ((net_at hnet).2.1 k hk)).1)
  have HLB := Lib.hid (fun k (hk : k < l.length) => leg_bd ((net_at hnet).2.1 k hk))
  have hl20 := (net_at hnet).1
  have hP0 : 0 < (placesB l).length := List.length_pos_of_mem htp
  have hP1 : (placesB l).length ≤ 40 := by have := placesB_len l; omega
  have hwf : (Lit.int .i64 by_).wf = true := WalkArith.wf_i64 (by omega)
  clear hs hnet hsv hok htp hch
  have hmm := @run_makeMap Try.prog
  go_enter Try.func116, Try.ntmps116
  have HWZ := Lib.hid (show w.heap.size < (w.alloc (.cells #[.slice A l.length ca, .slice D zs.length cd, .int .i64 x] 39)).heap.size by simp)
  have hWE : (w.alloc (.cells #[.slice A l.length ca, .slice D zs.length cd, .int .i64 x] 39)).heap.size = w.heap.size + 1 := by simp
  have hM0 := MapT.made (w.alloc (.cells #[.slice A l.length ca, .slice D zs.length cd, .int .i64 x] 39))
  have hbm : Below (w.alloc (.cells #[.slice A l.length ca, .slice D zs.length cd, .int .i64 x] 39)).heap.size (w.alloc (.cells #[.slice A l.length ca, .slice D zs.length cd, .int .i64 x] 39)) ((w.alloc (.cells #[.slice A l.length ca, .slice D zs.length cd, .int .i64 x] 39)).alloc (.map #[] 0)) := (Below.refl _ _).alloc (Nat.le_refl _) _
  rw [hWE] at hM0
  go_wp2_with (first
    | (refine wp_insert rfl _ _ _ 107 rfl Try.underlying107 (w.heap.size + 1) 0 _ rfl hM0 (by omega) to by_ rfl rfl hto hwf ?_; intro w2 hM2 hg2)
    | fail)
  clear hmm
  generalize hC : w.heap.size + 1 = C at *
  generalize hB : w.heap.size = B at *
  have HBE := Lib.hid hB; clear hB
  obtain ⟨W, hW⟩ : ∃ W, W = w.alloc (.cells #[.slice A l.length ca, .slice D zs.length cd, .int .i64 x] 39) := ⟨_, rfl⟩
  rw [← hW] at H0 HWZ hM0 hbm hWE hg2
  rw [hWE] at hbm
  clear hW
  have HCE := Lib.hid hWE; clear hWE hC
  rw [show putT (fun _ => none) to by_ = initT to by_ from rfl] at hM2
  have hb2 : Below C W w2 := hbm.grown hg2 (by have := hbm.size; have := HCE.out; omega) (fun k h => by cases h; exact Nat.le_refl _)
  have hC2 : C < w2.heap.size := hM2.lt
  have HM2 := Lib.hid hM2; have HB2 := Lib.hid hb2
  have hBC : B < C := by have := H0.out.1.lt; have := HCE.out; omega
  clear hM2 hb2 hg2 hbm hM0 hwf
  go_wp2
  obtain ⟨μ, hμ1, hμ0⟩ := round_measure (latT l zs x to by_) (lat_up l zs x to by_) (placesB l).length C
  have HMU := Lib.hid hμ1; have HMU0 := Lib.hid hμ0
  clear hμ1 hμ0
  go_loopw [8] (fun a wr => ∃ (k : Nat) (c : Bool), a = .bool c ∧ MapT wr C (1 + 20 * k) (latT l zs x to by_ k) ∧ k ≤ (placesB l).length ∧ Hid (c = false → latT l zs x to by_ (k + 1) = latT l zs x to by_ k) ∧ Hid (c = true → k = 0 ∨ latT l zs x to by_ k ≠ latT l zs x to by_ (k - 1)) ∧ Below C W wr) (fun a wr => μ a wr)
  case atStart => exact ⟨0, true, rfl, HM2.out.mono (by omega), by omega, Lib.hid (fun h => by cases h), Lib.hid (fun _ => .inl rfl), HB2.out⟩
  case round =>
    clear HM2 HB2 hC2
    obtain ⟨k, c, rfl, hMk, hk, hfx, hne, hb⟩ := hrel
    have hCr := hMk.lt
    have HMK := Lib.hid hMk; clear hMk
    have hBr : B < wr.heap.size := by omega
    have HBW := Lib.hid (show Below B w wr from H0.out.2.1.trans ((show Below C W wr from hb).mono (by omega)))
    cases c with
    | false =>
      go_wp2
      go_ret
      exact ⟨C, k, _, rfl, by have := HBE.out; omega, HMK.out, (by first | exact hfx.out rfl | exact hfx.out trivial), by rw [HBE.out]; exact HBW.out⟩
    | true =>
      have hkP : k < (placesB l).length := by
        rcases hne.out rfl with h | h
        · omega
        · by_cases h2 : k < (placesB l).length
          · exact h2
          · exfalso
            by_cases h3 : k = 0
            · omega
            · refine h ?_
              have := HFX.out (k - 1) (by omega)
              rwa [show k - 1 + 1 = k by omega] at this
      have hMU := HMU.out k wr hk HMK.out (hne.out rfl)
      have HMV := Lib.hid hMU; clear hMU
      have HNE := Lib.hid (hne.out rfl)
      obtain ⟨H, hH⟩ : ∃ H, H = latT l zs x to by_ k := ⟨_, rfl⟩
      have HIH := Lib.hid (HIN.out k)
      rw [← hH] at HMK HIH
      have HH := Lib.hid hH; clear hH
      have HB := Lib.hid hb
      obtain ⟨b0, b1, b2⟩ := (H0.out.1.below (by rw [HCE.out]; exact hb)).cells
      clear hfx hne hb
      have hb : Below C W wr := HB.out
      go_wp2
      clear b0 b1 b2
      go_loopw [8, 24] (fun a i wq => ∃ (j : Nat) (c : Bool), j ≤ l.length ∧ i = .int .i64 j ∧ a = .bool c ∧ MapT wq C (1 + 20 * k + j) ((l.take j).foldl (oneL zs x to) H) ∧ Hid (c = false → (l.take j).foldl (oneL zs x to) H = H) ∧ Hid (c = true → (l.take j).foldl (oneL zs x to) H ≠ H) ∧ Below C W wq) (fun _ i _ => l.length - (intOf i).toNat)
      case atStart => exact ⟨0, false, Nat.zero_le _, rfl, rfl, HMK.out, Lib.hid (fun _ => rfl), Lib.hid (fun h => by cases h), hb⟩
      case round =>
        clear HMK hCr hBr HBW hb HB
        obtain ⟨j, c, hj, rfl, rfl, hMj, he, hne, hb⟩ := hrel
        have hCq := hMj.lt
        have HMJ := Lib.hid hMj; clear hMj
        have HB := Lib.hid hb
        have hb' : Below W.heap.size W wr := by rw [HCE.out]; exact hb
        obtain ⟨b0, b1, b2⟩ := (H0.out.1.below hb').cells
        have hBq : B < wr.heap.size := by omega
        by_cases hlt : (j : Int) < (l.length : Int)
        · have hjn : j < l.length := by omega
          have HF := Lib.hid (fold_take (oneL zs x to) H l j hjn)
          have HZ := Lib.hid (HS.out l[j] (List.getElem_mem hjn))
          have HUP := Lib.hid (fold_up_take zs x to l H j)
          have HIJ := Lib.hid (HFI.out j H HIH.out)
          obtain ⟨h, hh0⟩ : ∃ h, h = (l.take j).foldl (oneL zs x to) H := ⟨_, rfl⟩
          rw [← hh0] at HMJ HF HUP HIJ he hne
          clear hh0
          have HLO := Lib.hid (legIn_of (zs := zs) (ch := x) (to := to) (g := h) (x := l[j]))
          have HOB := Lib.hid (befD_bd (zs := zs) (ch := x) (to := to) (g := h) (x := l[j]))
          have HT1 := Lib.hid (fun W' (hh : Below wr.heap.size wr W') => HTR.out C _ h j hjn W' ((H0.out.2.2.1.below hb').below hh) ((H0.out.2.2.2.below hb').below hh) (HMJ.out.below hh) (fun q v hv => by have := HIJ.out q v hv; omega))
          have HS1 := Lib.hid (fun d W' (hh : Below wr.heap.size wr W') => HST.out j hjn d W' ((H0.out.2.2.1.below hb').below hh) ((H0.out.2.2.2.below hb').below hh))
          have hlb1 := (HLB.out j hjn).1
          obtain ⟨gb, rfl, hgb, c0, c1, c2, c3, c4, c5⟩ := (H0.out.2.2.1.below hb').lg j hjn
          obtain ⟨y, hy⟩ : ∃ y, y = l[j] := ⟨_, rfl⟩
          rw [← hy] at c0 c1 c2 c3 c4 c5 HZ HF HLO HOB HT1 HS1 hlb1
          clear hy HB
          obtain ⟨L, hL⟩ : ∃ L : Obj, L = .cells #[.string y.f, .string y.t, .int .i64 y.s, .int .i64 y.k, .int .i64 y.d, .int .i64 y.r] 53 := ⟨_, rfl⟩
          have hbL := (Below.refl wr.heap.size wr).alloc (Nat.le_refl _) L
          by_cases hd : befD zs x to h y < 0
          · have HN := Lib.hid (oneL_none (HLO.out.trans (if_pos hd)))
            have HX := Lib.hid (fun W' hh => by
              have h := HT1.out W' hh
              rw [trTup_no hd] at h
              exact h)
            clear HT1 HS1 HLO HOB hd
            go_wp2_with fail
            rw [← hL]
            refine (HX.out _ hbL).mono ?_; rintro e w2 ⟨rfl, hb2⟩
            go_wp2
            go_roundw
            case rel => exact ⟨j + 1, c, by omega, by go_num, rfl, by rw [HF.out, HN.out]; exact (((HMJ.out.below hbL).below hb2).alloc _).mono (by omega), by rw [HF.out, HN.out]; exact he, by rw [HF.out, HN.out]; exact hne, ((hb.trans (hbL.mono (by omega))).trans (hb2.mono (by have := hbL.size; omega))).alloc (by have := hbL.size; have := hb2.size; omega) _⟩
            case measure => simp [intOf]; omega
          · have HX := Lib.hid (fun W' hh => by
              have h := HT1.out W' hh
              rw [trTup_yes hd] at h
              exact h)
            have hdb : 0 ≤ befD zs x to h y ∧ befD zs x to h y ≤ 60 := by rcases HOB.out with h | h <;> omega
            have HLS := Lib.hid (HLO.out.trans (if_neg hd))
            clear HT1 HLO HOB hd
            generalize befD zs x to h y = d at *
            obtain ⟨E, hE⟩ : ∃ E, E = d * 1440 + y.s := ⟨_, rfl⟩
            have HEE := Lib.hid (fun W' hh => by
              have h := HS1.out d W' hh hdb
              rw [← hE] at h
              exact h)
            rw [← hE] at HLS
            have HWF := Lib.hid (show (Lit.int .i64 E).wf = true from WalkArith.wf_i64 (by omega))
            clear HS1 hE hlb1 hdb
            go_wp2_with fail
            rw [← hL]
            refine (HX.out _ hbL).mono ?_; rintro e w2 ⟨rfl, hb2⟩
            have hLb : w2.heap[wr.heap.size]? = some L := (hb2.block _ (by simp)).trans (heap_alloc_new wr L)
            have hb2' := hbL.trans (hb2.mono hbL.size)
            clear b0 b1 b2
            obtain ⟨b0, b1, b2⟩ := ((H0.out.1.below hb').below hb2').cells
            have hBr2 : B < w2.heap.size := by have := hb2'.size; omega
            have HM2 := Lib.hid (HMJ.out.below hb2')
            clear HMJ HX hb2 c0 c1 c2 c3 c4 c5
            go_wp2_with fail
            have hbT := (Below.refl w2.heap.size w2).alloc (Nat.le_refl _) (.cells #[.int .i64 (j : Int), .int .i64 d] 49)
            refine (HEE.out _ (hb2'.trans (hbT.mono hb2'.size))).mono ?_; rintro e w3 ⟨rfl, hb3⟩
            have hb3' := hbT.trans (hb3.mono hbT.size)
            have hL3 : w3.cell? ⟨wr.heap.size, 0, none⟩ = some (.string y.f) := by
              rw [cell_of_row w3 wr.heap.size 0 _ _ (0, 0) ((hb3'.block _ (Array.getElem?_eq_some_iff.1 hLb).1).trans (hL ▸ hLb))]; rfl
            have HM3 := Lib.hid (HM2.out.below hb3')
            have hb4 := hb2'.trans (hb3'.mono hb2'.size)
            have HB3 := Lib.hid (hb.trans (hb4.mono (Nat.le_of_lt hCq)))
            have hz3 : C < w3.heap.size := HM3.out.lt
            have hwz : wr.heap.size < w3.heap.size := by have := hb3'.size; have := (Array.getElem?_eq_some_iff.1 hLb).1; omega
            have hCW3 : W.heap.size ≤ C := by have := HCE.out; omega
            clear HM2 HEE hbT hb3 hb3' hb2' hLb b0 b1 b2 hb4
            cases hh : h y.f with
            | none =>
              have HN := Lib.hid (oneL_put (h := h) HLS.out (fun b hb => by rw [hh] at hb; cases hb))
              have HD := Lib.hid (put_differs (e := E) (p := y.f) HUP.out (fun b hb => by rw [hh] at hb; cases hb))
              go_wp2_with (first
                | (at_lookup; refine wp_look rfl _ _ 107 rfl Try.underlying107 C (1 + 20 * k + j) h rfl HM3.out _ rfl HZ.out.1 0 false (by rw [hh]; rfl) (by rw [hh]; rfl) ?_)
                | (at_mapUpdate; refine wp_store rfl _ _ _ 107 rfl Try.underlying107 C (1 + 20 * k + j) h rfl HM3.out (by omega) _ E rfl rfl HZ.out.1 HWF.out ?_; intro w4 hM4 hg4)
                | fail)
              go_roundw
              case rel => exact ⟨j + 1, true, by omega, by go_num, rfl, by rw [HF.out, HN.out]; exact hM4, Lib.hid (fun h => by cases h), Lib.hid (fun _ => by rw [HF.out, HN.out]; exact HD.out), HB3.out.grown hg4 (by omega) (by simp)⟩
              case measure => simp [intOf]; omega
            | some e0 =>
              by_cases hlt0 : e0 < E
              · have HN := Lib.hid (oneL_put (h := h) HLS.out (fun b hb => by rw [hh] at hb; cases hb; exact hlt0))
                have HD := Lib.hid (put_differs (e := E) (p := y.f) HUP.out (fun b hb => by rw [hh] at hb; cases hb; exact hlt0))
                go_wp2_with (first
                  | (at_lookup; refine wp_look rfl _ _ 107 rfl Try.underlying107 C (1 + 20 * k + j) h rfl HM3.out _ rfl HZ.out.1 e0 true (by rw [hh]; rfl) (by rw [hh]; rfl) ?_)
                  | (at_mapUpdate; refine wp_store rfl _ _ _ 107 rfl Try.underlying107 C (1 + 20 * k + j) h rfl HM3.out (by omega) _ E rfl rfl HZ.out.1 HWF.out ?_; intro w4 hM4 hg4)
                  | fail)
                go_roundw
                case rel => exact ⟨j + 1, true, by omega, by go_num, rfl, by rw [HF.out, HN.out]; exact hM4, Lib.hid (fun h => by cases h), Lib.hid (fun _ => by rw [HF.out, HN.out]; exact HD.out), HB3.out.grown hg4 (by omega) (by simp)⟩
                case measure => simp [intOf]; omega
              · have HN := Lib.hid (oneL_keep (h := h) HLS.out hh hlt0)
                go_wp2_with (first
                  | (at_lookup; refine wp_look rfl _ _ 107 rfl Try.underlying107 C (1 + 20 * k + j) h rfl HM3.out _ rfl HZ.out.1 e0 true (by rw [hh]; rfl) (by rw [hh]; rfl) ?_)
                  | fail)
                go_roundw
                case rel => exact ⟨j + 1, c, by omega, by go_num, rfl, by rw [HF.out, HN.out]; exact HM3.out.mono (by omega), by rw [HF.out, HN.out]; exact he, by rw [HF.out, HN.out]; exact hne, HB3.out⟩
                case measure => simp [intOf]; omega
        · obtain rfl : j = l.length := by omega
          rw [List.take_length] at HMJ he hne
          have HRE := Lib.hid (show l.foldl (oneL zs x to) H = latT l zs x to by_ (k + 1) by rw [HH.out]; rfl)
          rw [HRE.out, HH.out] at he hne
          rw [HRE.out] at HMJ
          have HM9 := Lib.hid (HMJ.out.mono (m := 1 + 20 * (k + 1)) (by omega))
          clear HMJ b0 b1 b2
          go_wp2_with fail
          go_roundw
          case rel => exact ⟨k + 1, c, rfl, HM9.out, by omega, Lib.hid (fun h => by
            have e := he.out h
            show roundL zs x to l (latT l zs x to by_ (k + 1)) = _
            rw [e]
            exact e), Lib.hid (fun h => .inr (hne.out h)), HB.out⟩
          case measure =>
            rw [HMV.out]
            cases c with
            | false => rw [HMU0.out]; omega
            | true => rw [HMU.out (k + 1) wr (by omega) HM9.out (.inr (hne.out rfl))]; omega
end Go.Proofs.Ytalciiajhlhecaa

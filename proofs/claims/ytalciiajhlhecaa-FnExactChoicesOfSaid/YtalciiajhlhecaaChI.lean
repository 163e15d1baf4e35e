/- Contracts of choicesTo and ChoicesOf: the first text. -/
import Derived.Test.YtalciiajhlhecaaChM
import Derived.Test.YtalciiajhlhecaaChoiceMk
import Derived.Deep.RegionHeld3
namespace Go.Proofs.Ytalciiajhlhecaa
open Go.RowKit
theorem one_ch (t : Ch) : ∀ u ∈ chC t, u.oneCell' = true := by
  intro u hu
  simp only [chC, List.mem_cons, List.not_mem_nil, or_false] at hu
  rcases hu with rfl | rfl <;> rfl
theorem ch_news (wr : World) (T : TypeId) (n e : Int) : ∀ j u, (chC ⟨n, e⟩)[j]? = some u → (wr.alloc (.cells #[.int .i64 n, .int .i64 e] T)).cell? ((⟨wr.heap.size, 0, none⟩ : Addr).add j) = some u := by
  intro j u h
  rw [add_own]
  have hj : j < 2 := by
    have := (List.getElem?_eq_some_iff.1 h).1
    rwa [chC_len] at this
  rw [cell_of_row _ _ _ _ _ _ (heap_alloc_new wr _)]
  simpa [chC] using h
theorem own_newC (w : World) : OwnKch (w.alloc (.cells #[] 67)) w.heap.size (.slice (some ⟨w.heap.size, 0, none⟩) 0 0) [] := World.ownsRow_made w #[] 0 (Nat.le_refl _) (Nat.zero_le _) rfl
theorem own_atC {w : World} {b n : Nat} {v : Value} {l : List Ch} (h : OwnKch w b v l) (hn : l.length = n) {o : Obj} : (w.alloc o).ownsRow b 67 2 v n (l.flatMap chC) := by
  subst hn; exact World.ownsRow.alloc h o
theorem app_atC {w : World} {base n : Nat} {v : Value} {l : List Ch} {z : Ch} (h : w.ownsRow base 67 2 v (n + 1) (l.flatMap chC ++ chC z)) (hn : l.length = n) : OwnKch w base v (l ++ [z]) := by
  subst hn
  unfold OwnKch OwnK
  rw [List.length_append, List.flatMap_append]
  simpa using h
theorem push_none {L : List Ch} {k : Nat} : pushC L k none = L := rfl
theorem push_first {L : List Ch} {k : Nat} {e : Int} (h : lastC L = none) : pushC L k (some e) = L ++ [⟨k, e⟩] := by unfold pushC; rw [h]
theorem push_lt {L : List Ch} {k : Nat} {e b : Int} (h : lastC L = some b) (hlt : e < b) : pushC L k (some e) = L ++ [⟨k, e⟩] := by unfold pushC; rw [h]; dsimp only; rw [if_pos hlt]
theorem push_ge {L : List Ch} {k : Nat} {e b : Int} (h : lastC L = some b) (hlt : ¬ e < b) : pushC L k (some e) = L := by unfold pushC; rw [h]; dsimp only; rw [if_neg hlt]
set_option maxRecDepth 100000 in
set_option maxHeartbeats 2000000 in
theorem choices_nil (to : ByteArray) (w : World) :
    Calls Try.prog 82 #[.slice none 0 0, .string to] w fun e w' => ∃ v, e = .returned v ∧ OwnKch w' w.heap.size v [] ∧ Below w.heap.size w w' := by
  have HO0 := Lib.hid (own_newC w)
  have HB0 := Lib.hid ((Below.refl w.heap.size w).alloc (Nat.le_refl _) (.cells #[] 67))
  go_enter Try.func82, Try.ntmps82
  go_wp2
  go_loopw [5, 14] (fun v i wr => v = .slice (some ⟨w.heap.size, 0, none⟩) 0 0 ∧ i = .int .i64 0 ∧ OwnKch wr w.heap.size v [] ∧ Below w.heap.size w wr) (fun _ _ _ => 0)
  case atStart => exact ⟨rfl, rfl, HO0.out, HB0.out⟩
  case round =>
    clear HO0 HB0
    obtain ⟨rfl, rfl, ho, hb⟩ := hrel
    have HO := Lib.hid ho; clear ho
    go_wp2
    go_ret
    exact ⟨_, rfl, HO.out, hb⟩
set_option maxRecDepth 100000 in
set_option maxHeartbeats 4000000 in
theorem choices_to (to : ByteArray) (hto : to.size ≤ maxLen) (F : Nat → Tm) (bs : List Nat) (base : Nat) (v0 : Value) (w : World) (hR : ArrR w base v0 bs F) (hp : 0 < bs.length) (hn : bs.length ≤ 1000) :
    Calls Try.prog 82 #[v0, .string to] w fun e w' => ∃ v, e = .returned v ∧ OwnKch w' w.heap.size v (chK (fun k => F k to) bs.length) ∧ Below w.heap.size w w' := by
  obtain ⟨i0, hi0, hz0, hz1, hz2⟩ := info_parts ch_info
  obtain ⟨g, cap, rfl, hg0, hg1⟩ := hR.form hp
  have HR := Lib.hid hR; clear hR hp
  have HO0 := Lib.hid (own_newC w)
  have HB0 := Lib.hid ((Below.refl w.heap.size w).alloc (Nat.le_refl _) (.cells #[] 67))
  have HLEN := Lib.hid (chK_len (fun k => F k to))
  have HKS := Lib.hid (fun k => show chK (fun k => F k to) (k + 1) = pushC (chK (fun k => F k to) k) k (F k to) from rfl)
  go_enter Try.func82, Try.ntmps82
  go_wp2
  generalize hB : w.heap.size = B at *
  have HBE := Lib.hid hB; clear hB
  obtain ⟨V0, hV0⟩ : ∃ V0 : Value, V0 = .slice (some ⟨B, 0, none⟩) 0 0 := ⟨_, rfl⟩
  rw [← hV0] at HO0 ⊢
  clear hV0
  go_loopw [5, 14] (fun v i wr => ∃ k : Nat, k ≤ bs.length ∧ i = .int .i64 k ∧ OwnKch wr B v (chK (fun k => F k to) k) ∧ Below B w wr) (fun _ i _ => bs.length - (intOf i).toNat)
  case atStart => exact ⟨0, Nat.zero_le _, rfl, HO0.out, HB0.out⟩
  case round =>
    clear HO0 HB0
    obtain ⟨k, hk, rfl, ho, hb⟩ := hrel
    have hbz : B ≤ wr.heap.size := by rw [← HBE.out]; exact hb.size
    by_cases hlt : (k : Int) < (bs.length : Int)
    · have hkn : k < bs.length := by omega
      have hRk := HR.out.below (show Below w.heap.size w wr by rw [HBE.out]; exact hb)
      have hck := hRk.cell k hkn
      have hgw : g < wr.heap.size := by have := hb.size; omega
      have HM := Lib.hid (hRk.maps k hkn).2
      have hLl := HLEN.out k
      have HK := Lib.hid (HKS.out k)
      clear hRk
      generalize bs[k] = b at *
      obtain ⟨L, hL⟩ : ∃ L, L = chK (fun k => F k to) k := ⟨_, rfl⟩
      rw [← hL] at ho hLl HK
      clear hL
      have HO := Lib.hid ho
      obtain ⟨VA, vc, rfl⟩ := ho.opens
      obtain ⟨N, hN⟩ : ∃ N, N = L.length := ⟨_, rfl⟩
      have HN := Lib.hid hN.symm
      have HI := Lib.hid (ho.ins chC_len).2
      rw [← hN] at hLl HO ⊢
      clear ho
      have HBW := Lib.hid hb; clear hb
      cases hy : F k to with
      | none =>
        have HP := Lib.hid (show chK (fun k => F k to) (k + 1) = L by rw [HK.out, hy]; rfl)
        clear hN HK
        go_wp2_with (first
          | (at_lookup; refine wp_look rfl _ _ 107 rfl Try.underlying107 b _ (F k) rfl HM.out _ rfl hto 0 false (by rw [hy]; rfl) (by rw [hy]; rfl) ?_)
          | fail)
        go_roundw
        case rel => exact ⟨k + 1, by omega, by go_num, by rw [HP.out]; exact HO.out, HBW.out⟩
        case measure => simp [intOf]; omega
      | some e =>
        cases hl : lastC L with
        | none =>
          have h0 := lastC_none hl
          have HP := Lib.hid (show chK (fun k => F k to) (k + 1) = L ++ [⟨k, e⟩] by rw [HK.out, hy]; exact push_first hl)
          have hN0 : N = 0 := by rw [hN, h0]; rfl
          subst hN0
          clear hN HK hl h0
          go_wp2_with (first
            | (at_lookup; refine wp_look rfl _ _ 107 rfl Try.underlying107 b _ (F k) rfl HM.out _ rfl hto e true (by rw [hy]; rfl) (by rw [hy]; rfl) ?_)
            | (at_builtin; refine wpList_append_own _ rfl _ _ 64 rfl B 67 i0 _ 2 16 Try.underlying64 hi0 hz0 hz1 hz2 rfl (by decide) _ 0 (L.flatMap chC) rfl (own_atC HO.out HN.out) ⟨wr.heap.size, 0, none⟩ 1 1 (chC ⟨k, e⟩) rfl rfl (ch_news _ _ _ _) (one_ch _) (by unfold maxLen; omega) (by omega) (by simp; omega) ?_; intro v' w5 hown' hgr hnil)
            | fail)
          go_roundw
          case rel => exact ⟨k + 1, by omega, by go_num, by rw [HP.out]; exact app_atC hown' HN.out, (HBW.out.alloc hbz _).grown hgr (by simp; omega) (fun q h => (World.ownsRow.lt HO.out q h).1)⟩
          case measure => simp [intOf]; omega
        | some b0 =>
          obtain ⟨hpos, hlast⟩ := lastC_some hl
          obtain ⟨m, hm⟩ : ∃ m, N = m + 1 := ⟨N - 1, by omega⟩
          obtain ⟨gl, rfl, hgl, z0, ce⟩ := InK.ch HI.out m (by omega)
          have hce : wr.cell? ⟨gl, m * 2 + 1, none⟩ = some (.int .i64 b0) := by
            have hidx : L.length - 1 = m := by omega
            simp only [hidx] at hlast
            rw [ce, hlast]
          have hNm : (N : Int) - 1 = (m : Int) := by omega
          have hmi : (m : Int) < (N : Int) := by omega
          have hmd : decide ((m : Int) < 0) = false := decide_eq_false (by omega)
          by_cases hlt2 : e < b0
          · have HP := Lib.hid (show chK (fun k => F k to) (k + 1) = L ++ [⟨k, e⟩] by rw [HK.out, hy]; exact push_lt hl hlt2)
            clear hN HK hl ce z0 hlast hm hpos
            go_wp2_with (first
              | (at_lookup; refine wp_look rfl _ _ 107 rfl Try.underlying107 b _ (F k) rfl HM.out _ rfl hto e true (by rw [hy]; rfl) (by rw [hy]; rfl) ?_)
              | (at_builtin; refine wpList_append_own _ rfl _ _ 64 rfl B 67 i0 _ 2 16 Try.underlying64 hi0 hz0 hz1 hz2 rfl (by decide) _ N (L.flatMap chC) rfl (own_atC HO.out HN.out) ⟨wr.heap.size, 0, none⟩ 1 1 (chC ⟨k, e⟩) rfl rfl (ch_news _ _ _ _) (one_ch _) (by unfold maxLen; omega) (by omega) (by simp; omega) ?_; intro v' w5 hown' hgr hnil)
              | fail)
            go_roundw
            case rel => exact ⟨k + 1, by omega, by go_num, by rw [HP.out]; exact app_atC hown' HN.out, (HBW.out.alloc hbz _).grown hgr (by simp; omega) (fun q h => (World.ownsRow.lt HO.out q h).1)⟩
            case measure => simp [intOf]; omega
          · have HP := Lib.hid (show chK (fun k => F k to) (k + 1) = L by rw [HK.out, hy]; exact push_ge hl hlt2)
            clear hN HK hl ce z0 hlast hm hpos
            go_wp2_with (first
              | (at_lookup; refine wp_look rfl _ _ 107 rfl Try.underlying107 b _ (F k) rfl HM.out _ rfl hto e true (by rw [hy]; rfl) (by rw [hy]; rfl) ?_)
              | fail)
            go_roundw
            case rel => exact ⟨k + 1, by omega, by go_num, by rw [HP.out]; exact HO.out, HBW.out⟩
            case measure => simp [intOf]; omega
    · obtain rfl : k = bs.length := by omega
      have HO := Lib.hid ho; clear ho
      go_wp2
      go_ret
      exact ⟨_, rfl, by rw [HBE.out]; exact HO.out, by rw [HBE.out]; exact hb⟩
set_option maxRecDepth 100000 in
set_option maxHeartbeats 4000000 in
theorem choices_impl (fr to : ByteArray) (at_ : Int) (A : Option Addr) (ca : Nat) (l : List Lg) (D : Option Addr) (cd : Nat) (zs : List Int) (x : Int) (w : World) (hA : InK 6 lgC w A l) (hD : IntsIn w D zs) (hs : ∀ z ∈ l, z.f.size ≤ maxLen ∧ z.t.size ≤ maxLen) (hn : l.length ≤ 1048576) (hm : zs.length ≤ 1048576)
    (hf : fr.size ≤ maxLen) (hto : to.size ≤ maxLen) (hat2 : -9223372036854775808 ≤ at_) :
    Calls Try.prog 41 #[.agg #[.slice A l.length ca, .slice D zs.length cd, .int .i64 x], .string fr, .string to, .int .i64 at_] w fun e w' => ∃ v, e = .returned v ∧ OwnKch w' w.heap.size v (chB l zs x fr to at_) ∧ Below w.heap.size w w' := by
  have hB := Box3.new (T := 39) (v0 := .slice A l.length ca) (v1 := .slice D zs.length cd) (v2 := .int .i64 x) w
  have hb0 := (Below.refl w.heap.size w).alloc (Nat.le_refl _) (.cells #[.slice A l.length ca, .slice D zs.length cd, .int .i64 x] 39)
  have H0 := Lib.hid (And.intro hB (And.intro hb0 (And.intro (hA.below hb0) (hD.below hb0)))); clear hB hb0 hA hD
  have HMO := Lib.hid (fun W (h1 : InK 6 lgC W A l) => most_legs A ca l D cd zs.length x W h1 hn)
  have hpl4 : (placesB l).length ≤ 4000000 := by have := placesB_len l; omega
  by_cases hok : bestOk l zs x fr at_ ((placesB l).length : Nat)
  rotate_left
  · have HE := Lib.hid (ch_no (to := to) hok)
    have HN := Lib.hid (fun W (h1 : InK 6 lgC W A l) (h2 : IntsIn W D zs) => by_none fr at_ ((placesB l).length : Nat) A ca l D cd zs x W h1 h2 hs hn hm hok)
    have HC := Lib.hid (fun W => choices_nil to W)
    generalize (placesB l).length = P at *
    clear hok hs hpl4
    go_enter Try.func41, Try.ntmps41
    go_wp2_with fail
    generalize hB : w.heap.size = B at *
    have HBE := Lib.hid hB; clear hB
    generalize w.alloc (.cells #[.slice A l.length ca, .slice D zs.length cd, .int .i64 x] 39) = WW at *
    obtain ⟨b0, b1, b2⟩ := H0.out.1.cells
    have hBr : B < WW.heap.size := H0.out.1.lt
    go_region_held3 (fun w' => w'.cell? ⟨B, 0, none⟩ = some (.slice A l.length ca) ∧ w'.cell? ⟨B, 1, none⟩ = some (.slice D zs.length cd) ∧ w'.cell? ⟨B, 2, none⟩ = some (.int .i64 x))
      (go_keep)
      (first
        | (go_at_call 81; refine (HMO.out _ (H0.out.2.2.1.below ?_)).mono ?_; (focus (first | exact Below.refl _ _ | exact (Below.refl _ _).drew)); (rintro e u1 ⟨rfl, hu⟩; (first | (have hb1 : Below WW.heap.size WW u1 := below_undrew hu) | (have hb1 : Below WW.heap.size WW u1 := hu)); obtain ⟨d0, d1, d2⟩ := (H0.out.1.below hb1).cells; clear hu))
        | (go_at_call 80; refine (HN.out _ (H0.out.2.2.1.below ?_) (H0.out.2.2.2.below ?_)).mono ?_; (focus (first | with_reducible exact hb1 | exact hb1.drew)); (focus (first | with_reducible exact hb1 | exact hb1.drew)); (rintro e u2 ⟨rfl, hu⟩; (first | (have hb2 : Below WW.heap.size WW u2 := chain hb1 hu) | (have hb2 : Below WW.heap.size WW u2 := chain hb1.drew hu)); obtain ⟨e0, e1, e2⟩ := (H0.out.1.below hb2).cells; clear hu))
        | (go_at_call 82; refine (HC.out _).mono ?_; (rintro e u3 ⟨v3, rfl, hv3, hu⟩; (first | (have hb3 : Below WW.heap.size WW u3 := chain hb2 hu) | (have hb3 : Below WW.heap.size WW u3 := chain hb2.drew hu)); obtain ⟨f0, f1, f2⟩ := (H0.out.1.below hb3).cells; have hz2 := hb2.size; have HV3 := Lib.hid (OwnK.mono hv3 (show B ≤ _ by first | omega | (simp; omega))); clear hu hv3)))
    all_goals
      have HBB := Lib.hid (H0.out.2.1.trans (hb3.mono (Nat.le_of_lt hBr)))
      go_wp2
      go_ret
      exact ⟨_, rfl, by rw [HE.out, HBE.out]; exact HV3.out, by rw [HBE.out]; exact HBB.out⟩
  · have HN := Lib.hid (fun W (h1 : InK 6 lgC W A l) (h2 : IntsIn W D zs) => by_legs fr at_ ((placesB l).length : Nat) A ca l D cd zs x W h1 h2 hs hn hm hf hok.1 hok.2.1 hok.2.2 (by omega) hat2)
    have HE := Lib.hid (fun bs (hb : ByL l zs x fr (max at_ 0) ((placesB l).length : Nat) bs) => ch_by (to := to) hok hb)
    have HC := Lib.hid (fun F bs base v0 W h hp hn => choices_to to hto F bs base v0 W h hp hn)
    have hp40 : (placesB l).length ≤ 1000 := by have h1 := (net_at (serv_iff.1 hok.1).1).1; have h2 := placesB_len l; omega
    have HPL := Lib.hid (fun bs (hb : ByL l zs x fr (max at_ 0) ((placesB l).length : Nat) bs) => And.intro hb.pos (Nat.le_trans hb.pl hp40))
    generalize arrT l zs x fr (max at_ 0) = AT at *
    obtain ⟨P, hP⟩ : ∃ P, P = (placesB l).length := ⟨_, rfl⟩
    rw [← hP] at HMO HN HE HPL
    clear hok hs hpl4 hp40 hP
    go_enter Try.func41, Try.ntmps41
    go_wp2_with fail
    generalize hB : w.heap.size = B at *
    have HBE := Lib.hid hB; clear hB
    generalize w.alloc (.cells #[.slice A l.length ca, .slice D zs.length cd, .int .i64 x] 39) = WW at *
    obtain ⟨b0, b1, b2⟩ := H0.out.1.cells
    have hBr : B < WW.heap.size := H0.out.1.lt
    go_region_held3 (fun w' => w'.cell? ⟨B, 0, none⟩ = some (.slice A l.length ca) ∧ w'.cell? ⟨B, 1, none⟩ = some (.slice D zs.length cd) ∧ w'.cell? ⟨B, 2, none⟩ = some (.int .i64 x))
      (go_keep)
      (first
        | (go_at_call 81; refine (HMO.out _ (H0.out.2.2.1.below ?_)).mono ?_; (focus (first | exact Below.refl _ _ | exact (Below.refl _ _).drew)); (rintro e u1 ⟨rfl, hu⟩; (first | (have hb1 : Below WW.heap.size WW u1 := below_undrew hu) | (have hb1 : Below WW.heap.size WW u1 := hu)); obtain ⟨d0, d1, d2⟩ := (H0.out.1.below hb1).cells; clear hu))
        | (go_at_call 80; refine (HN.out _ (H0.out.2.2.1.below ?_) (H0.out.2.2.2.below ?_)).mono ?_; (focus (first | with_reducible exact hb1 | exact hb1.drew)); (focus (first | with_reducible exact hb1 | exact hb1.drew)); (rintro e u2 ⟨v2, bs, rfl, hR2, hBy, hu⟩; (first | (have hb2 : Below WW.heap.size WW u2 := chain hb1 hu) | (have hb2 : Below WW.heap.size WW u2 := chain hb1.drew hu)); obtain ⟨e0, e1, e2⟩ := (H0.out.1.below hb2).cells; have HR2 := Lib.hid hR2; have HBY := Lib.hid hBy; clear hu hR2 hBy))
        | (go_at_call 82; refine (HC.out _ bs _ v2 _ (HR2.out.below ?_) (HPL.out bs HBY.out).1 (HPL.out bs HBY.out).2).mono ?_; (focus (first | exact Below.refl _ _ | exact (Below.refl _ _).drew)); (rintro e u3 ⟨v3, rfl, hv3, hu⟩; (first | (have hb3 : Below WW.heap.size WW u3 := chain hb2 hu) | (have hb3 : Below WW.heap.size WW u3 := chain hb2.drew hu)); obtain ⟨f0, f1, f2⟩ := (H0.out.1.below hb3).cells; have hz2 := hb2.size; have HV3 := Lib.hid (OwnK.mono hv3 (show B ≤ _ by first | omega | (simp; omega))); clear hu hv3)))
    all_goals
      have HBB := Lib.hid (H0.out.2.1.trans (hb3.mono (Nat.le_of_lt hBr)))
      have HEB := Lib.hid (HE.out bs HBY.out)
      go_wp2
      go_ret
      exact ⟨_, rfl, by rw [HEB.out, HBE.out]; exact HV3.out, by rw [HBE.out]; exact HBB.out⟩
end Go.Proofs.Ytalciiajhlhecaa

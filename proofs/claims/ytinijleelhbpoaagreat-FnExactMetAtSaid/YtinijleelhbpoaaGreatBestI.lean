/- The contracts of impl.inOrder, arrivalsByLegs where no way begins, and impl.BestArrivals. -/
import Derived.Test.YtinijleelhbpoaaGreatBe
import Derived.Test.YtinijleelhbpoaaGreatBestS
import Derived.Deep.RegionHeld3
namespace Go.Proofs.YtinijleelhbpoaaGreat
open Go.RowKit
theorem OwnStr.low {w : World} {b c : Nat} {v : Value} {l : List ByteArray} (h : OwnStr w b v l) (hb : c ≤ b) : OwnStr w c v l := by
 refine ⟨h.1, ?_⟩
 rcases h.2 with h | ⟨g, cap, cur, h1, h2, h3⟩
 ·exact .inl h
 ·exact .inr ⟨g, cap, cur, h1, Nat.le_trans hb h2, h3⟩
/-- texts and ints lie in two blocks -/
theorem ints_off {w : World} {b c : Nat} {u v : Value} {l : List ByteArray} {zs : List Int} (h : OwnStr w b u l) (ho : OwnI w c v zs) : u.ownBlock = none ∨ u.ownBlock ≠ v.ownBlock := by
 rcases h.2 with ⟨rfl, _⟩ | ⟨g, cap, cur, rfl, _, h2, _⟩
 ·exact .inl rfl
 ·refine .inr fun e => ?_
  rcases ho.2 with ⟨rfl, _⟩ | ⟨g', cap', cur', rfl, _, h2', _⟩
  ·cases e
  ·have : g = g' := Option.some.inj e
   subst this
   rw [h2] at h2'
   cases h2'
/-- a map and ints lie in two blocks -/
theorem map_ints {w : World} {b n c : Nat} {g : Tm} {v : Value} {zs : List Int} (hm : MapT w b n g) (ho : OwnI w c v zs) : some b ≠ v.ownBlock := by
 intro e
 obtain ⟨D, ⟨es, clock, hb, _⟩, _⟩ := hm
 rcases ho.2 with ⟨rfl, _⟩ | ⟨g', cap, cur, rfl, _, h2, _⟩
 ·cases e
 ·have : b = g' := Option.some.inj e
  subst this
  rw [hb] at h2
  cases h2
set_option maxRecDepth 100000 in
set_option maxHeartbeats 4000000 in
theorem in_order (b m : Nat) (g : Tm) (A : Option Addr) (ca : Nat) (l : List Lg) (D : Option Addr) (cd md : Nat) (x : Int) (w : World) (hA : InK 6 lgC w A l) (hs : ∀ z ∈ l, z.f.size ≤ maxLen ∧ z.t.size ≤ maxLen) (hn : l.length ≤ 1048576) (hM : MapT w b m g) :
  Calls Tryz.prog 216 #[.agg #[.slice A l.length ca, .slice D md cd, .int .i64 x], .map (some b)] w fun e w' => ∃ v, e = .returned v ∧ OwnI w' w.heap.size v (listT (placesB l) g) ∧ Below w.heap.size w w' := by
 obtain ⟨i0, hi0, hz0, hz1, hz2⟩ := info_parts int_info
 have hB := Box3.new (T := 27) (v0 := .slice A l.length ca) (v1 := .slice D md cd) (v2 := .int .i64 x) w
 have hb0 := (Below.refl w.heap.size w).alloc (Nat.le_refl _) (.cells #[.slice A l.length ca, .slice D md cd, .int .i64 x] 27)
 have hb1 := hb0.alloc hb0.size (.cells #[] 3)
 have ho1 : OwnI ((w.alloc (.cells #[.slice A l.length ca, .slice D md cd, .int .i64 x] 27)).alloc (.cells #[] 3)) w.heap.size (.slice (some ⟨w.heap.size + 1, 0, none⟩) 0 0) [] := by
  have h := ownI_new (w.alloc (.cells #[.slice A l.length ca, .slice D md cd, .int .i64 x] 27))
  rw [show (w.alloc (.cells #[.slice A l.length ca, .slice D md cd, .int .i64 x] 27)).heap.size = w.heap.size + 1 from by simp] at h
  exact OwnI.mono h (by omega)
 have hB1 := hB.below ((Below.refl _ _).alloc (Nat.le_refl _) (.cells #[] 3))
 have H0 := Lib.hid (And.intro hB1 (And.intro hb1 (And.intro (hA.below hb1) (And.intro (hM.below hb1) ho1)))); clear hB hb0 hb1 ho1 hB1 hA hM
 have HPL := Lib.hid (fun W (h1 : InK 6 lgC W A l) => places_impl A ca l D cd md x W h1 hn)
 have hpl4 : (placesB l).length ≤ 4000000 := by have := placesB_len l; omega
 have HSZ := Lib.hid (show ∀ p ∈ placesB l, p.size ≤ maxLen from fun p hp => by
  unfold placesB ofL at hp
  obtain ⟨q, hq, rfl⟩ := List.mem_map.1 hp
  obtain ⟨s, hs1, rfl⟩ := List.mem_map.1 ((pl_mem _ _).1 hq)
  obtain ⟨z, hz, hz1⟩ := List.mem_flatMap.1 hs1
  rw [show (⟨s.data.toList.toArray⟩ : ByteArray) = s from str_ext (by simp)]
  rcases List.mem_cons.1 hz1 with rfl | hz1
  ·exact (hs z hz).1
  ·rw [List.mem_singleton.1 hz1]; exact (hs z hz).2)
 clear hs
 go_enter Tryz.func216, Tryz.ntmps216
 obtain ⟨b0, b1, b2⟩ := H0.out.1.cells
 go_wp2_with fail
 generalize hB : w.heap.size = B at *
 have HBE := Lib.hid hB; clear hB
 generalize (w.alloc (.cells #[.slice A l.length ca, .slice D md cd, .int .i64 x] 27)).alloc (.cells #[] 3) = W0 at *
 refine (HPL.out _ H0.out.2.2.1).mono ?_; rintro e W ⟨⟨vp, rfl, hvp⟩, hb1⟩
 obtain ⟨PA, cp, rfl, hP⟩ := own_strs hvp
 have HP := Lib.hid (OwnStr.low hvp (show B ≤ W0.heap.size from Nat.le_of_lt H0.out.1.lt))
 have hBz := H0.out.1.lt
 have H1 := Lib.hid (And.intro (H0.out.2.1.trans (hb1.mono (Nat.le_of_lt hBz))) (And.intro (H0.out.2.2.2.1.below hb1) (H0.out.2.2.2.2.below hb1)))
 have hWB : B < W.heap.size := by have := hb1.size; omega
 clear hvp hP b0 b1 b2 hb1 H0 hBz
 obtain ⟨V0, hV0⟩ : ∃ V0 : Value, V0 = .slice (some ⟨B + 1, 0, none⟩) 0 0 := ⟨_, rfl⟩
 rw [← hV0] at H1 ⊢
 clear hV0
 go_wp2
 go_loopw [5, 14] (fun v i wr => ∃ (k : Nat) (u : Value), k ≤ (placesB l).length ∧ i = .int .i64 k ∧ v = u ∧ OwnI wr B u (listT ((placesB l).take k) g) ∧ MapT wr b m g ∧ OwnStr wr B (.slice PA (placesB l).length cp) (placesB l) ∧ Below B w wr) (fun _ i _ => (placesB l).length - (intOf i).toNat)
 case atStart => exact ⟨0, _, Nat.zero_le _, rfl, rfl, H1.out.2.2, H1.out.2.1, HP.out, H1.out.1⟩
 case round =>
  clear H1 hWB HP
  obtain ⟨k, u, hk, rfl, rfl, ho, hM, hP, hb⟩ := hrel
  have HSO := Lib.hid (ints_off hP ho)
  have hfl : (listT ((placesB l).take k) g).length = k := by rw [listT_len, List.length_take]; omega
  have HO := Lib.hid ho
  have hlt' := fun g h => (HO.out.lt g h).1
  have HOFF := Lib.hid (map_ints hM ho)
  have HM := Lib.hid hM; clear hM
  unfold OwnI at ho
  rw [hfl] at ho
  have hbz := hb.size
  have hBw : B ≤ wr.heap.size := by have := HBE.out; omega
  by_cases hlt : (k : Int) < ((placesB l).length : Int)
  ·have hkn : k < (placesB l).length := by omega
   have HT := Lib.hid (show listT ((placesB l).take (k + 1)) g = listT ((placesB l).take k) g ++ [(g (placesB l)[k]).getD (-1)] from by
    unfold listT; rw [List.take_succ_eq_append_getElem hkn, List.map_append]; rfl)
   have hsz := HSZ.out _ (List.getElem_mem hkn)
   have HP := Lib.hid hP
   obtain ⟨_, _, e', hPS⟩ := own_strs hP
   cases e'
   obtain ⟨gp, rfl, hgp, c0⟩ := hPS k hkn
   clear hP hPS
   obtain ⟨p, hp⟩ : ∃ p, p = (placesB l)[k] := ⟨_, rfl⟩
   rw [← hp] at c0 hsz HT
   clear hp
   cases hgp' : g p with
   | none =>
    rw [hgp'] at HT
    simp only [Option.getD_none] at HT
    go_wp2_with (first
     | (at_lookup; refine wp_look rfl _ _ 114 rfl Tryz.underlying114 b m g rfl HM.out _ rfl hsz 0 false (by rw [hgp']; rfl) (by rw [hgp']; rfl) ?_)
     | (at_builtin; refine wpList_append_own _ rfl _ _ 25 rfl B 3 i0 _ 1 8 Tryz.underlying25 hi0 hz0 hz1 hz2 rfl (by decide) _ k (intV (listT ((placesB l).take k) g)) rfl (ho.alloc _) ⟨wr.heap.size, 0, none⟩ 1 1 (intV [-1]) rfl rfl (int_news _ _) (one_int _) (by unfold maxLen; omega) (by omega) (by simp; omega) ?_; intro v' w2 hown' hgr hnil)
     | fail)
    go_roundw
    case rel => exact ⟨k + 1, _, by omega, by go_num, rfl, by rw [HT.out]; exact ownI_push hown' hfl, (HM.out.alloc _).kept hgr HOFF.out, World.ownsRow.kept (own_below HP.out ((Below.refl _ _).alloc (Nat.le_refl _) _)) hgr HSO.out, (hb.alloc hBw _).grown hgr (by simp; omega) hlt'⟩
    case measure => simp [intOf]; omega
   | some a =>
    rw [hgp'] at HT
    simp only [Option.getD_some] at HT
    go_wp2_with (first
     | (at_lookup; refine wp_look rfl _ _ 114 rfl Tryz.underlying114 b m g rfl HM.out _ rfl hsz a true (by rw [hgp']; rfl) (by rw [hgp']; rfl) ?_)
     | (at_builtin; refine wpList_append_own _ rfl _ _ 25 rfl B 3 i0 _ 1 8 Tryz.underlying25 hi0 hz0 hz1 hz2 rfl (by decide) _ k (intV (listT ((placesB l).take k) g)) rfl (ho.alloc _) ⟨wr.heap.size, 0, none⟩ 1 1 (intV [a]) rfl rfl (int_news _ _) (one_int _) (by unfold maxLen; omega) (by omega) (by simp; omega) ?_; intro v' w2 hown' hgr hnil)
     | fail)
    go_roundw
    case rel => exact ⟨k + 1, _, by omega, by go_num, rfl, by rw [HT.out]; exact ownI_push hown' hfl, (HM.out.alloc _).kept hgr HOFF.out, World.ownsRow.kept (own_below HP.out ((Below.refl _ _).alloc (Nat.le_refl _) _)) hgr HSO.out, (hb.alloc hBw _).grown hgr (by simp; omega) hlt'⟩
    case measure => simp [intOf]; omega
  ·obtain rfl : k = (placesB l).length := by omega
   rw [List.take_length] at HO
   go_wp2
   go_ret
   exact ⟨_, rfl, by rw [HBE.out]; exact HO.out, by rw [HBE.out]; exact hb⟩
end Go.Proofs.YtinijleelhbpoaaGreat

/- LinesOf, both texts. Out of XTps. -/
import Derived.Test.YtadcmngooobeiaaLnOps
import Derived.Test.YtadcmngooobeiaaLnM
namespace Go.Proofs.Ytadcmngooobeiaa
open Go.RowKit
set_option maxRecDepth 100000 in
set_option maxHeartbeats 1000000 in
theorem lof_impl (t : Int) (A : Option Addr) (ca : Nat) (l : List Ln) (w : World) (hA : InK 4 lnC w A l) (hn : l.length ≤ 1048576) :
    Calls Try.prog 51 #[.slice A l.length ca, .int .i64 t] w fun e w' => ∃ v, e = .returned v ∧ OwnKln w' w.heap.size v (linesOfB l t) ∧ Below w.heap.size w w' := by
  obtain ⟨i0, hi0, hz0, hz1, hz2⟩ := info_parts ln_info
  have HA := Lib.hid hA; clear hA
  have HYE := Lib.hid (fun j (h : j < l.length) (e : (fun x => x.o == t) l[j] = true) => filt_yes (p := (fun x => x.o == t)) h e)
  have HNO := Lib.hid (fun j (h : j < l.length) (e : (fun x => x.o == t) l[j] = false) => filt_no (p := (fun x => x.o == t)) h e)
  have HRS := Lib.hid (show linesOfB l t = (l.take l.length).filter (fun x => x.o == t) by rw [List.take_length]; rfl)
  have HO0 := Lib.hid (OwnK.fresh w 25 4 lnC)
  have HB0 := Lib.hid ((Below.refl w.heap.size w).alloc (Nat.le_refl _) (.cells #[] 25))
  go_enter Try.func51, Try.ntmps51
  go_wp2
  generalize hB : w.heap.size = B at *
  have HBE := Lib.hid hB; clear hB
  obtain ⟨V0, hV0⟩ : ∃ V0 : Value, V0 = .slice (some ⟨B, 0, none⟩) 0 0 := ⟨_, rfl⟩
  rw [← hV0] at HO0
  rw [← hV0]
  clear hV0
  generalize (w.alloc (.cells #[] 25)) = W0 at *
  go_loopw [5, 11] (fun v i wr => ∃ k : Nat, k ≤ l.length ∧ i = .int .i64 k ∧ OwnKln wr B v (((l.take k).filter (fun x => x.o == t))) ∧ Below B w wr) (fun _ i _ => l.length - (intOf i).toNat)
  case atStart => exact ⟨0, Nat.zero_le _, rfl, HO0.out, HB0.out⟩
  case round =>
    clear HO0 HB0
    obtain ⟨k, hk, rfl, ho, hb⟩ := hrel
    have hbz : B ≤ wr.heap.size := by rw [← HBE.out]; exact hb.size
    by_cases hlt : (k : Int) < (l.length : Int)
    · have hkn : k < l.length := by omega
      obtain ⟨a, rfl, ha, c0, c1, c2, c3⟩ := (HA.out.below (show Below w.heap.size w wr by rw [HBE.out]; exact hb)).ln k hkn
      have HY := Lib.hid (HYE.out k hkn); have HNN := Lib.hid (HNO.out k hkn)
      have hDl := List.length_filter_le (fun x => x.o == t) (l.take k)
      rw [List.length_take] at hDl
      generalize (l.take k).filter (fun x => x.o == t) = D at *
      generalize l[k] = y at *
      obtain ⟨yo, yk, ya, yt⟩ := y
      dsimp only at c0 c1 c2 c3
      have HO := Lib.hid ho; have HB := Lib.hid hb
      clear ho hb
      obtain ⟨n, hn'⟩ : ∃ n, n = D.length := ⟨_, rfl⟩
      have hnk : n ≤ 1048576 := by rw [hn']; omega
      have HN := Lib.hid hn'.symm
      clear hn' hDl
      by_cases hg : yo = t
      · have hgg : (yo == t) = true := by simpa using hg
        clear hg
        have HD := Lib.hid (show (((l.take (k + 1)).filter (fun x => x.o == t))) = D ++ [⟨yo, yk, ya, yt⟩] by rw [HY.out hgg])
        clear HNN HY
        have HO1 := Lib.hid (World.ownsRow.alloc (World.ownsRow.alloc (OwnK.atN HO.out HN.out) (.cells #[.int .i64 yo, .int .i64 yk, .int .i64 ya, .int .i64 yt] 25)) (.cells #[.int .i64 yo, .int .i64 yk, .int .i64 ya, .int .i64 yt] 25))
        go_wp2_with (at_builtin; refine wpList_append_own _ rfl _ _ 31 rfl B 25 i0 _ 4 32 Try.underlying31 hi0 hz0 hz1 hz2 rfl (by decide) _ n (D.flatMap lnC) rfl HO1.out ⟨wr.heap.size + 1, 0, none⟩ 1 1 (lnC ⟨yo, yk, ya, yt⟩) rfl rfl (enc_news1 _ _ _ _) (one_ln _) (by unfold maxLen; omega) (by omega) (by simp; omega) ?_; intro v' w5 hown' hgr hnil)
        go_roundw
        case rel => exact ⟨k + 1, by omega, by go_num, by rw [HD.out]; exact OwnK.push hown' HN.out, ((HB.out.alloc hbz (.cells #[.int .i64 yo, .int .i64 yk, .int .i64 ya, .int .i64 yt] 25)).alloc (show B ≤ (wr.alloc (.cells #[.int .i64 yo, .int .i64 yk, .int .i64 ya, .int .i64 yt] 25)).heap.size by first | omega | (simp; omega)) _).grown hgr (by simp; omega) (fun q h => (World.ownsRow.lt HO.out q h).1)⟩
        case measure => simp [intOf]; omega
      · have hgg : (yo == t) = false := beq_eq_false_iff_ne.2 hg
        clear hg
        have HD := Lib.hid (show (((l.take (k + 1)).filter (fun x => x.o == t))) = D by rw [HNN.out hgg])
        clear HNN HY
        go_wp2
        go_roundw
        case rel => exact ⟨k + 1, by omega, by go_num, by rw [HD.out]; exact HO.out.below ((Below.refl _ _).alloc (Nat.le_refl _) (.cells #[.int .i64 yo, .int .i64 yk, .int .i64 ya, .int .i64 yt] 25)), HB.out.alloc hbz (.cells #[.int .i64 yo, .int .i64 yk, .int .i64 ya, .int .i64 yt] 25)⟩
        case measure => simp [intOf]; omega
    · obtain rfl : k = l.length := by omega
      have HO := Lib.hid ho; clear ho
      go_wp2
      go_ret
      exact ⟨_, rfl, by rw [HBE.out, HRS.out]; exact HO.out, by rw [HBE.out]; exact hb⟩
set_option maxRecDepth 100000 in
set_option maxHeartbeats 1000000 in
theorem lof_spec (t : Int) (A : Option Addr) (ca : Nat) (l : List Ln) (w : World) (hA : InK 4 lnC w A l) (hn : l.length ≤ 1048576) :
    Calls Try.prog 50 #[.slice A l.length ca, .int .i64 t] w fun e w' => ∃ v, e = .returned v ∧ OwnKln w' w.heap.size v (linesOfB l t) ∧ Below w.heap.size w w' := by
  obtain ⟨i0, hi0, hz0, hz1, hz2⟩ := info_parts ln_info
  have HA := Lib.hid hA; clear hA
  have HYE := Lib.hid (fun j (h : j < l.length) (e : (fun x => x.o == t) l[j] = true) => filt_yes (p := (fun x => x.o == t)) h e)
  have HNO := Lib.hid (fun j (h : j < l.length) (e : (fun x => x.o == t) l[j] = false) => filt_no (p := (fun x => x.o == t)) h e)
  have HRS := Lib.hid (show linesOfB l t = (l.take l.length).filter (fun x => x.o == t) by rw [List.take_length]; rfl)
  have HO0 := Lib.hid (OwnK.fresh w 25 4 lnC)
  have HB0 := Lib.hid ((Below.refl w.heap.size w).alloc (Nat.le_refl _) (.cells #[] 25))
  go_enter Try.func50, Try.ntmps50
  go_wp2
  generalize hB : w.heap.size = B at *
  have HBE := Lib.hid hB; clear hB
  obtain ⟨V0, hV0⟩ : ∃ V0 : Value, V0 = .slice (some ⟨B, 0, none⟩) 0 0 := ⟨_, rfl⟩
  rw [← hV0] at HO0
  rw [← hV0]
  clear hV0
  generalize (w.alloc (.cells #[] 25)) = W0 at *
  go_loopw [5, 6] (fun v i wr => ∃ k : Nat, k ≤ l.length ∧ i = .int .i64 k ∧ OwnKln wr B v (((l.take k).filter (fun x => x.o == t))) ∧ Below B w wr) (fun _ i _ => l.length - (intOf i).toNat)
  case atStart => exact ⟨0, Nat.zero_le _, rfl, HO0.out, HB0.out⟩
  case round =>
    clear HO0 HB0
    obtain ⟨k, hk, rfl, ho, hb⟩ := hrel
    have hbz : B ≤ wr.heap.size := by rw [← HBE.out]; exact hb.size
    by_cases hlt : (k : Int) < (l.length : Int)
    · have hkn : k < l.length := by omega
      obtain ⟨a, rfl, ha, c0, c1, c2, c3⟩ := (HA.out.below (show Below w.heap.size w wr by rw [HBE.out]; exact hb)).ln k hkn
      have HY := Lib.hid (HYE.out k hkn); have HNN := Lib.hid (HNO.out k hkn)
      have hDl := List.length_filter_le (fun x => x.o == t) (l.take k)
      rw [List.length_take] at hDl
      generalize (l.take k).filter (fun x => x.o == t) = D at *
      generalize l[k] = y at *
      obtain ⟨yo, yk, ya, yt⟩ := y
      dsimp only at c0 c1 c2 c3
      have HO := Lib.hid ho; have HB := Lib.hid hb
      clear ho hb
      obtain ⟨n, hn'⟩ : ∃ n, n = D.length := ⟨_, rfl⟩
      have hnk : n ≤ 1048576 := by rw [hn']; omega
      have HN := Lib.hid hn'.symm
      clear hn' hDl
      by_cases hg : yo = t
      · have hgg : (yo == t) = true := by simpa using hg
        clear hg
        have HD := Lib.hid (show (((l.take (k + 1)).filter (fun x => x.o == t))) = D ++ [⟨yo, yk, ya, yt⟩] by rw [HY.out hgg])
        clear HNN HY
        have HO1 := Lib.hid (World.ownsRow.alloc (OwnK.atN HO.out HN.out) (.cells #[.int .i64 yo, .int .i64 yk, .int .i64 ya, .int .i64 yt] 25))
        go_wp2_with (at_builtin; refine wpList_append_own _ rfl _ _ 31 rfl B 25 i0 _ 4 32 Try.underlying31 hi0 hz0 hz1 hz2 rfl (by decide) _ n (D.flatMap lnC) rfl HO1.out ⟨wr.heap.size, 0, none⟩ 1 1 (lnC ⟨yo, yk, ya, yt⟩) rfl rfl (enc_news _ _ _) (one_ln _) (by unfold maxLen; omega) (by omega) (by simp; omega) ?_; intro v' w5 hown' hgr hnil)
        go_roundw
        case rel => exact ⟨k + 1, by omega, by go_num, by rw [HD.out]; exact OwnK.push hown' HN.out, ((HB.out).alloc (show B ≤ wr.heap.size by first | omega | (simp; omega)) _).grown hgr (by simp; omega) (fun q h => (World.ownsRow.lt HO.out q h).1)⟩
        case measure => simp [intOf]; omega
      · have hgg : (yo == t) = false := beq_eq_false_iff_ne.2 hg
        clear hg
        have HD := Lib.hid (show (((l.take (k + 1)).filter (fun x => x.o == t))) = D by rw [HNN.out hgg])
        clear HNN HY
        go_wp2
        go_roundw
        case rel => exact ⟨k + 1, by omega, by go_num, by rw [HD.out]; exact HO.out, HB.out⟩
        case measure => simp [intOf]; omega
    · obtain rfl : k = l.length := by omega
      have HO := Lib.hid ho; clear ho
      go_wp2
      go_ret
      exact ⟨_, rfl, by rw [HBE.out, HRS.out]; exact HO.out, by rw [HBE.out]; exact hb⟩
end Go.Proofs.Ytadcmngooobeiaa

/- The walk of the law: what fits into what fits, fits. -/
import Derived.Test.YtichnpjpldkceaaDrawF
import Derived.Test.YtichnpjpldkceaaFits
import Derived.Test.YtichnpjpldkceaaAt
import Derived.StillTailTactics
namespace Go.Proofs.Ytichnpjpldkceaa.fnFits
open Go.RowKit
theorem fit_thr {a b : List Int} (h : fitB a b = true) : thrB a = true ∧ thrB b = true ∧ leL (sortD a) (sortD b) = true := by
  simpa [fitB] using h
theorem leL_iff {a b : List Int} : leL a b = true ↔ a.getD 0 0 ≤ b.getD 0 0 ∧ a.getD 1 0 ≤ b.getD 1 0 ∧ a.getD 2 0 ≤ b.getD 2 0 := by
  simp only [leL, Bool.and_eq_true, decide_eq_true_eq]
theorem fit_trans {a b c : List Int} (h1 : fitB a b = true) (h2 : fitB b c = true) : fitB a c = true := by
  obtain ⟨ta, _, l1⟩ := fit_thr h1
  obtain ⟨_, tc, l2⟩ := fit_thr h2
  rw [leL_iff] at l1 l2
  unfold fitB
  rw [ta, tc, leL_iff.2 (by omega)]
  rfl
theorem prod_perm {l m : List Int} (h : l.Perm m) : l.foldr (· * ·) 1 = m.foldr (· * ·) 1 := by
  induction h with
  | nil => rfl
  | cons x _ ih => simp only [List.foldr_cons, ih]
  | swap x y l => simp only [List.foldr_cons]; rw [← Int.mul_assoc, ← Int.mul_assoc, Int.mul_comm x y]
  | trans _ _ ih1 ih2 => exact ih1.trans ih2
theorem vol_sorted {l : List Int} (h : thrB l = true) : ∃ a b c : Int, sortD l = [a, b, c] ∧ (1 ≤ a ∧ a ≤ 2000) ∧ (1 ≤ b ∧ b ≤ 2000) ∧ (1 ≤ c ∧ c ≤ 2000) ∧ vol l = a * b * c ∧ girth l = a + 2 * b + 2 * c := by
  obtain ⟨a, b, c, e, ha, hb, hc⟩ := thrB_sorted h
  refine ⟨a, b, c, e, ha, hb, hc, ?_, by unfold girth; rw [if_pos h, e]; rfl⟩
  obtain ⟨x, y, z, rfl, _⟩ := thrB_three h
  have hp := prod_perm (sortD_perm [x, y, z])
  rw [e] at hp
  simp only [List.foldr_cons, List.foldr_nil, Int.mul_one] at hp
  unfold vol; rw [if_pos h]
  show x * y * z = a * b * c
  rw [Int.mul_assoc, Int.mul_assoc]; exact hp.symm
theorem fit_more {a b : List Int} (h : fitB a b = true) : vol a ≤ vol b ∧ girth a ≤ girth b := by
  obtain ⟨ta, tb, l⟩ := fit_thr h
  obtain ⟨x, y, z, e, hx, hy, hz, hv, hg⟩ := vol_sorted ta
  obtain ⟨x', y', z', e', hx', hy', hz', hv', hg'⟩ := vol_sorted tb
  rw [leL_iff, e, e'] at l
  simp only [List.getD_cons_zero, List.getD_cons_succ] at l
  refine ⟨?_, by omega⟩
  rw [hv, hv']
  have h1 : x * y ≤ x' * y' := Int.mul_le_mul (by omega) (by omega) (by omega) (by omega)
  have h0 : 0 ≤ x * y := Int.mul_nonneg (by omega) (by omega)
  have h2 : 0 ≤ x' * y' := by omega
  exact Int.mul_le_mul h1 (by omega) (by omega) h2
theorem fit_at (A B : Option Addr) (ca cb p q : Nat) (xs ys : List Int) (w : World) (hA : IntsIn w A xs) (hB : IntsIn w B ys) (hp : xs.length = p) (hq : ys.length = q) (hpb : p ≤ 4) (hqb : q ≤ 4) :
    Calls Try.prog 18 #[.slice A p ca, .slice B q cb] w fun e w' => e = .returned (.bool (fitB xs ys)) ∧ Below w.heap.size w w' := by
  subst hp hq; exact fit_impl A B ca cb xs ys w hA hB (by omega) (by omega)
theorem fit_at_spec (A B : Option Addr) (ca cb p q : Nat) (xs ys : List Int) (w : World) (hA : IntsIn w A xs) (hB : IntsIn w B ys) (hp : xs.length = p) (hq : ys.length = q) (hpb : p ≤ 4) (hqb : q ≤ 4) :
    Calls Try.prog 19 #[.slice A p ca, .slice B q cb] w fun e w' => e = .returned (.bool (fitB xs ys)) ∧ Below w.heap.size w w' := by
  subst hp hq; exact fit_spec A B ca cb xs ys w hA hB (by omega) (by omega)
theorem vol_at (A : Option Addr) (ca p : Nat) (xs : List Int) (w : World) (hA : IntsIn w A xs) (hp : xs.length = p) (hpb : p ≤ 4) :
    Calls Try.prog 20 #[.slice A p ca] w fun e w' => e = .returned (.int .i64 (vol xs)) ∧ Below w.heap.size w w' := by
  subst hp; exact (vol_impl A ca xs w hA (by omega)).mono fun e w' ⟨h1, n, h2⟩ => ⟨h1, by rw [h2]; exact below_drewN (Below.refl _ _) n⟩
theorem gir_at (A : Option Addr) (ca p : Nat) (xs : List Int) (w : World) (hA : IntsIn w A xs) (hp : xs.length = p) (hpb : p ≤ 4) :
    Calls Try.prog 21 #[.slice A p ca] w fun e w' => e = .returned (.int .i64 (girth xs)) ∧ Below w.heap.size w w' := by
  subst hp; exact gir_impl A ca xs w hA (by omega)
set_option maxRecDepth 100000 in
set_option maxHeartbeats 8000000 in
theorem walk (A : Option Addr) (n cap : Nat) (w : World) (hr : BytesIn w A n) (_hm : n ≤ maxLen) :
    Calls Try.prog 3 #[.slice A n cap] w fun e w' => e = .returned (.bool true) ∧ Below w.heap.size w w' := by
  clear _hm
  have HR := Lib.hid hr; clear hr
  by_cases hbig : 4096 < n
  · have hB : bigB n = true := by simp [bigB, hbig]
    go_enter Try.func3, Try.ntmps3
    go_wp2_with fail
    refine (big_any _ _ _ _).mono ?_; rintro e w1 ⟨rfl, rfl⟩
    go_wp2
    go_ret
    exact ⟨rfl, Below.refl _ _⟩
  have hB : bigB n = false := by simp [bigB]; omega
  have HAT := Lib.hid (fun (i : Nat) (hi : i ≤ 1000) => at_val A n cap w HR.out (by omega) i hi)
  obtain ⟨i0, hi0, hz0, hz1, hz2⟩ := info_parts int_info
  have HI0 := Lib.hid (And.intro hi0 (And.intro hz0 (And.intro hz1 hz2)))
  clear hi0 hz0 hz1 hz2
  go_enter Try.func3, Try.ntmps3
  go_wp2_with fail
  refine (big_any _ _ _ _).mono ?_; rintro e w1 ⟨rfl, rfl⟩
  go_wp2_with fail
  refine (drawFitsIn_any A n cap _ (by omega) HR.out).mono ?_
  rintro e w1 ⟨⟨va, vb, la, lb, rfl, hOa, hOb, hla, hlb, _⟩, hb1⟩
  obtain ⟨Aa, ca, rfl⟩ := OwnI.opens hOa
  obtain ⟨gb, cb, rfl, hgb, hgb1⟩ := OwnI.row hOb (by intro h; rw [h] at hlb; simp at hlb)
  have HA1 := Lib.hid (OwnI.ins hOa).2; have HB1 := Lib.hid (OwnI.ins hOb).2; clear hOa hOb
  have hb0 := (Below.refl w1.heap.size w1).alloc (Nat.le_refl _) (.cells #[] 3)
  have HN := Lib.hid (HB1.out.below hb0).news
  have HBL := Lib.hid hb0; clear hb0
  rw [hlb]
  have HLB := Lib.hid hlb
  go_wp2_with (at_builtin; refine wpList_append_own _ rfl _ _ 24 rfl w1.heap.size 3 i0 (.int .i64 0) 1 8 Try.underlying24 HI0.out.1 HI0.out.2.1 HI0.out.2.2.1 HI0.out.2.2.2 rfl (by decide) _ _ _ rfl (World.ownsRow_made w1 #[] 0 (Nat.le_refl _) (Nat.zero_le _) rfl) ⟨gb, 0, none⟩ 3 cb (intV lb) rfl ?qc1 ?qc2 ?qc3 ?qc4 ?qc5 ?qc6 ?_)
  case qc1 => rw [intV_len, HLB.out]
  case qc2 => exact HN.out
  case qc3 => exact one_int lb
  case qc4 => unfold maxLen; omega
  case qc5 => omega
  case qc6 => simp
  intro v' w2 hown hgrow hnil
  have ho : OwnI w2 w1.heap.size v' lb := by unfold OwnI; simpa [HLB.out] using hown
  obtain ⟨g1, c1, rfl, hr1⟩ := rowI_of ho hnil
  have hb2 := HBL.out.grown hgrow (by simp) (by intro k hk; simp [Value.ownBlock] at hk; omega)
  have HO2 := Lib.hid (show OwnI w2 w1.heap.size (.slice (some ⟨g1, 0, none⟩) 3 c1) lb by have h := hr1; unfold RowI at h; rw [hlb] at h; exact h)
  have HW1 := Lib.hid hb1
  have HL3 := Lib.hid hlb
  obtain ⟨m, hm⟩ : ∃ m, m = la.length := ⟨_, rfl⟩
  rw [← hm] at hla
  rw [← hm, hlb]
  have HM := Lib.hid hm.symm
  clear ho hown hnil hgrow hr1 hb1 HN HBL hlb hm
  have hb2' := Lib.hid hb2; clear hb2
  go_wp2
  go_loopw [6] (fun i wr => ∃ (k : Nat) (lc : List Int), k ≤ 3 ∧ i = .int .i64 k ∧ Hid (lc.length = 3) ∧ Hid (OwnI wr w1.heap.size (.slice (some ⟨g1, 0, none⟩) 3 c1) lc) ∧ Hid (Below w1.heap.size w1 wr)) (fun i _ => 3 - (intOf i).toNat)
  case atStart => exact ⟨0, lb, by omega, rfl, HL3, HO2, hb2'⟩
  case round =>
    obtain ⟨k, lc, hk, rfl, HC, HO, HB⟩ := hrel
    clear HO2 hb2'
    by_cases hlt : (k : Int) < 3
    · have hk3 : k < 3 := by omega
      obtain ⟨vt, hv0, hv1, hv⟩ := HAT.out (k + 1) (by omega)
      have hsum : IntKind.i64.wrap ((k : Int) + 1) = ((k + 1 : Nat) : Int) := by rw [IntWalk.i64_in _ (by omega)]; rfl
      have hc := OwnI.get HO.out k (by rw [HC.out]; exact hk3)
      have hf := own_free HO.out k
      generalize lc.getD k 0 = x at *
      have HST := Lib.hid (fun u => own_store HO.out k u)
      have hglt : g1 < wr.heap.size := ((World.ownsRow.lt HO.out) g1 rfl).2
      have hlow : w1.heap.size ≤ g1 := ((World.ownsRow.lt HO.out) g1 rfl).1
      have hvx := hv wr.drew (HW1.out.trans ((HB.out.drew).mono HW1.out.size))
      clear hv
      go_wp2_with fail
      refine wp_region_still_tail 13 (by kernel_rfl) (by kernel_rfl) ?_
      obtain ⟨X, hX⟩ : ∃ X, X = wr.drew := ⟨_, rfl⟩
      change wpStill _ _ wr.drew (fun a' => wpList _ _ _ _ a' wr.drew) _ _
      rw [← hX]
      rw [← hX] at hvx
      have hc' : X.cell? ⟨g1, k, none⟩ = some (.int .i64 x) := by rw [hX]; exact hc
      have hf' : X.frozen? ⟨g1, k, none⟩ = false := by rw [hX]; exact hf
      have HBX := Lib.hid (show Below w1.heap.size w1 X by rw [hX]; exact HB.out.drew)
      have HSX := Lib.hid (show ∀ u, OwnI (X.setCell ⟨g1, k, none⟩ (.int .i64 u)) w1.heap.size (.slice (some ⟨g1, 0, none⟩) 3 c1) (lc.set k u) by rw [hX]; exact fun u => own_store (World.ownsRow.drew HO.out) k u)
      clear hX hc hf
      simp only [List.take_succ_cons, List.take_zero, List.drop_succ_cons, List.drop_zero]
      repeat still_step
      still_call (hvx.mono fun _ _ ⟨h1, h2⟩ => ⟨h1, h2.symm⟩)
      repeat still_step
      refine wpStill_nil ?_
      clear hvx
      go_wp2
      go_roundw
      case rel => exact ⟨k + 1, _, by omega, by go_num, Lib.hid (by rw [List.length_set]; exact HC.out), Lib.hid (HSX.out _), Lib.hid (HBX.out.setCell hlow _)⟩
      case measure => simp [intOf]; omega
    · have hk3 : k = 3 := by omega
      subst hk3
      have HF := Lib.hid (fun W (h : Below wr.heap.size wr W) => And.intro (HA1.out.below (HB.out.trans (h.mono HB.out.size))) (And.intro (HB1.out.below (HB.out.trans (h.mono HB.out.size))) ((OwnI.ins (HO.out)).2.below h)))
      have HFI := Lib.hid (fun Z Z' cz cz' p q xs ys W (h1 : IntsIn W Z xs) (h2 : IntsIn W Z' ys) hp hq hpb hqb => fit_at Z Z' cz cz' p q xs ys W h1 h2 hp hq hpb hqb)
      have HFS := Lib.hid (fun Z Z' cz cz' p q xs ys W (h1 : IntsIn W Z xs) (h2 : IntsIn W Z' ys) hp hq hpb hqb => fit_at_spec Z Z' cz cz' p q xs ys W h1 h2 hp hq hpb hqb)
      have HVO := Lib.hid (fun Z cz p xs W (h1 : IntsIn W Z xs) hp hpb => vol_at Z cz p xs W h1 hp hpb)
      have HGI := Lib.hid (fun Z cz p xs W (h1 : IntsIn W Z xs) hp hpb => gir_at Z cz p xs W h1 hp hpb)
      have hz := HB.out.size
      have HBW := Lib.hid (HW1.out.trans (HB.out.mono HW1.out.size))
      have HT := Lib.hid (fit_trans (a := la) (b := lb) (c := lc))
      have HMO := Lib.hid (fit_more (a := la) (b := lb))
      clear hlt hk hz
      cases hab : fitB la lb with
      | false =>
        have F1 := Lib.hid (fun W h1 h2 => HFI.out Aa (some ⟨gb, 0, none⟩) ca cb m 3 la lb W h1 h2 HM.out HL3.out (by omega) (by omega))
        have F2 := Lib.hid (fun W h1 h2 => HFS.out Aa (some ⟨gb, 0, none⟩) ca cb m 3 la lb W h1 h2 HM.out HL3.out (by omega) (by omega))
        rw [hab] at F1 F2; clear hab HFI HFS HT HMO
        go_wp2_with fail
        refine (F1.out wr (HF.out wr (Below.refl _ _)).1 (HF.out wr (Below.refl _ _)).2.1).mono ?_; rintro e u1 ⟨rfl, k1⟩
        go_wp2_with fail
        refine (F2.out u1 (HF.out u1 k1).1 (HF.out u1 k1).2.1).mono ?_; rintro e u2 ⟨rfl, h2⟩
        have k2 := k1.trans (h2.mono k1.size); clear h2
        go_wp2_with fail
        refine (F1.out u2 (HF.out u2 k2).1 (HF.out u2 k2).2.1).mono ?_; rintro e u3 ⟨rfl, h3⟩
        have k3 := k2.trans (h3.mono k2.size); clear h3
        go_wp2_with fail
        refine (F1.out u3 (HF.out u3 k3).1 (HF.out u3 k3).2.1).mono ?_; rintro e u4 ⟨rfl, h4⟩
        have k4 := k3.trans (h4.mono k3.size); clear h4
        go_wp2
        go_ret
        exact ⟨rfl, HBW.out.trans (k4.mono HBW.out.size)⟩
      | true =>
        have F1 := Lib.hid (fun W h1 h2 => HFI.out Aa (some ⟨gb, 0, none⟩) ca cb m 3 la lb W h1 h2 HM.out HL3.out (by omega) (by omega))
        have F2 := Lib.hid (fun W h1 h2 => HFS.out Aa (some ⟨gb, 0, none⟩) ca cb m 3 la lb W h1 h2 HM.out HL3.out (by omega) (by omega))
        have F3 := Lib.hid (fun W h1 h2 => HFI.out (some ⟨gb, 0, none⟩) (some ⟨g1, 0, none⟩) cb c1 3 3 lb lc W h1 h2 HL3.out HC.out (by omega) (by omega))
        have F4 := Lib.hid (fun W h1 h2 => HFI.out Aa (some ⟨g1, 0, none⟩) ca c1 m 3 la lc W h1 h2 HM.out HC.out (by omega) (by omega))
        have V1 := Lib.hid (fun W h1 => HVO.out Aa ca m la W h1 HM.out (by omega))
        have V2 := Lib.hid (fun W h1 => HVO.out (some ⟨gb, 0, none⟩) cb 3 lb W h1 HL3.out (by omega))
        have G1 := Lib.hid (fun W h1 => HGI.out Aa ca m la W h1 HM.out (by omega))
        have G2 := Lib.hid (fun W h1 => HGI.out (some ⟨gb, 0, none⟩) cb 3 lb W h1 HL3.out (by omega))
        rw [hab] at F1 F2
        have HT2 := Lib.hid (HT.out hab)
        obtain ⟨hvol, hgir⟩ := HMO.out hab
        clear hab HFI HFS HT HMO HVO HGI
        generalize vol la = v1 at *
        generalize vol lb = v2 at *
        generalize girth la = q1 at *
        generalize girth lb = q2 at *
        have hac : fitB lb lc = false ∨ (fitB lb lc = true ∧ fitB la lc = true) := by
          cases h : fitB lb lc with
          | false => exact .inl rfl
          | true => exact .inr ⟨rfl, HT2.out h⟩
        rcases hac with h | ⟨h, h'⟩
        · rw [h] at F3; clear h HT2
          go_wp2_with fail
          refine (F1.out wr (HF.out wr (Below.refl _ _)).1 (HF.out wr (Below.refl _ _)).2.1).mono ?_; rintro e u1 ⟨rfl, k1⟩
          go_wp2_with fail
          refine (F2.out u1 (HF.out u1 k1).1 (HF.out u1 k1).2.1).mono ?_; rintro e u2 ⟨rfl, h2⟩
          have k2 := k1.trans (h2.mono k1.size); clear h2
          go_wp2_with fail
          refine (F1.out u2 (HF.out u2 k2).1 (HF.out u2 k2).2.1).mono ?_; rintro e u3 ⟨rfl, h3⟩
          have k3 := k2.trans (h3.mono k2.size); clear h3
          go_wp2_with fail
          refine (F3.out u3 (HF.out u3 k3).2.1 (HF.out u3 k3).2.2).mono ?_; rintro e u4 ⟨rfl, h4⟩
          have k4 := k3.trans (h4.mono k3.size); clear h4
          go_wp2_with fail
          refine (F1.out u4 (HF.out u4 k4).1 (HF.out u4 k4).2.1).mono ?_; rintro e u6 ⟨rfl, h6⟩
          have k6 := k4.trans (h6.mono k4.size); clear h6
          go_wp2_with fail
          refine (V1.out u6 (HF.out u6 k6).1).mono ?_; rintro e u7 ⟨rfl, h7⟩
          have k7 := k6.trans (h7.mono k6.size); clear h7
          go_wp2_with fail
          refine (V2.out u7 (HF.out u7 k7).2.1).mono ?_; rintro e u8 ⟨rfl, h8⟩
          have k8 := k7.trans (h8.mono k7.size); clear h8
          go_wp2_with fail
          refine (G1.out u8 (HF.out u8 k8).1).mono ?_; rintro e u9 ⟨rfl, h9⟩
          have k9 := k8.trans (h9.mono k8.size); clear h9
          go_wp2_with fail
          refine (G2.out u9 (HF.out u9 k9).2.1).mono ?_; rintro e ua ⟨rfl, ha⟩
          have ka := k9.trans (ha.mono k9.size); clear ha
          go_wp2
          go_ret
          exact ⟨rfl, HBW.out.trans (ka.mono HBW.out.size)⟩
        · rw [h] at F3; rw [h'] at F4; clear h h' HT2
          go_wp2_with fail
          refine (F1.out wr (HF.out wr (Below.refl _ _)).1 (HF.out wr (Below.refl _ _)).2.1).mono ?_; rintro e u1 ⟨rfl, k1⟩
          go_wp2_with fail
          refine (F2.out u1 (HF.out u1 k1).1 (HF.out u1 k1).2.1).mono ?_; rintro e u2 ⟨rfl, h2⟩
          have k2 := k1.trans (h2.mono k1.size); clear h2
          go_wp2_with fail
          refine (F1.out u2 (HF.out u2 k2).1 (HF.out u2 k2).2.1).mono ?_; rintro e u3 ⟨rfl, h3⟩
          have k3 := k2.trans (h3.mono k2.size); clear h3
          go_wp2_with fail
          refine (F3.out u3 (HF.out u3 k3).2.1 (HF.out u3 k3).2.2).mono ?_; rintro e u4 ⟨rfl, h4⟩
          have k4 := k3.trans (h4.mono k3.size); clear h4
          go_wp2_with fail
          refine (F4.out u4 (HF.out u4 k4).1 (HF.out u4 k4).2.2).mono ?_; rintro e u5 ⟨rfl, h5⟩
          have k5 := k4.trans (h5.mono k4.size); clear h5
          go_wp2_with fail
          refine (F1.out u5 (HF.out u5 k5).1 (HF.out u5 k5).2.1).mono ?_; rintro e u6 ⟨rfl, h6⟩
          have k6 := k5.trans (h6.mono k5.size); clear h6
          go_wp2_with fail
          refine (V1.out u6 (HF.out u6 k6).1).mono ?_; rintro e u7 ⟨rfl, h7⟩
          have k7 := k6.trans (h7.mono k6.size); clear h7
          go_wp2_with fail
          refine (V2.out u7 (HF.out u7 k7).2.1).mono ?_; rintro e u8 ⟨rfl, h8⟩
          have k8 := k7.trans (h8.mono k7.size); clear h8
          go_wp2_with fail
          refine (G1.out u8 (HF.out u8 k8).1).mono ?_; rintro e u9 ⟨rfl, h9⟩
          have k9 := k8.trans (h9.mono k8.size); clear h9
          go_wp2_with fail
          refine (G2.out u9 (HF.out u9 k9).2.1).mono ?_; rintro e ua ⟨rfl, ha⟩
          have ka := k9.trans (ha.mono k9.size); clear ha
          go_wp2
          go_ret
          exact ⟨rfl, HBW.out.trans (ka.mono HBW.out.size)⟩
end Go.Proofs.Ytichnpjpldkceaa.fnFits

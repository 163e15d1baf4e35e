/- The walk of the law on SortSides. -/
import Derived.Test.YtakpeakahofjlaaSort
import Derived.Test.YtakpeakahofjlaaSort2
import Derived.Test.YtakpeakahofjlaaMarkI
namespace Go.Proofs.Ytakpeakahofjlaa.fnExactSortSides
open Go.RowKit
theorem keep_row {w w' : World} {b : Nat} {v u : Value} {l : List Int} (h : OwnI w b v l) (hg : w.grownBy w' u.ownBlock) (hd : ∀ k, v.ownBlock = some k → u.ownBlock ≠ some k) : OwnI w' b v l :=
  World.ownsRow.kept h hg (by
    cases hv : v.ownBlock with
    | none => exact .inl rfl
    | some k => exact .inr (fun e => hd k hv e.symm))
set_option maxRecDepth 100000 in
set_option maxHeartbeats 400000 in
theorem walk (A : Option Addr) (cap : Nat) (zs : List Int) (w : World) (hr : IntsRaw w A zs) (hm : zs.length ≤ maxLen) :
    Calls Try.prog 6 #[.slice A zs.length cap] w fun e w' => e = .returned (.bool true) ∧ Below w.heap.size w w' := by
  unfold maxLen at hm
  have HR := Lib.hid hr; clear hr
  by_cases hbig : (1048576 : Int) < (zs.length : Int)
  · go_enter Try.func6, Try.ntmps6
    go_wp2
    go_ret
    exact ⟨rfl, Below.refl _ _⟩
  · have hsl := sortD_len zs
    have HSL := Lib.hid hsl; clear hsl
    go_enter Try.func6, Try.ntmps6
    go_wp2_with fail
    refine (to_ints A cap zs w HR.out (by omega)).mono ?_; rintro e w1 ⟨rfl, ho1, hb1⟩
    have HO1 := Lib.hid ho1; clear ho1
    go_wp2_with fail
    refine (sort_spec _ _ zs w1 HO1.out.ins.2 (by omega)).mono ?_; rintro e w2 ⟨v0, rfl, hv0, hb2⟩
    replace hv0 := hv0.mono hb1.size
    have HV2 := Lib.hid (show ∀ k, v0.ownBlock = some k → k < w2.heap.size from fun k h => (hv0.lt k h).2)
    replace hb2 := hb1.trans (hb2.mono hb1.size)
    have H0 := Lib.hid hv0; clear hv0 hb1 HO1
    have hz2 := hb2.size
    have HR2 := Lib.hid (HR.out.below hb2)
    go_wp2_with fail
    refine (to_ints A cap zs w2 HR2.out (by omega)).mono ?_; rintro e w3 ⟨rfl, ho3, hb3⟩
    have HO3 := Lib.hid ho3; clear ho3
    have H03 := Lib.hid (H0.out.below hb3)
    have hz3 := hb3.size
    replace hb3 := hb2.trans (hb3.mono hb2.size)
    have hx3 := (HO3.out.lt w2.heap.size rfl).2
    go_wp2_with fail
    refine (sort_impl _ _ zs w3 HO3.out.ins.2 (by omega)).mono ?_; rintro e w4 ⟨g0, rfl, hg0, hb4⟩
    have HG := Lib.hid hg0; clear hg0
    have HO4 := Lib.hid (HO3.out.below hb4)
    have H04 := Lib.hid (H03.out.below hb4)
    replace hb4 := hb3.trans (hb4.mono hb3.size)
    obtain ⟨Av, cv, hv⟩ := H04.out.opens
    obtain ⟨Ag, cg, hg⟩ := HG.out.opens
    have HDg := Lib.hid (show ∀ k, g0.ownBlock = some k → w3.heap.size ≤ k from fun k h => (HG.out.lt k h).1)
    subst hv hg
    have HLN : Hid ((sortD zs).length ≤ 1048576) := by have := HSL.out; show _ ≤ _; omega
    go_wp2_with fail
    refine (eq_ints _ _ _ _ (sortD zs) w4 HG.out.ins.2 H04.out.ins.2 (by have := HLN.out; omega)).mono ?_; rintro e w5 ⟨rfl, hb5⟩
    have HG5 := Lib.hid (HG.out.below hb5)
    have HO5 := Lib.hid (HO4.out.below hb5)
    have H05 := Lib.hid (H04.out.below hb5)
    replace hb5 := hb4.trans (hb5.mono hb4.size)
    have HR5 := Lib.hid (HR.out.below hb5)
    clear hb2 hb3 hb4 H0 H03 HO3 HO4 H04 HR2
    go_wp2_with fail
    refine (to_ints A cap zs w5 HR5.out (by omega)).mono ?_; rintro e w6 ⟨rfl, ho6, hb6⟩
    have HO6 := Lib.hid ho6; clear ho6
    have HG6 := Lib.hid (HG5.out.below hb6)
    have HX6 := Lib.hid (HO5.out.below hb6)
    have H06 := Lib.hid (H05.out.below hb6)
    replace hb6 := hb5.trans (hb6.mono hb5.size)
    go_wp2_with fail
    refine (eq_ints _ _ _ _ zs w6 HX6.out.ins.2 HO6.out.ins.2 (by omega)).mono ?_; rintro e w7 ⟨rfl, hb7⟩
    have HG7 := Lib.hid (HG6.out.below hb7)
    have HX7 := Lib.hid (HX6.out.below hb7)
    have H07 := Lib.hid (H06.out.below hb7)
    replace hb7 := hb6.trans (hb7.mono hb6.size)
    clear hb5 hb6 HG5 HG6 HO5 HX6 H05 H06 HR5 HO6
    go_wp2_with fail
    refine (mark_ints _ 1 _ zs w7 HX7.out (by omega) (by omega)).mono ?_; rintro e w8 ⟨rfl, _, hgr⟩
    have HG8 : Hid (OwnI w8 _ _ (sortD zs)) := Lib.hid (keep_row HG7.out hgr (fun k h e => by have h1 := HDg.out k h; simp [Value.ownBlock] at e; omega))
    have H08 : Hid (OwnI w8 _ _ (sortD zs)) := Lib.hid (keep_row H07.out hgr (fun k h e => by have h1 := HV2.out k h; simp [Value.ownBlock] at e; omega))
    have hb8 := hb7.grown hgr hb7.size (fun k h => by simp [Value.ownBlock] at h; have := hb7.size; omega)
    clear hb7 HG7 HX7 H07
    have hk : ¬ (((1 + zs.length : Nat) : Int) < 0) := by omega
    go_wp2_with fail
    refine (eq_ints _ _ _ _ (sortD zs) w8 HG8.out.ins.2 H08.out.ins.2 (by have := HLN.out; omega)).mono ?_; rintro e w9 ⟨rfl, hb9⟩
    have HG9 := Lib.hid (HG8.out.below hb9)
    have H09 := Lib.hid (H08.out.below hb9)
    replace hb9 := hb8.trans (hb9.mono hb8.size)
    have hz9 := hb9.size
    have hz3' : w.heap.size ≤ w3.heap.size := by omega
    clear hb8 HG8 H08 hgr
    obtain ⟨L, hL⟩ : ∃ L, L = (sortD zs).length := ⟨_, rfl⟩
    have hLb : L ≤ 1048576 := by rw [hL]; exact HLN.out
    have HL := Lib.hid hL
    have hmk := mark_ints (.slice Ag (sortD zs).length cg) 1 _ (sortD zs) w9 HG9.out (by rw [← hL]; omega) (by omega)
    rw [← hL] at hmk ⊢
    clear hL
    have HMK := Lib.hid hmk; clear hmk
    have hMb : ¬ (((1 + L : Nat) : Int) < 0) := by omega
    have hMM : (((1 + L : Nat) : Int) != ((1 + L : Nat) : Int)) = false := by simp
    have HDG : Hid (∀ k, (Value.slice Ag L cg).ownBlock = some k → w3.heap.size ≤ k) := Lib.hid (by have h := HDg.out; rw [← HL.out] at h; exact h)
    have HDV : Hid (∀ k, (Value.slice Av L cv).ownBlock = some k → k < w2.heap.size) := Lib.hid (by have h := HV2.out; rw [← HL.out] at h; exact h)
    have H09' : Hid (OwnI w9 w.heap.size (.slice Av L cv) (sortD zs)) := Lib.hid (by have h := H09.out; rw [← HL.out] at h; exact h)
    clear HDg HV2 H09 HG9
    go_wp2_with fail
    refine HMK.out.mono ?_; rintro e w10 ⟨rfl, hg10, hgr⟩
    have HG10 := Lib.hid hg10; clear hg10 HMK
    have H10 : Hid (OwnI w10 _ _ (sortD zs)) := Lib.hid (keep_row H09'.out hgr (fun k h e => by have h1 := HDV.out k h; have h2 := HDG.out k e; omega))
    have hb10 := hb9.grown hgr hb9.size (fun k h => by have := HDG.out k h; omega)
    clear hb9 hgr H09'
    go_wp2_with fail
    refine (held_ints _ 1 _ L w10 HG10.out hLb (by omega)).mono ?_; rintro e w11 ⟨rfl, hb11⟩
    have HG11 := Lib.hid (HG10.out.below hb11)
    have H11 := Lib.hid (H10.out.below hb11)
    replace hb11 := hb10.trans (hb11.mono hb10.size)
    have HR11 := Lib.hid (HR.out.below hb11)
    clear hb10 HG10 H10
    go_wp2_with fail
    refine (to_ints A cap zs w11 HR11.out (by omega)).mono ?_; rintro e w12 ⟨rfl, ho12, hb12⟩
    have HO12 := Lib.hid ho12; clear ho12
    have HG12 := Lib.hid (HG11.out.below hb12)
    have H12 := Lib.hid (H11.out.below hb12)
    replace hb12 := hb11.trans (hb12.mono hb11.size)
    clear hb11 HG11 H11
    go_wp2_with fail
    refine (sort_impl _ _ zs w12 HO12.out.ins.2 (by omega)).mono ?_; rintro e w13 ⟨h0, rfl, hh, hb13⟩
    have HG13 := Lib.hid (HG12.out.below hb13)
    have H13 := Lib.hid (H12.out.below hb13)
    replace hb13 := hb12.trans (hb13.mono hb12.size)
    obtain ⟨Ah, ch, he⟩ := hh.opens
    subst he
    have HH := Lib.hid hh; clear hh hb12 HG12 H12
    have heq := eq_ints Ah Av ch cv (sortD zs) w13 HH.out.ins.2 H13.out.ins.2 (by have := HLN.out; omega)
    rw [← HL.out] at heq ⊢
    have HE := Lib.hid heq; clear heq
    go_wp2_with fail
    refine HE.out.mono ?_; rintro e w14 ⟨rfl, hb14⟩
    have HG14 := Lib.hid (HG13.out.below hb14)
    replace hb14 := hb13.trans (hb14.mono hb13.size)
    clear hb13 HG13 HE H13 HH
    go_wp2_with fail
    refine (held_ints _ 1 _ L w14 HG14.out hLb (by omega)).mono ?_; rintro e w15 ⟨rfl, hb15⟩
    go_wp2
    go_ret
    exact ⟨rfl, hb14.trans (hb15.mono hb14.size)⟩
end Go.Proofs.Ytakpeakahofjlaa.fnExactSortSides

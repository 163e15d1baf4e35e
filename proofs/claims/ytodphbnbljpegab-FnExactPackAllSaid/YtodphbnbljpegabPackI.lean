/- The contract of impl.PackAll, out of heaviestFirst's. -/
import Derived.Test.YtodphbnbljpegabPackA
import Derived.Test.YtodphbnbljpegabCopyI
import Derived.Deep.AppendLies
namespace Go.Proofs.Ytodphbnbljpegab
open Go.RowKit
/-- heaviestFirst's contract -/
def HeavC (l : List Th) (ids : List Int) (g ca : Nat) (D : Option Addr) (cd : Nat) (f : FuncId) : Prop := ∀ W, InK 6 thC W (some ⟨g, 0, none⟩) l → IntsIn W D ids →
  Calls Try.prog f #[.slice (some ⟨g, 0, none⟩) l.length ca, .slice D ids.length cd] W fun e w' => ∃ v, e = .returned v ∧ OwnI w' W.heap.size v (heav l ids) ∧ Below W.heap.size W w'
theorem own_blk {w : World} {base : Nat} {v : Value} {l : List Int} (h : OwnI w base v l) (q : Nat) (e : v.ownBlock = some q) : base ≤ q ∧ q < w.heap.size := World.ownsRow.lt h q e
theorem grown_th {w w' : World} {b G c : Nat} {n : Nat} {l : List Th} {row : Option Nat} (h : OwnKth w b (.slice (some ⟨G, 0, none⟩) n c) l) (hg : w.grownBy w' row) (hne : ∀ q, row = some q → q ≠ G) : OwnKth w' b (.slice (some ⟨G, 0, none⟩) n c) l := by
  refine World.ownsRow.kept h hg ?_
  right
  intro e
  exact hne G e.symm rfl
/-- what stands in a world of the loop -/
structure PackW (w wr : World) (B : Nat) (n : Nat) (L : List Th) (M os : List Int) (O : Option Addr) (co G c p cp : Nat) : Prop where
  th : OwnKth wr B (.slice (some ⟨G, 0, none⟩) n c) L
  le : OwnI wr B (.slice (some ⟨p, 0, none⟩) M.length cp) M
  ne : p ≠ G
  os : OwnI wr B (.slice O os.length co) os
  on : ∀ a, O = some a → a.block ≠ p
  be : Below B w wr
section
variable {w wr w' : World} {B n : Nat} {L L' : List Th} {M os : List Int} {O : Option Addr} {co G c p cp : Nat}
theorem PackW.pl (h : PackW w wr B n L M os O co G c p cp) : p < wr.heap.size := (World.ownsRow.lt h.le p rfl).2
theorem PackW.gl (h : PackW w wr B n L M os O co G c p cp) : G < wr.heap.size := (World.ownsRow.lt h.th G rfl).2
theorem PackW.bs (h : PackW w wr B n L M os O co G c p cp) : B ≤ wr.heap.size := by have := (World.ownsRow.lt h.th G rfl); omega
theorem PackW.step (h : PackW w wr B n L M os O co G c p cp) {G' c' : Nat} (hb : Below wr.heap.size wr w') (ht : OwnKth w' B (.slice (some ⟨G', 0, none⟩) n c') L') (hG : G' = G ∨ wr.heap.size ≤ G') : PackW w w' B n L' M os O co G' c' p cp :=
  ⟨ht, h.le.below hb, by have := h.pl; have := h.ne; omega, h.os.below hb, h.on, h.be.trans (hb.mono h.bs)⟩
theorem PackW.grow (h : PackW w wr B n L M os O co G c p cp) {M' : List Int} {p' cp' : Nat} (hg : wr.grownBy w' (some p)) (hl : OwnI w' B (.slice (some ⟨p', 0, none⟩) M'.length cp') M') (hp : p' = p ∨ wr.heap.size ≤ p') : PackW w w' B n L M' os O co G c p' cp' := by
  refine ⟨World.ownsRow.kept h.th hg (.inr fun e => h.ne (by injection e with e; exact e.symm)), hl, by have := h.gl; have := h.ne; omega, World.ownsRow.kept h.os hg ?_, fun a ha => ?_, h.be.grown hg h.bs (fun q e => by injection e with e; have := (World.ownsRow.lt h.le p rfl).1; omega)⟩
  · cases ho : O with
    | none => exact .inl rfl
    | some a => exact .inr fun e => by injection e with e; exact h.on a ho e
  · have h1 := h.on a ha
    have h2 := (World.ownsRow.lt h.os a.block (by subst ha; rfl)).2
    omega
end
set_option maxRecDepth 100000 in
set_option maxHeartbeats 4000000 in
theorem pack_impl (g ca : Nat) (l : List Th) (D : Option Addr) (cd : Nat) (ids : List Int) (E : Option Addr) (ce : Nat) (bs : List Int) (HH : thsB l = true → HeavC l ids g ca D cd 76) (w : World) (hA : InK 6 thC w (some ⟨g, 0, none⟩) l) (hn : l.length ≤ 1048576) (hD : IntsIn w D ids) (hE : IntsIn w E bs) (hd : ids.length ≤ 1048576) (hm : bs.length ≤ 1048576) :
    Calls Try.prog 26 #[.slice (some ⟨g, 0, none⟩) l.length ca, .slice D ids.length cd, .slice E bs.length ce] w fun e w' => ∃ v u, e = .returned (.tuple #[v, u]) ∧ OwnKth w' w.heap.size v (packB l ids bs).1 ∧ OwnI w' w.heap.size u (packB l ids bs).2 ∧ Below w.heap.size w w' := by
  obtain ⟨i0, hi0, hz0, hz1, hz2⟩ := info_parts int_info
  have HA := Lib.hid hA; have HD := Lib.hid hD; have HE := Lib.hid hE; clear hA hD hE
  have HCL := Lib.hid (fun W h => clone_th g ca l W h hn)
  have HT := Lib.hid (fun W h => are_impl (some ⟨g, 0, none⟩) ca l W h hn)
  have HHH := Lib.hid HH; clear HH
  have HPF := Lib.hid (fun x G c L W B (hL : L.length = l.length) (h : OwnKth W B (.slice (some ⟨G, 0, none⟩) l.length c) L) (hv : thsB L = true) (hE : IntsIn W E bs) (hB : B ≤ W.heap.size) => put_first x G c B L E ce bs W (by rw [hL]; exact h) (by rw [hL]; exact hn) hv hE hm hB)
  have hokc := Classical.em (thsB l = true ∧ ids.length ≤ 40 ∧ bs.length ≤ 40)
  have hcase : thsB l = false ∨ (thsB l = true ∧ 40 < ids.length) ∨ (thsB l = true ∧ ids.length ≤ 40 ∧ 40 < bs.length) ∨ (thsB l = true ∧ ids.length ≤ 40 ∧ bs.length ≤ 40) := by
    cases thsB l with
    | false => exact .inl rfl
    | true => right; simp only [true_and]; omega
  go_enter Try.func26, Try.ntmps26
  go_wp2_with fail
  refine (HCL.out w HA.out).mono ?_; rintro e w1 ⟨G, c, rfl, hr1, hb1⟩
  have HR1 := Lib.hid hr1; have HB1 := Lib.hid hb1; clear hr1 hb1
  go_wp2_with fail
  have HI := Lib.hid (ownI_new w1)
  have HB2 := Lib.hid (HB1.out.alloc HB1.out.size (.cells #[] 3))
  have HR2 := Lib.hid (below_th HR1.out ((Below.refl _ _).alloc (Nat.le_refl _) (.cells #[] 3)))
  have hG : G < w1.heap.size := (World.ownsRow.lt HR1.out G rfl).2
  have hBs := HB1.out.size
  clear HB1 HR1
  generalize w1.alloc (.cells #[] 3) = w2 at *
  generalize w1.heap.size = C at *
  refine (HT.out w2 (HA.out.below HB2.out)).mono ?_; rintro e w3 ⟨rfl, hb3⟩
  have HR3 := Lib.hid (below_th HR2.out hb3); have HI3 := Lib.hid (HI.out.below hb3); have HB3 := Lib.hid (HB2.out.trans (hb3.mono HB2.out.size))
  clear hb3 HI HB2 HR2 hokc
  rcases hcase with ht | ⟨ht, h1⟩ | ⟨ht, h1, h2⟩ | ⟨ht, h1, h2⟩
  · have HP := Lib.hid (pack_no (l := l) (ids := ids) (bs := bs) (by rw [ht]; simp))
    rw [ht]
    clear ht HHH HPF
    go_wp2
    go_ret2
    exact ⟨_, _, rfl, by rw [HP.out]; exact HR3.out, by rw [HP.out]; exact OwnI.mono HI3.out hBs, HB3.out⟩
  · have HP := Lib.hid (pack_no (l := l) (ids := ids) (bs := bs) (by omega))
    rw [ht]
    clear ht HHH HPF
    have hd1 : decide ((40 : Int) < (ids.length : Int)) = true := decide_eq_true (by omega)
    have hd2 : decide (40 < ids.length) = true := decide_eq_true (by omega)
    go_wp2
    go_ret2
    exact ⟨_, _, rfl, by rw [HP.out]; exact HR3.out, by rw [HP.out]; exact OwnI.mono HI3.out hBs, HB3.out⟩
  · have HP := Lib.hid (pack_no (l := l) (ids := ids) (bs := bs) (by omega))
    rw [ht]
    clear ht HHH HPF
    have hd1 : decide ((40 : Int) < (ids.length : Int)) = false := decide_eq_false (by omega)
    have hd2 : decide (40 < ids.length) = false := decide_eq_false (by omega)
    have hd3 : decide ((40 : Int) < (bs.length : Int)) = true := decide_eq_true (by omega)
    have hd4 : decide (40 < bs.length) = true := decide_eq_true (by omega)
    go_wp2
    go_ret2
    exact ⟨_, _, rfl, by rw [HP.out]; exact HR3.out, by rw [HP.out]; exact OwnI.mono HI3.out hBs, HB3.out⟩
  · have HP := Lib.hid (pack_yes (l := l) (ids := ids) (bs := bs) ⟨ht, h1, h2⟩)
    have HV := Lib.hid (fun os k => pck_valid ht bs os k)
    have HHV := Lib.hid (fun W h h' => HHH.out ht W h h')
    have hol : (heav l ids).length ≤ 40 := by rw [heav_len]; exact h1
    rw [ht]
    clear ht HHH
    have hd1 : decide ((40 : Int) < (ids.length : Int)) = false := decide_eq_false (by omega)
    have hd2 : decide (40 < ids.length) = false := decide_eq_false (by omega)
    have hd3 : decide ((40 : Int) < (bs.length : Int)) = false := decide_eq_false (by omega)
    have hd4 : decide (40 < bs.length) = false := decide_eq_false (by omega)
    go_wp2_with fail
    refine (HHV.out w3 (HA.out.below HB3.out) (HD.out.below HB3.out)).mono ?_; rintro e w4 ⟨v, rfl, ho, hb4⟩
    obtain ⟨O, co, rfl⟩ := ho.opens
    have hC3 : C < w3.heap.size := (World.ownsRow.lt HI3.out C rfl).2
    have HW := Lib.hid (show PackW w w4 w.heap.size l.length l [] (heav l ids) O co G c C 0 from
      ⟨below_th HR3.out hb4, OwnI.mono (HI3.out.below hb4) hBs, by omega, OwnI.mono ho HB3.out.size, fun a ha => by have := (World.ownsRow.lt ho a.block (by subst ha; rfl)).1; omega, HB3.out.trans (hb4.mono HB3.out.size)⟩)
    clear ho hb4 HHV hd1 hd2 hd3 hd4 HR3 HI3 HB3 hC3 HD HA HCL HT
    generalize heav l ids = os at *
    generalize hB : w.heap.size = B at *
    have HBE := Lib.hid hB; clear hB
    go_wp2
    go_loopw [8, 9, 36] (fun v8 v9 i wr => ∃ (k G c p cp : Nat) (L : List Th) (M : List Int), k ≤ os.length ∧ i = .int .i64 k ∧ v8 = .slice (some ⟨G, 0, none⟩) l.length c ∧ v9 = .slice (some ⟨p, 0, none⟩) M.length cp ∧ pckK l bs os k = (L, M) ∧ PackW w wr B l.length L M os O co G c p cp) (fun _ _ i _ => os.length - (intOf i).toNat)
    case atStart => exact ⟨0, G, c, C, 0, l, [], Nat.zero_le _, rfl, rfl, rfl, rfl, HW.out⟩
    case round =>
      clear HW
      obtain ⟨k, G, c, p, cp, L, M, hk, rfl, rfl, rfl, hS, hW⟩ := hrel
      have HW := Lib.hid hW; have HS := Lib.hid hS; clear hW hS
      by_cases hlt : k < os.length
      · have hki : (k : Int) < (os.length : Int) := by omega
        have hLl : L.length = l.length := by have := (pck_len l bs os k).1; rw [HS.out] at this; exact this
        have hMl : M.length ≤ k := by have := (pck_len l bs os k).2; rw [HS.out] at this; exact this
        have hLv : thsB L = true := by have := HV.out os k; rw [HS.out] at this; exact this
        obtain ⟨go, rfl, hgo, e0⟩ := HW.out.os.ins.2 k hlt
        obtain ⟨x, hx⟩ : ∃ x, x = os[k] := ⟨_, rfl⟩
        rw [← hx] at e0
        have HN := Lib.hid (show pckK l bs os (k + 1) = ((firB L x bs).1, if (firB L x bs).2 then M else M ++ [x]) by rw [pckK_next l bs hlt, HS.out, hx]; rfl)
        have HPK := Lib.hid (HPF.out x G c L _ _ hLl HW.out.th hLv (HE.out.below (by rw [HBE.out]; exact HW.out.be)) HW.out.bs)
        rw [hLl] at HPK
        have HFL := Lib.hid (fir_len L x bs)
        clear hx
        go_wp2_with fail
        refine HPK.out.mono ?_; rintro e w5 ⟨G2, c2, rfl, ho2, hG2, hb5⟩
        have HW5 := Lib.hid (HW.out.step hb5 ho2 hG2)
        clear ho2 hG2 hb5 HPK e0 HW
        generalize (firB L x bs).1 = L2 at *
        cases hq : (firB L x bs).2 with
        | true =>
          rw [hq] at HN
          go_wp2
          go_roundw
          case rel => exact ⟨k + 1, G2, c2, p, cp, L2, M, by omega, by go_num, rfl, rfl, HN.out, HW5.out⟩
          case measure => simp [intOf]; omega
        | false =>
          rw [hq] at HN
          have hp5 := HW5.out.pl
          go_wp2_with (at_builtin; refine wpList_append_lies _ rfl _ _ 27 rfl B 3 i0 _ 1 8 Try.underlying27 hi0 hz0 hz1 hz2 rfl (by decide) _ M.length (intV M) rfl (HW5.out.le.alloc _) ⟨w5.heap.size, 0, none⟩ 1 1 (intV [x]) rfl rfl (int_news _ _) (one_int _) (by decide) (by unfold maxLen; omega) (by omega) (by have := HW5.out.bs; simp; omega) _ rfl ?_; intro g' cap' w7 hown' hgr hat hlt7)
          have HW7 := Lib.hid (((HW5.out.step ((Below.refl _ _).alloc (Nat.le_refl _) (.cells #[.int .i64 x] 3)) (below_th HW5.out.th ((Below.refl _ _).alloc (Nat.le_refl _) _)) (.inl rfl))).grow hgr (by rw [List.length_append]; exact ownI_push hown' rfl) (hat.elim (fun h => .inl (by injection h with h; exact h.symm)) (fun h => .inr (by omega))))
          clear hown' hgr hat HW5
          go_wp2
          go_roundw
          case rel => exact ⟨k + 1, G2, c2, g', cap', L2, M ++ [x], by omega, by go_num, rfl, by simp, HN.out, HW7.out⟩
          case measure => simp [intOf]; omega
      · obtain rfl : k = os.length := by omega
        have HS2 := Lib.hid (HP.out.trans HS.out)
        go_wp2
        go_ret2
        exact ⟨_, _, rfl, by rw [HS2.out, HBE.out]; exact HW.out.th, by rw [HS2.out, HBE.out]; exact HW.out.le, by rw [HBE.out]; exact HW.out.be⟩
end Go.Proofs.Ytodphbnbljpegab

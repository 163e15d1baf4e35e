/- ScansOf, both texts. -/
import Derived.Test.YtamlbiagjipedaaGreatScSrL
import Derived.Test.YtamlbiagjipedaaGreatScDel
import Derived.Maps.AppendAt
namespace Go.Proofs.YtamlbiagjipedaaGreat
open Go.RowKit
/-- the scans of one thing -/
def scOfB (l : List Lg) (zs : List Int) (x : Int) (ls : List Sc) (th : Int) : List Sc := (sortV l zs x ls).filter fun y => y.h == th
theorem scOf_len {l : List Lg} {zs : List Int} {x : Int} {ls : List Sc} {th : Int} : (scOfB l zs x ls th).length ≤ ls.length := Nat.le_trans (List.length_filter_le _ _) sortV_len
theorem cell1 {W : World} {B : Nat} {T : TypeId} {v0 : Value} (h : W.heap[B]? = some (.cells #[v0] T (0, 0))) : W.cell? ⟨B, 0, none⟩ = some v0 := by simp [World.cell?, h]
/-- what the closure is given: the thing, in a box -/
def ThK (B : Nat) (th : Int) (W : World) : Prop := W.heap[B]? = some (.cells #[.int .i64 th] 3 (0, 0))
theorem th_says (B : Nat) (th : Int) (bs : List Sc) : SaysC 69 #[.pointer (some ⟨B, 0, none⟩)] (fun y => y.h != th) bs (ThK B th) := by
  intro W y _ hK
  have hB := (Array.getElem?_eq_some_iff.1 hK).1
  have t0 := cell1 hK
  clear hK
  show Calls _ _ #[.agg #[.int .i64 y.h, .int .i64 y.a, .int .i64 y.k, .string y.p, .int .i64 y.g, .int .i64 y.d], .pointer (some ⟨B, 0, none⟩)] _ _
  go_enter Tryz.func69, Tryz.ntmps69
  go_wp2
  go_ret
  exact ⟨rfl, (Below.refl _ _).alloc (Nat.le_refl _) _⟩
theorem th_filter (bs : List Sc) (th : Int) : (bs.filter fun y => !(y.h != th)) = bs.filter fun y => y.h == th := by
  congr 1
  funext y
  simp [bne]
set_option maxRecDepth 100000 in
set_option maxHeartbeats 400000 in
theorem scof_impl (A : Option Addr) (ca : Nat) (l : List Lg) (D : Option Addr) (cd : Nat) (zs : List Int) (x : Int) (E : Option Addr) (ce : Nat) (ls : List Sc) (th : Int) (w : World) (hA : InK 6 lgC w A l) (hD : IntsIn w D zs) (hs : ∀ z ∈ l, z.f.size ≤ maxLen ∧ z.t.size ≤ maxLen) (hn : l.length ≤ 1048576) (hm : zs.length ≤ 1048576) (hE : InK 6 scC w E ls) (hk : ls.length ≤ 1048576) (hce : ls.length ≤ ce) :
    Calls Tryz.prog 20 #[.agg #[.slice A l.length ca, .slice D zs.length cd, .int .i64 x], .slice E ls.length ce, .int .i64 th] w fun e w' => ∃ G c, e = .returned (.slice (some ⟨G, 0, none⟩) (scOfB l zs x ls th).length c) ∧ RowC w' w.heap.size G c (scOfB l zs x ls th) ∧ Below w.heap.size w w' := by
  have HA := Lib.hid hA; have HD := Lib.hid hD; have HE := Lib.hid hE; clear hA hD hE
  have HSI := Lib.hid (fun W h1 h2 h3 => sort_impl A ca l D cd zs x E ce ls W h1 h2 hs hn hm h3 hk hce)
  clear hs
  have H2 := two w (.cells #[.slice A l.length ca, .slice D zs.length cd, .int .i64 x] 27) (.cells #[.int .i64 th] 3)
  have HT := Lib.hid H2.2.1; have HB2 := Lib.hid H2.2.2.1; have hz2 := H2.2.2.2
  clear H2
  have HV := Lib.hid (show scOfB l zs x ls th = _ from (th_filter (sortV l zs x ls) th).symm)
  have hvl := sortV_len (l := l) (zs := zs) (x := x) (ls := ls)
  have eg : ∀ args w, (callFunc 69 args).run Tryz.prog w = .ok (.enter 69 args) w := enters_of Tryz.func69 (by kernel_rfl) rfl
  generalize hB : w.heap.size = B at *
  have HBE := Lib.hid hB
  go_enter Tryz.func20, Tryz.ntmps20
  go_wp2_with fail
  clear hB
  generalize (w.alloc (.cells #[.slice A l.length ca, .slice D zs.length cd, .int .i64 x] 27)).alloc (.cells #[.int .i64 th] 3) = W2 at *
  have hb2 : Below w.heap.size w W2 := by rw [HBE.out]; exact HB2.out
  refine (HSI.out W2 (HA.out.below hb2) (HD.out.below hb2) (HE.out.below hb2)).mono ?_; rintro e w1 ⟨G, c, rfl, hr, hb⟩
  clear hb2 HSI HA HD HE
  generalize sortV l zs x ls = V at *
  have hG := (RowC.low hr).1
  have hK1 : ThK (B + 1) th w1 := (hb.block (B + 1) (by omega)).trans HT.out
  have hKK : ∀ W W', ThK (B + 1) th W → W.grownBy W' (some G) → ThK (B + 1) th W' := fun W W' h hg => (hg.block (B + 1) (Array.getElem?_eq_some_iff.1 h).1 (fun e => by have := Option.some.inj e; omega)).trans h
  have HDL := Lib.hid (del_sc (fun y => y.h != th) 69 #[.pointer (some ⟨B + 1, 0, none⟩)] W2.heap.size G c (ThK (B + 1) th) hKK eg V w1 hr (by omega) (th_says (B + 1) th V) hK1)
  have HB1 := Lib.hid (HB2.out.trans (hb.mono (by omega)))
  have hs1 := hb.size
  clear hr hb hK1 hKK eg
  go_wp2_with fail
  refine HDL.out.mono ?_; rintro e w3 ⟨rfl, hr3, hg3⟩
  rw [← HV.out] at hr3 ⊢
  have HR3 := Lib.hid (OwnK.mono hr3 (show B ≤ W2.heap.size by omega))
  have HB3 := Lib.hid (HB1.out.grown hg3 (by omega) (fun q e => by cases e; exact (show B ≤ G by omega)))
  clear hr3 hg3 HDL
  go_wp2
  go_ret
  exact ⟨G, c, rfl, HR3.out, HB3.out⟩
set_option maxRecDepth 100000 in
set_option maxHeartbeats 400000 in
theorem scof_spec (A : Option Addr) (ca : Nat) (l : List Lg) (D : Option Addr) (cd : Nat) (zs : List Int) (x : Int) (E : Option Addr) (ce : Nat) (ls : List Sc) (th : Int) (w : World) (hA : InK 6 lgC w A l) (hD : IntsIn w D zs) (hs : ∀ z ∈ l, z.f.size ≤ maxLen ∧ z.t.size ≤ maxLen) (hn : l.length ≤ 1048576) (hm : zs.length ≤ 1048576) (hE : InK 6 scC w E ls) (hk : ls.length ≤ 1048576) :
    Calls Tryz.prog 46 #[.agg #[.slice A l.length ca, .slice D zs.length cd, .int .i64 x], .slice E ls.length ce, .int .i64 th] w fun e w' => ∃ G c, e = .returned (.slice (some ⟨G, 0, none⟩) (scOfB l zs x ls th).length c) ∧ RowC w' w.heap.size G c (scOfB l zs x ls th) ∧ Below w.heap.size w w' := by
  have HA := Lib.hid hA; have HD := Lib.hid hD; have HE := Lib.hid hE; clear hA hD hE
  have HSI := Lib.hid (fun W h1 h2 h3 => sort_spec A ca l D cd zs x E ce ls W h1 h2 hs hn hm h3 hk)
  clear hs
  have H2 := two w (.cells #[.slice A l.length ca, .slice D zs.length cd, .int .i64 x] 27) (.cells #[] 34)
  have HT := Lib.hid H2.2.1; have HB2 := Lib.hid H2.2.2.1; have hz2 := H2.2.2.2
  clear H2
  obtain ⟨i0, hi0, hz0, hz1, hz3⟩ := info_parts sc_info
  have HV := Lib.hid (show scOfB l zs x ls th = (sortV l zs x ls).filter fun y => y.h == th from rfl)
  have hvl := sortV_len (l := l) (zs := zs) (x := x) (ls := ls)
  generalize hB : w.heap.size = B at *
  have HBE := Lib.hid hB
  go_enter Tryz.func46, Tryz.ntmps46
  go_wp2_with fail
  clear hB
  generalize (w.alloc (.cells #[.slice A l.length ca, .slice D zs.length cd, .int .i64 x] 27)).alloc (.cells #[] 34) = W2 at *
  have hb2 : Below w.heap.size w W2 := by rw [HBE.out]; exact HB2.out
  refine (HSI.out W2 (HA.out.below hb2) (HD.out.below hb2) (HE.out.below hb2)).mono ?_; rintro e w1 ⟨G, c, rfl, hr, hb⟩
  clear hb2 HSI HA HD HE
  generalize sortV l zs x ls = V at *
  have hG := RowC.low hr
  have hR0 : RowC w1 (B + 1) (B + 1) 0 ((V.take 0).filter fun y => y.h == th) := own_nilS (Nat.le_refl _) ((hb.block (B + 1) (by omega)).trans HT.out)
  have hlt1 : B + 1 < w1.heap.size := by have := hb.size; omega
  have HRV := Lib.hid hr; have HR0 := Lib.hid hR0
  have HB1 := Lib.hid (HB2.out.trans (hb.mono (by omega)))
  clear hr hb hR0
  go_wp2
  go_loopw [9, 7] (fun i v wr => ∃ k G2 c2 : Nat, i = .int .i64 k ∧ k ≤ V.length ∧ v = .slice (some ⟨G2, 0, none⟩) ((V.take k).filter fun y => y.h == th).length c2 ∧ Hid (RowC wr (B + 1) G2 c2 ((V.take k).filter fun y => y.h == th)) ∧ Hid (RowC wr W2.heap.size G c V) ∧ Hid (Below B w wr) ∧ G2 ≠ G) (fun i _ _ => V.length - (intOf i).toNat)
  case atStart => exact ⟨0, B + 1, 0, rfl, by omega, rfl, HR0, HRV, HB1, by omega⟩
  case round =>
    clear HR0 HRV HB1
    obtain ⟨k, G2, c2, rfl, hkm, rfl, hro, hrv, hbw, hne⟩ := hrel
    have hl2 := RowC.low hro.out; have hlG := RowC.low hrv.out
    by_cases hlt : (k : Int) < (V.length : Int)
    · have hkl : k < V.length := by omega
      obtain ⟨g0, e0, hg0, c0, c1, c2', c3, c4, c5⟩ := (ins_row hrv.out scC_len rfl).sc k hkl
      cases e0
      have HY := Lib.hid (filtS_yes (q := fun y => y.h == th) hkl)
      have HN := Lib.hid (filtS_no (q := fun y => y.h == th) hkl)
      have hfl : ((V.take k).filter fun y => y.h == th).length ≤ k := Nat.le_trans (List.length_filter_le _ _) (by rw [List.length_take]; omega)
      generalize V[k] = y at c0 c1 c2' c3 c4 c5 HY HN
      generalize (V.take k).filter (fun y => y.h == th) = F at *
      by_cases hq : y.h = th
      · have hqb : (y.h == th) = true := by simpa using hq
        have HV2 := Lib.hid (HY.out hqb)
        clear HY HN hq
        have hmx : F.length + 1 ≤ maxLen := by unfold maxLen; omega
        have hmb : (F.length + 1) * 56 ≤ 140737488355328 := by omega
        go_wp2_with (at_builtin; refine wpList_append_own_at _ rfl (.tmp 27) (.tmp 32) 28 rfl (B + 1) 34 i0 _ 6 56 Tryz.underlying28 hi0 hz0 hz1 hz3 rfl (by omega) _ _ _ rfl (hro.out.alloc _) ⟨wr.heap.size, 0, none⟩ 1 1 (scC y) rfl rfl (World.news_of_block (cs := #[.int .i64 y.h, .int .i64 y.a, .int .i64 y.k, .string y.p, .int .i64 y.g, .int .i64 y.d]) (t := 34) (fr := (0, 0)) (heap_alloc_new wr _)) (one_sc y) hmx hmb (by rw [World.size_alloc]; omega) ?_; intro v' w6 hown hgr hnil hob; obtain ⟨G3, c3', rfl, hr6⟩ := RowC.of (l := F ++ [y]) (by rw [List.flatMap_append, List.flatMap_singleton]; exact hown) (by simp) (fun e => by have := (hnil.1 e).1; cases this))
        have hba := (Below.refl wr.heap.size wr).alloc (Nat.le_refl _) (.cells #[.int .i64 y.h, .int .i64 y.a, .int .i64 y.k, .string y.p, .int .i64 y.g, .int .i64 y.d] 34)
        have HB6 := Lib.hid ((hbw.out.trans (hba.mono (by omega))).grown hgr (by rw [World.size_alloc]; omega) (fun q e => by cases e; exact (show B ≤ G2 by omega)))
        have HV6 := Lib.hid (World.ownsRow.kept (OwnK.below hrv.out hba) hgr (.inr (fun e => by have e2 : G = G2 := Option.some.inj e; omega)))
        have hn6 : G3 ≠ G := by
          rcases hob with e | e
          · have e2 : G3 = G2 := Option.some.inj e
            omega
          · have e2 : G3 = (wr.alloc (.cells #[.int .i64 y.h, .int .i64 y.a, .int .i64 y.k, .string y.p, .int .i64 y.g, .int .i64 y.d] 34)).heap.size := Option.some.inj e
            rw [World.size_alloc] at e2
            omega
        have HR6 := Lib.hid hr6
        clear hown hgr hnil hob hr6 hba c0 c1 c2' c3 c4 c5
        go_roundw
        case rel => exact ⟨k + 1, G3, c3', by go_num, by omega, by rw [HV2.out, List.length_append]; rfl, Lib.hid (by rw [HV2.out]; exact HR6.out), HV6, HB6, hn6⟩
        case measure => simp [intOf]; omega
      · have hqb : (y.h == th) = false := by simpa using hq
        have HV2 := Lib.hid (HN.out hqb)
        clear HY HN hq
        go_wp2
        go_roundw
        case rel => exact ⟨k + 1, G2, c2, by go_num, by omega, by rw [HV2.out], Lib.hid (by rw [HV2.out]; exact hro.out), hrv, hbw, hne⟩
        case measure => simp [intOf]; omega
    · obtain rfl : k = V.length := by omega
      have HT2 := Lib.hid (show (V.take V.length).filter (fun y => y.h == th) = scOfB l zs x ls th from by rw [HV.out, List.take_length])
      rw [HT2.out] at hro ⊢
      go_wp2
      go_ret
      exact ⟨G2, c2, rfl, OwnK.mono hro.out (by omega), hbw.out⟩
theorem scof_specV (A : Option Addr) (ca : Nat) (l : List Lg) (D : Option Addr) (cd : Nat) (zs : List Int) (x : Int) (E : Option Addr) (ce : Nat) (ls : List Sc) (th : Int) (w : World) (hA : InK 6 lgC w A l) (hD : IntsIn w D zs) (hs : ∀ z ∈ l, z.f.size ≤ maxLen ∧ z.t.size ≤ maxLen) (hn : l.length ≤ 1048576) (hm : zs.length ≤ 1048576) (hE : InK 6 scC w E ls) (hk : ls.length ≤ 1048576) (_hc : ls.length ≤ ce) :
    Calls Tryz.prog 46 #[.agg #[.slice A l.length ca, .slice D zs.length cd, .int .i64 x], .slice E ls.length ce, .int .i64 th] w fun e w' => ∃ v, e = .returned v ∧ OwnKsc w' w.heap.size v (scOfB l zs x ls th) ∧ Below w.heap.size w w' :=
  (scof_spec A ca l D cd zs x E ce ls th w hA hD hs hn hm hE hk).mono fun _ _ ⟨_, _, he, hr, hb⟩ => ⟨_, he, hr, hb⟩
theorem scof_implV (A : Option Addr) (ca : Nat) (l : List Lg) (D : Option Addr) (cd : Nat) (zs : List Int) (x : Int) (E : Option Addr) (ce : Nat) (ls : List Sc) (th : Int) (w : World) (hA : InK 6 lgC w A l) (hD : IntsIn w D zs) (hs : ∀ z ∈ l, z.f.size ≤ maxLen ∧ z.t.size ≤ maxLen) (hn : l.length ≤ 1048576) (hm : zs.length ≤ 1048576) (hE : InK 6 scC w E ls) (hk : ls.length ≤ 1048576) (hce : ls.length ≤ ce) :
    Calls Tryz.prog 20 #[.agg #[.slice A l.length ca, .slice D zs.length cd, .int .i64 x], .slice E ls.length ce, .int .i64 th] w fun e w' => ∃ v, e = .returned v ∧ OwnKsc w' w.heap.size v (scOfB l zs x ls th) ∧ Below w.heap.size w w' :=
  (scof_impl A ca l D cd zs x E ce ls th w hA hD hs hn hm hE hk hce).mono fun _ _ ⟨_, _, he, hr, hb⟩ => ⟨_, he, hr, hb⟩
end Go.Proofs.YtamlbiagjipedaaGreat

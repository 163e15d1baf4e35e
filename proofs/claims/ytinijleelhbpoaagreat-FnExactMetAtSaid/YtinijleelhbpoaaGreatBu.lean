/- Several texts in one: ScOf ScCl ScCls. -/
import Derived.Test.YtinijleelhbpoaaGreatBt
import Derived.Test.YtinijleelhbpoaaGreatBs
import Derived.Maps.AppendAt
import Derived.Test.YtinijleelhbpoaaGreatBi
import Derived.Test.YtinijleelhbpoaaGreatBg
import Derived.Test.YtinijleelhbpoaaGreatBa
import Derived.BigQuiet
/- ScansOf, both texts. -/
namespace Go.Proofs.YtinijleelhbpoaaGreat
open Go.RowKit
/-- the scans of one thing -/
def scOfB (l : List Lg) (zs : List Int) (x : Int) (ls : List Sc) (th : Int) : List Sc := (sortV l zs x ls).filter fun y => y.h == th
theorem scOf_len {l : List Lg} {zs : List Int} {x : Int} {ls : List Sc} {th : Int} : (scOfB l zs x ls th).length ≤ ls.length := Nat.le_trans (List.length_filter_le _ _) sortV_len
theorem cell1 {W : World} {B : Nat} {T : TypeId} {v0 : Value} (h : W.heap[B]? = some (.cells #[v0] T (0, 0))) : W.cell? ⟨B, 0, none⟩ = some v0 := by simp [World.cell?, h]
/-- what the closure is given: the thing, in a box -/
def ThK (B : Nat) (th : Int) (W : World) : Prop := W.heap[B]? = some (.cells #[.int .i64 th] 3 (0, 0))
theorem th_says (B : Nat) (th : Int) (bs : List Sc) : SaysC 83 #[.pointer (some ⟨B, 0, none⟩)] (fun y => y.h != th) bs (ThK B th) := by
 intro W y _ hK
 have hB := (Array.getElem?_eq_some_iff.1 hK).1
 have t0 := cell1 hK
 clear hK
 show Calls _ _ #[.agg #[.int .i64 y.h, .int .i64 y.a, .int .i64 y.k, .string y.p, .int .i64 y.g, .int .i64 y.d], .pointer (some ⟨B, 0, none⟩)] _ _
 go_enter Tryz.func83, Tryz.ntmps83
 go_wp2
 go_ret
 exact ⟨rfl, (Below.refl _ _).alloc (Nat.le_refl _) _⟩
theorem th_filter (bs : List Sc) (th : Int) : (bs.filter fun y => !(y.h != th)) = bs.filter fun y => y.h == th := by
 congr 1
 funext y
 simp [bne]
set_option maxRecDepth 100000 in
set_option maxHeartbeats 400000 in
theorem scof_impl (A : Option Addr) (ca : Nat) (l : List Lg) (D : Option Addr) (cd : Nat) (zs : List Int) (x : Int) (E : Option Addr) (ce : Nat) (ls : List Sc) (th : Int) (w : World) (hA : InK 6 lgC w A l) (hD : IntsIn w D zs) (hs : ∀ z ∈ l, z.f.size ≤ maxLen ∧ z.t.size ≤ maxLen) (hn : l.length ≤ 1048576) (hm : zs.length ≤ 1048576) (hE : InK 6 scC w E ls) (hk : ls.length ≤ 1048576) (hce : ls.length ≤ ce) :
  Calls Tryz.prog 21 #[.agg #[.slice A l.length ca, .slice D zs.length cd, .int .i64 x], .slice E ls.length ce, .int .i64 th] w fun e w' => ∃ G c, e = .returned (.slice (some ⟨G, 0, none⟩) (scOfB l zs x ls th).length c) ∧ RowC w' w.heap.size G c (scOfB l zs x ls th) ∧ Below w.heap.size w w' := by
 have HA := Lib.hid hA; have HD := Lib.hid hD; have HE := Lib.hid hE; clear hA hD hE
 have HSI := Lib.hid (fun W h1 h2 h3 => sort_impl A ca l D cd zs x E ce ls W h1 h2 hs hn hm h3 hk hce)
 clear hs
 have H2 := two w (.cells #[.slice A l.length ca, .slice D zs.length cd, .int .i64 x] 27) (.cells #[.int .i64 th] 3)
 have HT := Lib.hid H2.2.1; have HB2 := Lib.hid H2.2.2.1; have hz2 := H2.2.2.2
 clear H2
 have HV := Lib.hid (show scOfB l zs x ls th = _ from (th_filter (sortV l zs x ls) th).symm)
 have hvl := sortV_len (l := l) (zs := zs) (x := x) (ls := ls)
 have eg : ∀ args w, (callFunc 83 args).run Tryz.prog w = .ok (.enter 83 args) w := enters_of Tryz.func83 (by kernel_rfl) rfl
 generalize hB : w.heap.size = B at *
 have HBE := Lib.hid hB
 go_enter Tryz.func21, Tryz.ntmps21
 go_wp2_with fail
 clear hB
 generalize (w.alloc (.cells #[.slice A l.length ca, .slice D zs.length cd, .int .i64 x] 27)).alloc (.cells #[.int .i64 th] 3) = W2 at *
 have hb2 : Below w.heap.size w W2 := by rw [HBE.out]; exact HB2.out
 refine (HSI.out W2 (HA.out.below hb2) (HD.out.below hb2) (HE.out.below hb2)).mono ?_; rintro e w1 ⟨G, c, rfl, hr, hb⟩
 clear hb2 HSI HA HD HE
 generalize sortV l zs x ls = V at *
 have hG := (RowC.low hr).1
 have hK1 : ThK (B + 1) th w1 := (hb.block (B + 1) (by omega)).trans HT.out
 have hKK : ∀ W W', ThK (B + 1) th W → W.grownBy W' (some G) → ThK (B + 1) th W' := fun W W' h hg => (hg.block (B + 1) (Array.getElem?_eq_some_iff.1 h).1 (fun e => by have := Option.some.inj e; omega)).trans h
 have HDL := Lib.hid (del_sc (fun y => y.h != th) 83 #[.pointer (some ⟨B + 1, 0, none⟩)] W2.heap.size G c (ThK (B + 1) th) hKK eg V w1 hr (by omega) (th_says (B + 1) th V) hK1)
 have HB1 := Lib.hid (HB2.out.trans (hb.mono (by omega)))
 have hs1 := hb.size
 clear hr hb hK1 hKK eg
 go_wp2_with fail
 refine HDL.out.mono ?_; rintro e w3 ⟨rfl, hr3, hg3⟩
 rw [← HV.out] at hr3 ⊢
 have HR3 := Lib.hid (OwnK.mono hr3 (show B ≤ W2.heap.size by omega))
 have HB3 := Lib.hid (HB1.out.grown hg3 (by omega) (fun q e => by cases e; exact (show B ≤ G by omega)))
 clear hr3 hg3 HDL
 go_wp2
 go_ret
 exact ⟨G, c, rfl, HR3.out, HB3.out⟩
set_option maxRecDepth 100000 in
set_option maxHeartbeats 400000 in
theorem scof_spec (A : Option Addr) (ca : Nat) (l : List Lg) (D : Option Addr) (cd : Nat) (zs : List Int) (x : Int) (E : Option Addr) (ce : Nat) (ls : List Sc) (th : Int) (w : World) (hA : InK 6 lgC w A l) (hD : IntsIn w D zs) (hs : ∀ z ∈ l, z.f.size ≤ maxLen ∧ z.t.size ≤ maxLen) (hn : l.length ≤ 1048576) (hm : zs.length ≤ 1048576) (hE : InK 6 scC w E ls) (hk : ls.length ≤ 1048576) :
  Calls Tryz.prog 85 #[.agg #[.slice A l.length ca, .slice D zs.length cd, .int .i64 x], .slice E ls.length ce, .int .i64 th] w fun e w' => ∃ G c, e = .returned (.slice (some ⟨G, 0, none⟩) (scOfB l zs x ls th).length c) ∧ RowC w' w.heap.size G c (scOfB l zs x ls th) ∧ Below w.heap.size w w' := by
 have HA := Lib.hid hA; have HD := Lib.hid hD; have HE := Lib.hid hE; clear hA hD hE
 have HSI := Lib.hid (fun W h1 h2 h3 => sort_spec A ca l D cd zs x E ce ls W h1 h2 hs hn hm h3 hk)
 clear hs
 have H2 := two w (.cells #[.slice A l.length ca, .slice D zs.length cd, .int .i64 x] 27) (.cells #[] 34)
 have HT := Lib.hid H2.2.1; have HB2 := Lib.hid H2.2.2.1; have hz2 := H2.2.2.2
 clear H2
 obtain ⟨i0, hi0, hz0, hz1, hz3⟩ := info_parts sc_info
 have HV := Lib.hid (show scOfB l zs x ls th = (sortV l zs x ls).filter fun y => y.h == th from rfl)
 have hvl := sortV_len (l := l) (zs := zs) (x := x) (ls := ls)
 generalize hB : w.heap.size = B at *
 have HBE := Lib.hid hB
 go_enter Tryz.func85, Tryz.ntmps85
 go_wp2_with fail
 clear hB
 generalize (w.alloc (.cells #[.slice A l.length ca, .slice D zs.length cd, .int .i64 x] 27)).alloc (.cells #[] 34) = W2 at *
 have hb2 : Below w.heap.size w W2 := by rw [HBE.out]; exact HB2.out
 refine (HSI.out W2 (HA.out.below hb2) (HD.out.below hb2) (HE.out.below hb2)).mono ?_; rintro e w1 ⟨G, c, rfl, hr, hb⟩
 clear hb2 HSI HA HD HE
 generalize sortV l zs x ls = V at *
 have hG := RowC.low hr
 have hR0 : RowC w1 (B + 1) (B + 1) 0 ((V.take 0).filter fun y => y.h == th) := own_nilS (Nat.le_refl _) ((hb.block (B + 1) (by omega)).trans HT.out)
 have hlt1 : B + 1 < w1.heap.size := by have := hb.size; omega
 have HRV := Lib.hid hr; have HR0 := Lib.hid hR0
 have HB1 := Lib.hid (HB2.out.trans (hb.mono (by omega)))
 clear hr hb hR0
 go_wp2
 go_loopw [9, 7] (fun i v wr => ∃ k G2 c2 : Nat, i = .int .i64 k ∧ k ≤ V.length ∧ v = .slice (some ⟨G2, 0, none⟩) ((V.take k).filter fun y => y.h == th).length c2 ∧ Hid (RowC wr (B + 1) G2 c2 ((V.take k).filter fun y => y.h == th)) ∧ Hid (RowC wr W2.heap.size G c V) ∧ Hid (Below B w wr) ∧ G2 ≠ G) (fun i _ _ => V.length - (intOf i).toNat)
 case atStart => exact ⟨0, B + 1, 0, rfl, by omega, rfl, HR0, HRV, HB1, by omega⟩
 case round =>
  clear HR0 HRV HB1
  obtain ⟨k, G2, c2, rfl, hkm, rfl, hro, hrv, hbw, hne⟩ := hrel
  have hl2 := RowC.low hro.out; have hlG := RowC.low hrv.out
  by_cases hlt : (k : Int) < (V.length : Int)
  ·have hkl : k < V.length := by omega
   obtain ⟨g0, e0, hg0, c0, c1, c2', c3, c4, c5⟩ := (ins_row hrv.out scC_len rfl).sc k hkl
   cases e0
   have HY := Lib.hid (filtS_yes (q := fun y => y.h == th) hkl)
   have HN := Lib.hid (filtS_no (q := fun y => y.h == th) hkl)
   have hfl : ((V.take k).filter fun y => y.h == th).length ≤ k := Nat.le_trans (List.length_filter_le _ _) (by rw [List.length_take]; omega)
   generalize V[k] = y at c0 c1 c2' c3 c4 c5 HY HN
   generalize (V.take k).filter (fun y => y.h == th) = F at *
   by_cases hq : y.h = th
   ·have hqb : (y.h == th) = true := by simpa using hq
    have HV2 := Lib.hid (HY.out hqb)
    clear HY HN hq
    have hmx : F.length + 1 ≤ maxLen := by unfold maxLen; omega
    have hmb : (F.length + 1) * 56 ≤ 140737488355328 := by omega
    go_wp2_with (at_builtin; refine wpList_append_own_at _ rfl (.tmp 27) (.tmp 32) 28 rfl (B + 1) 34 i0 _ 6 56 Tryz.underlying28 hi0 hz0 hz1 hz3 rfl (by omega) _ _ _ rfl (hro.out.alloc _) ⟨wr.heap.size, 0, none⟩ 1 1 (scC y) rfl rfl (World.news_of_block (cs := #[.int .i64 y.h, .int .i64 y.a, .int .i64 y.k, .string y.p, .int .i64 y.g, .int .i64 y.d]) (t := 34) (fr := (0, 0)) (heap_alloc_new wr _)) (one_sc y) hmx hmb (by rw [World.size_alloc]; omega) ?_; intro v' w6 hown hgr hnil hob; obtain ⟨G3, c3', rfl, hr6⟩ := RowC.of (l := F ++ [y]) (by rw [List.flatMap_append, List.flatMap_singleton]; exact hown) (by simp) (fun e => by have := (hnil.1 e).1; cases this))
    have hba := (Below.refl wr.heap.size wr).alloc (Nat.le_refl _) (.cells #[.int .i64 y.h, .int .i64 y.a, .int .i64 y.k, .string y.p, .int .i64 y.g, .int .i64 y.d] 34)
    have HB6 := Lib.hid ((hbw.out.trans (hba.mono (by omega))).grown hgr (by rw [World.size_alloc]; omega) (fun q e => by cases e; exact (show B ≤ G2 by omega)))
    have HV6 := Lib.hid (World.ownsRow.kept (OwnK.below hrv.out hba) hgr (.inr (fun e => by have e2 : G = G2 := Option.some.inj e; omega)))
    have hn6 : G3 ≠ G := by
     rcases hob with e | e
     ·have e2 : G3 = G2 := Option.some.inj e
      omega
     ·have e2 : G3 = (wr.alloc (.cells #[.int .i64 y.h, .int .i64 y.a, .int .i64 y.k, .string y.p, .int .i64 y.g, .int .i64 y.d] 34)).heap.size := Option.some.inj e
      rw [World.size_alloc] at e2
      omega
    have HR6 := Lib.hid hr6
    clear hown hgr hnil hob hr6 hba c0 c1 c2' c3 c4 c5
    go_roundw
    case rel => exact ⟨k + 1, G3, c3', by go_num, by omega, by rw [HV2.out, List.length_append]; rfl, Lib.hid (by rw [HV2.out]; exact HR6.out), HV6, HB6, hn6⟩
    case measure => simp [intOf]; omega
   ·have hqb : (y.h == th) = false := by simpa using hq
    have HV2 := Lib.hid (HN.out hqb)
    clear HY HN hq
    go_wp2
    go_roundw
    case rel => exact ⟨k + 1, G2, c2, by go_num, by omega, by rw [HV2.out], Lib.hid (by rw [HV2.out]; exact hro.out), hrv, hbw, hne⟩
    case measure => simp [intOf]; omega
  ·obtain rfl : k = V.length := by omega
   have HT2 := Lib.hid (show (V.take V.length).filter (fun y => y.h == th) = scOfB l zs x ls th from by rw [HV.out, List.take_length])
   rw [HT2.out] at hro ⊢
   go_wp2
   go_ret
   exact ⟨G2, c2, rfl, OwnK.mono hro.out (by omega), hbw.out⟩
theorem scof_specV (A : Option Addr) (ca : Nat) (l : List Lg) (D : Option Addr) (cd : Nat) (zs : List Int) (x : Int) (E : Option Addr) (ce : Nat) (ls : List Sc) (th : Int) (w : World) (hA : InK 6 lgC w A l) (hD : IntsIn w D zs) (hs : ∀ z ∈ l, z.f.size ≤ maxLen ∧ z.t.size ≤ maxLen) (hn : l.length ≤ 1048576) (hm : zs.length ≤ 1048576) (hE : InK 6 scC w E ls) (hk : ls.length ≤ 1048576) (_hc : ls.length ≤ ce) :
  Calls Tryz.prog 85 #[.agg #[.slice A l.length ca, .slice D zs.length cd, .int .i64 x], .slice E ls.length ce, .int .i64 th] w fun e w' => ∃ v, e = .returned v ∧ OwnKsc w' w.heap.size v (scOfB l zs x ls th) ∧ Below w.heap.size w w' :=
 (scof_spec A ca l D cd zs x E ce ls th w hA hD hs hn hm hE hk).mono fun _ _ ⟨_, _, he, hr, hb⟩ => ⟨_, he, hr, hb⟩
theorem scof_implV (A : Option Addr) (ca : Nat) (l : List Lg) (D : Option Addr) (cd : Nat) (zs : List Int) (x : Int) (E : Option Addr) (ce : Nat) (ls : List Sc) (th : Int) (w : World) (hA : InK 6 lgC w A l) (hD : IntsIn w D zs) (hs : ∀ z ∈ l, z.f.size ≤ maxLen ∧ z.t.size ≤ maxLen) (hn : l.length ≤ 1048576) (hm : zs.length ≤ 1048576) (hE : InK 6 scC w E ls) (hk : ls.length ≤ 1048576) (hce : ls.length ≤ ce) :
  Calls Tryz.prog 21 #[.agg #[.slice A l.length ca, .slice D zs.length cd, .int .i64 x], .slice E ls.length ce, .int .i64 th] w fun e w' => ∃ v, e = .returned v ∧ OwnKsc w' w.heap.size v (scOfB l zs x ls th) ∧ Below w.heap.size w w' :=
 (scof_impl A ca l D cd zs x E ce ls th w hA hD hs hn hm hE hk hce).mono fun _ _ ⟨_, _, he, hr, hb⟩ => ⟨_, he, hr, hb⟩
end Go.Proofs.YtinijleelhbpoaaGreat

/- Cleaned, both texts. -/
namespace Go.Proofs.YtinijleelhbpoaaGreat
open Go.RowKit
theorem scOf_mem {l : List Lg} {zs : List Int} {x : Int} {ls : List Sc} {th : Int} {y : Sc} (h : y ∈ scOfB l zs x ls th) : scB l zs x y = true ∧ y.h = th ∧ y ∈ ls := by
 obtain ⟨h1, h2⟩ := List.mem_filter.1 h
 have h3 := ((ded_sort (validB l zs x ls)).2 y).1 h1
 obtain ⟨h4, h5⟩ := List.mem_filter.1 h3
 exact ⟨h5, by simpa using h2, List.mem_of_mem_take h4⟩
theorem scOf_up {l : List Lg} {zs : List Int} {x : Int} {ls : List Sc} {th : Int} : UpSc (scOfB l zs x ls th) := (ded_sort (validB l zs x ls)).1.sublist List.filter_sublist
/-- a scan put behind those that stay, if it can -/
def addC (l : List Lg) (zs : List Int) (x : Int) (out : List Sc) (y : Sc) : List Sc :=
 match out.getLast? with
 | none => out ++ [y]
 | some a => if canB l zs x a y then out ++ [y] else out
def clU (l : List Lg) (zs : List Int) (x : Int) (V : List Sc) (k : Nat) : List Sc := (V.take k).foldl (addC l zs x) []
def clB (l : List Lg) (zs : List Int) (x : Int) (ls : List Sc) (th : Int) : List Sc := clU l zs x (scOfB l zs x ls th) (scOfB l zs x ls th).length
theorem clU_succ {l : List Lg} {zs : List Int} {x : Int} {V : List Sc} {k : Nat} (h : k < V.length) : clU l zs x V (k + 1) = addC l zs x (clU l zs x V k) V[k] := by
 unfold clU
 rw [List.take_succ_eq_append_getElem h, List.foldl_append]
 rfl
theorem addC_nil {l : List Lg} {zs : List Int} {x : Int} {out : List Sc} {y : Sc} (h : out.length = 0) : addC l zs x out y = out ++ [y] := by
 have e : out = [] := List.eq_nil_of_length_eq_zero h
 subst e; rfl
theorem addC_yes {l : List Lg} {zs : List Int} {x : Int} {out : List Sc} {y : Sc} {n : Nat} (hn : n < out.length) (e : n + 1 = out.length) (h : canB l zs x out[n] y = true) : addC l zs x out y = out ++ [y] := by
 unfold addC
 have h1 : out.getLast? = some out[n] := by rw [List.getLast?_eq_getElem?, List.getElem?_eq_getElem (by omega)]; congr 2; omega
 rw [h1]
 exact if_pos h
theorem addC_no {l : List Lg} {zs : List Int} {x : Int} {out : List Sc} {y : Sc} {n : Nat} (hn : n < out.length) (e : n + 1 = out.length) (h : canB l zs x out[n] y = false) : addC l zs x out y = out := by
 unfold addC
 have h1 : out.getLast? = some out[n] := by rw [List.getLast?_eq_getElem?, List.getElem?_eq_getElem (by omega)]; congr 2; omega
 rw [h1]
 exact if_neg (by rw [h]; decide)
theorem addC_mem {l : List Lg} {zs : List Int} {x : Int} {out : List Sc} {y z : Sc} (h : z ∈ addC l zs x out y) : z ∈ out ∨ z = y := by
 unfold addC at h
 split at h
 ·simpa using h
 ·split at h
  ·simpa using h
  ·exact .inl h
theorem clU_mem {l : List Lg} {zs : List Int} {x : Int} {V : List Sc} : ∀ (k : Nat), k ≤ V.length → ∀ z ∈ clU l zs x V k, ∃ j, ∃ h : j < V.length, j < k ∧ V[j] = z
 | 0, _, z, hz => absurd hz (by simp [clU])
 | k + 1, hk, z, hz => by
  rw [clU_succ (by omega)] at hz
  rcases addC_mem hz with h | h
  ·obtain ⟨j, hj, hjk, e⟩ := clU_mem k (by omega) z h
   exact ⟨j, hj, by omega, e⟩
  ·exact ⟨k, by omega, by omega, h.symm⟩
theorem clU_len {l : List Lg} {zs : List Int} {x : Int} {V : List Sc} : ∀ (k : Nat), k ≤ V.length → (clU l zs x V k).length ≤ k
 | 0, _ => by simp [clU]
 | k + 1, hk => by
  rw [clU_succ (by omega)]
  have := clU_len (l := l) (zs := zs) (x := x) (V := V) k (by omega)
  unfold addC
  split
  ·simp; omega
  ·split
   ·simp; omega
   ·omega
theorem clB_len {l : List Lg} {zs : List Int} {x : Int} {ls : List Sc} {th : Int} : (clB l zs x ls th).length ≤ ls.length := Nat.le_trans (clU_len _ (Nat.le_refl _)) scOf_len
/-- behind one that stays: what can follow, follows -/
theorem can_fol {l : List Lg} {zs : List Int} {x : Int} {ls : List Sc} {th : Int} {k : Nat} (hk : k < (scOfB l zs x ls th).length) {a : Sc} (ha : a ∈ clU l zs x (scOfB l zs x ls th) k) : canB l zs x a (scOfB l zs x ls th)[k] = folB l zs x a (scOfB l zs x ls th)[k] := by
 obtain ⟨j, hj, hjk, rfl⟩ := clU_mem k (by omega) a ha
 have m1 := scOf_mem (List.getElem_mem hj)
 have m2 := scOf_mem (List.getElem_mem hk)
 exact can_f m1.1 m2.1 (m1.2.1.trans m2.2.1.symm) (List.pairwise_iff_getElem.1 scOf_up j k hj hk hjk)
set_option maxRecDepth 100000 in
set_option maxHeartbeats 8000000 in
theorem cl_impl (A : Option Addr) (ca : Nat) (l : List Lg) (D : Option Addr) (cd : Nat) (zs : List Int) (x : Int) (E : Option Addr) (ce : Nat) (ls : List Sc) (th : Int) (w : World) (hA : InK 6 lgC w A l) (hD : IntsIn w D zs) (hs : ∀ z ∈ l, z.f.size ≤ maxLen ∧ z.t.size ≤ maxLen) (hn : l.length ≤ 1048576) (hm : zs.length ≤ 1048576) (hE : InK 6 scC w E ls) (hk : ls.length ≤ 1048576) (hce : ls.length ≤ ce) (hp : ∀ z ∈ ls, z.p.size ≤ maxLen) :
  Calls Tryz.prog 25 #[.agg #[.slice A l.length ca, .slice D zs.length cd, .int .i64 x], .slice E ls.length ce, .int .i64 th] w fun e w' => ∃ v, e = .returned v ∧ OwnKsc w' w.heap.size v (clB l zs x ls th) ∧ Below w.heap.size w w' := by
 have HSI := Lib.hid (fun W h1 h2 h3 => scof_impl A ca l D cd zs x E ce ls th W h1 h2 hs hn hm h3 hk hce)
 have HF := Lib.hid (fun (a y : Sc) W (h1 : InK 6 lgC W A l) (h2 : IntsIn W D zs) (h3 : a.p.size ≤ maxLen) => fol_impl a.h a.a a.k a.p a.g a.d y.h y.a y.k y.p y.g y.d A ca l D cd zs x W h1 h2 hs hn hm h3)
 have HA := Lib.hid hA; have HD := Lib.hid hD; have HE := Lib.hid hE; clear hA hD hE hs
 obtain ⟨i0, hi0, hz0, hz1, hz3⟩ := info_parts sc_info
 have H2 := two w (.cells #[.slice A l.length ca, .slice D zs.length cd, .int .i64 x] 27) (.cells #[] 34)
 have hN0 : Box3 27 ((w.alloc (.cells #[.slice A l.length ca, .slice D zs.length cd, .int .i64 x] 27)).alloc (.cells #[] 34)) w.heap.size (.slice A l.length ca) (.slice D zs.length cd) (.int .i64 x) := H2.1
 have HT := Lib.hid H2.2.1; have HB2 := Lib.hid H2.2.2.1; have hz2 := H2.2.2.2
 clear H2
 have HCF := Lib.hid (fun k hk a ha => can_fol (l := l) (zs := zs) (x := x) (ls := ls) (th := th) (k := k) hk (a := a) ha)
 have HVM := Lib.hid (fun y hy => (scOf_mem (l := l) (zs := zs) (x := x) (ls := ls) (th := th) (y := y) hy).2.2)
 have hvl := scOf_len (l := l) (zs := zs) (x := x) (ls := ls) (th := th)
 have HCB := Lib.hid (show clB l zs x ls th = clU l zs x (scOfB l zs x ls th) (scOfB l zs x ls th).length from rfl)
 generalize hB : w.heap.size = B at *
 have HBE := Lib.hid hB
 go_enter Tryz.func25, Tryz.ntmps25
 go_wp2_with fail
 clear hB
 generalize (w.alloc (.cells #[.slice A l.length ca, .slice D zs.length cd, .int .i64 x] 27)).alloc (.cells #[] 34) = W2 at *
 have hb2 : Below w.heap.size w W2 := by rw [HBE.out]; exact HB2.out
 refine (HSI.out W2 (HA.out.below hb2) (HD.out.below hb2) (HE.out.below hb2)).mono ?_; rintro e w1 ⟨G, c, rfl, hr, hb⟩
 clear hb2 HSI HE
 generalize scOfB l zs x ls th = V at *
 have hG := RowC.low hr
 have hR0 : RowC w1 (B + 1) (B + 1) 0 (clU l zs x V 0) := own_nilS (Nat.le_refl _) ((hb.block (B + 1) (by omega)).trans HT.out)
 have hlt1 : B + 1 < w1.heap.size := by have := hb.size; omega
 have HRV := Lib.hid hr; have HR0 := Lib.hid hR0
 have HB1 := Lib.hid (HB2.out.trans (hb.mono (by omega)))
 have HN1 := Lib.hid (hN0.below hb)
 clear hr hb hR0 hN0
 go_wp2
 go_loopw [16, 7] (fun i v wr => ∃ k G2 c2 : Nat, i = .int .i64 k ∧ k ≤ V.length ∧ v = .slice (some ⟨G2, 0, none⟩) (clU l zs x V k).length c2 ∧ Hid (RowC wr (B + 1) G2 c2 (clU l zs x V k)) ∧ Hid (RowC wr W2.heap.size G c V) ∧ Hid (Below B w wr) ∧ Hid (Box3 27 wr B (.slice A l.length ca) (.slice D zs.length cd) (.int .i64 x)) ∧ G2 ≠ G) (fun i _ _ => V.length - (intOf i).toNat)
 case atStart => exact ⟨0, B + 1, 0, rfl, by omega, rfl, HR0, HRV, HB1, HN1, by omega⟩
 case round =>
  clear HR0 HRV HB1 HN1
  obtain ⟨k, G2, c2, rfl, hkm, rfl, hro, hrv, hbw, hnw, hne⟩ := hrel
  have hl2 := RowC.low hro.out; have hlG := RowC.low hrv.out
  by_cases hlt : (k : Int) < (V.length : Int)
  ·have hkl : k < V.length := by omega
   have hb' : Below w.heap.size w wr := by rw [HBE.out]; exact hbw.out
   have HAr := Lib.hid (HA.out.below hb'); have HDr := Lib.hid (HD.out.below hb')
   obtain ⟨g0, e0, hg0, s0, s1, s2, s3, s4, s5⟩ := (ins_row hrv.out scC_len rfl).sc k hkl
   cases e0
   clear hb'
   have HK := Lib.hid (clU_succ (l := l) (zs := zs) (x := x) hkl)
   have hfl := clU_len (l := l) (zs := zs) (x := x) (V := V) k (by omega)
   have HCk := Lib.hid (fun a ha => HCF.out k hkl a ha)
   have HPk := Lib.hid (fun a (ha : a ∈ clU l zs x V k) => show a.p.size ≤ maxLen by
    obtain ⟨j, hj, _, rfl⟩ := clU_mem k (by omega) a ha
    exact hp _ (HVM.out _ (List.getElem_mem hj)))
   generalize V[k] = y at s0 s1 s2 s3 s4 s5 HK HCk
   generalize clU l zs x V k = F at *
   go_wp2_with fail
   have hba := (Below.refl wr.heap.size wr).alloc (Nat.le_refl _) (.cells #[.int .i64 y.h, .int .i64 y.a, .int .i64 y.k, .string y.p, .int .i64 y.g, .int .i64 y.d] 34)
   have FY := Lib.hid (BoxS.new (T := 34) (v0 := .int .i64 y.h) (v1 := .int .i64 y.a) (v2 := .int .i64 y.k) (v3 := .string y.p) (v4 := .int .i64 y.g) (v5 := .int .i64 y.d) wr)
   have HRO := Lib.hid (OwnK.below hro.out hba); have HRV := Lib.hid (OwnK.below hrv.out hba)
   have HBW := Lib.hid (hbw.out.trans (hba.mono (by omega))); have HNW := Lib.hid (hnw.out.below hba)
   have HAw := Lib.hid (HAr.out.below hba); have HDw := Lib.hid (HDr.out.below hba)
   have hsw := hba.size
   clear hba s0 s1 s2 s3 s4 s5 HAr HDr hro hrv hbw hnw
   generalize wr.alloc (.cells #[.int .i64 y.h, .int .i64 y.a, .int .i64 y.k, .string y.p, .int .i64 y.g, .int .i64 y.d] 34) = ww at *
   generalize wr.heap.size = Y at *
   obtain ⟨s0, s1, s2, s3, s4, s5⟩ := FY.out.cells
   have hYl := FY.out.lt
   obtain ⟨n0, n1, n2⟩ := HNW.out.cells
   have hBl := HNW.out.lt
   have q0 := far_cell hBl n0; have q1 := far_cell hBl n1; have q2 := far_cell hBl n2
   clear n0 n1 n2
   have f0 := far_cell hYl s0; have f1 := far_cell hYl s1; have f2 := far_cell hYl s2; have f3 := far_cell hYl s3; have f4 := far_cell hYl s4; have f5 := far_cell hYl s5
   by_cases hF0 : F.length = 0
   ·have hFb : ((F.length : Int) == 0) = true := by rw [beq_iff_eq]; omega
    have HK1 := Lib.hid (HK.out.trans (addC_nil hF0))
    clear hF0
    refine wp_region_far (by kernel_rfl) (by kernel_rfl) ?_
    repeat (any_goals (first | go_big_quiet_step (fail) | quiet_step (fail)))
    refine wpQuiet_nil ?_; intro w3 hw3
    have hb3 : Below ww.heap.size ww w3 := by obtain ⟨u, rfl⟩ := hw3; exact below_far ww u
    clear f0 f1 f2 f3 f4 f5 q0 q1 q2
    clear hw3
    have y0 : w3.cell? ⟨Y, 0, none⟩ = some (.int .i64 y.h) := (hb3.cell (p := ⟨Y, 0, none⟩) hYl).trans s0
    have y1 : w3.cell? ⟨Y, 1, none⟩ = some (.int .i64 y.a) := (hb3.cell (p := ⟨Y, 1, none⟩) hYl).trans s1
    have y2 : w3.cell? ⟨Y, 2, none⟩ = some (.int .i64 y.k) := (hb3.cell (p := ⟨Y, 2, none⟩) hYl).trans s2
    have y3 : w3.cell? ⟨Y, 3, none⟩ = some (.string y.p) := (hb3.cell (p := ⟨Y, 3, none⟩) hYl).trans s3
    have y4 : w3.cell? ⟨Y, 4, none⟩ = some (.int .i64 y.g) := (hb3.cell (p := ⟨Y, 4, none⟩) hYl).trans s4
    have y5 : w3.cell? ⟨Y, 5, none⟩ = some (.int .i64 y.d) := (hb3.cell (p := ⟨Y, 5, none⟩) hYl).trans s5
    have HRO3 := Lib.hid (OwnK.below HRO.out hb3)
    have HRV3 := Lib.hid (OwnK.below HRV.out hb3)
    have HB3 := Lib.hid (HBW.out.trans (hb3.mono (by omega)))
    have HN3 := Lib.hid (HNW.out.below hb3)
    have hs3 := hb3.size
    clear hb3 s0 s1 s2 s3 s4 s5 HRO HRV HBW HNW
    have hmx : F.length + 1 ≤ maxLen := by unfold maxLen; omega
    have hmb : (F.length + 1) * 56 ≤ 140737488355328 := by omega
    go_wp2_with (at_builtin; refine wpList_append_own_at _ rfl (.tmp 34) (.tmp 36) 28 rfl (B + 1) 34 i0 _ 6 56 Tryz.underlying28 hi0 hz0 hz1 hz3 rfl (by omega) _ _ _ rfl (HRO3.out.alloc _) ⟨w3.heap.size, 0, none⟩ 1 1 (scC y) rfl rfl (World.news_of_block (cs := #[.int .i64 y.h, .int .i64 y.a, .int .i64 y.k, .string y.p, .int .i64 y.g, .int .i64 y.d]) (t := 34) (fr := (0, 0)) (heap_alloc_new w3 _)) (one_sc y) hmx hmb (by rw [World.size_alloc]; omega) ?_; intro v' w6 hown hgr hnil hob; obtain ⟨G3, c3', rfl, hr6⟩ := RowC.of (l := F ++ [y]) (by rw [List.flatMap_append, List.flatMap_singleton]; exact hown) (by simp) (fun e => by have := (hnil.1 e).1; cases this))
    have hba := (Below.refl w3.heap.size w3).alloc (Nat.le_refl _) (.cells #[.int .i64 y.h, .int .i64 y.a, .int .i64 y.k, .string y.p, .int .i64 y.g, .int .i64 y.d] 34)
    have HB6 := Lib.hid ((HB3.out.trans (hba.mono (by omega))).grown hgr (by rw [World.size_alloc]; omega) (fun q e => by cases e; exact (show B ≤ G2 by omega)))
    have HV6 := Lib.hid (World.ownsRow.kept (OwnK.below HRV3.out hba) hgr (.inr (fun e => by have e2 : G = G2 := Option.some.inj e; omega)))
    have HN6 := Lib.hid ((HN3.out.below hba).apart hgr (fun e => by have e2 : B = G2 := Option.some.inj e; omega))
    have hn6 : G3 ≠ G := by
     rcases hob with e | e
     ·have e2 : G3 = G2 := Option.some.inj e
      omega
     ·have e2 : G3 = (w3.alloc (.cells #[.int .i64 y.h, .int .i64 y.a, .int .i64 y.k, .string y.p, .int .i64 y.g, .int .i64 y.d] 34)).heap.size := Option.some.inj e
      rw [World.size_alloc] at e2
      omega
    have HR6 := Lib.hid hr6
    clear hown hgr hnil hob hr6 hba y0 y1 y2 y3 y4 y5
    go_roundw
    case rel => exact ⟨k + 1, G3, c3', by go_num, by omega, by rw [HK1.out, List.length_append]; rfl, Lib.hid (by rw [HK1.out]; exact HR6.out), HV6, HB6, HN6, hn6⟩
    case measure => simp [intOf]; omega
   ·have hFb : ((F.length : Int) == 0) = false := by rw [beq_eq_false_iff_ne]; omega
    obtain ⟨n, hn1⟩ : ∃ n, n + 1 = F.length := ⟨F.length - 1, by omega⟩
    have hnF : n < F.length := by omega
    have hni : (F.length : Int) - 1 = (n : Int) := by omega
    have hnl : (n : Int) < (F.length : Int) := by omega
    obtain ⟨gF, eF, hgF, d0, d1, d2, d3, d4, d5⟩ := (ins_row HRO.out scC_len rfl).sc n hnF
    cases eF
    have HKY := Lib.hid (fun q => HK.out.trans (addC_yes hnF hn1 q))
    have HKN := Lib.hid (fun q => HK.out.trans (addC_no hnF hn1 q))
    have HC1 := Lib.hid (HCk.out F[n] (List.getElem_mem hnF))
    have HP1 := Lib.hid (HPk.out F[n] (List.getElem_mem hnF))
    generalize F[n] = a at d0 d1 d2 d3 d4 d5 HKY HKN HC1 HP1
    have e0 := far_cell hgF d0; have e1 := far_cell hgF d1; have e2 := far_cell hgF d2; have e3 := far_cell hgF d3; have e4 := far_cell hgF d4; have e5 := far_cell hgF d5
    clear d0 d1 d2 d3 d4 d5 hF0
    have HFF := Lib.hid (fun u => HF.out a y (far ww u) (HAw.out.below (below_far ww u)) (HDw.out.below (below_far ww u)) HP1.out)
    simp only [show folB l zs x ⟨a.h, a.a, a.k, a.p, a.g, a.d⟩ ⟨y.h, y.a, y.k, y.p, y.g, y.d⟩ = folB l zs x a y from rfl, ← HC1.out] at HFF
    cases hq : canB l zs x a y with
    | true =>
     rw [hq] at HFF
     have HK1 := Lib.hid (HKY.out hq)
     clear HKY HKN HC1 hq
     refine wp_region_far (by kernel_rfl) (by kernel_rfl) ?_
     repeat (any_goals (first | go_big_quiet_step (((go_at_call 84; with_reducible exact call_far (HFF.out _)))) | quiet_step (((go_at_call 84; with_reducible exact call_far (HFF.out _))))))
     refine wpQuiet_nil ?_; intro w3 hw3
     have hb3 : Below ww.heap.size ww w3 := by obtain ⟨u, rfl⟩ := hw3; exact below_far ww u
     clear f0 f1 f2 f3 f4 f5 q0 q1 q2 e0 e1 e2 e3 e4 e5 HFF
     clear hw3
     have y0 : w3.cell? ⟨Y, 0, none⟩ = some (.int .i64 y.h) := (hb3.cell (p := ⟨Y, 0, none⟩) hYl).trans s0
     have y1 : w3.cell? ⟨Y, 1, none⟩ = some (.int .i64 y.a) := (hb3.cell (p := ⟨Y, 1, none⟩) hYl).trans s1
     have y2 : w3.cell? ⟨Y, 2, none⟩ = some (.int .i64 y.k) := (hb3.cell (p := ⟨Y, 2, none⟩) hYl).trans s2
     have y3 : w3.cell? ⟨Y, 3, none⟩ = some (.string y.p) := (hb3.cell (p := ⟨Y, 3, none⟩) hYl).trans s3
     have y4 : w3.cell? ⟨Y, 4, none⟩ = some (.int .i64 y.g) := (hb3.cell (p := ⟨Y, 4, none⟩) hYl).trans s4
     have y5 : w3.cell? ⟨Y, 5, none⟩ = some (.int .i64 y.d) := (hb3.cell (p := ⟨Y, 5, none⟩) hYl).trans s5
     have HRO3 := Lib.hid (OwnK.below HRO.out hb3)
     have HRV3 := Lib.hid (OwnK.below HRV.out hb3)
     have HB3 := Lib.hid (HBW.out.trans (hb3.mono (by omega)))
     have HN3 := Lib.hid (HNW.out.below hb3)
     have hs3 := hb3.size
     clear hb3 s0 s1 s2 s3 s4 s5 HRO HRV HBW HNW
     have hmx : F.length + 1 ≤ maxLen := by unfold maxLen; omega
     have hmb : (F.length + 1) * 56 ≤ 140737488355328 := by omega
     go_wp2_with (at_builtin; refine wpList_append_own_at _ rfl (.tmp 34) (.tmp 36) 28 rfl (B + 1) 34 i0 _ 6 56 Tryz.underlying28 hi0 hz0 hz1 hz3 rfl (by omega) _ _ _ rfl (HRO3.out.alloc _) ⟨w3.heap.size, 0, none⟩ 1 1 (scC y) rfl rfl (World.news_of_block (cs := #[.int .i64 y.h, .int .i64 y.a, .int .i64 y.k, .string y.p, .int .i64 y.g, .int .i64 y.d]) (t := 34) (fr := (0, 0)) (heap_alloc_new w3 _)) (one_sc y) hmx hmb (by rw [World.size_alloc]; omega) ?_; intro v' w6 hown hgr hnil hob; obtain ⟨G3, c3', rfl, hr6⟩ := RowC.of (l := F ++ [y]) (by rw [List.flatMap_append, List.flatMap_singleton]; exact hown) (by simp) (fun e => by have := (hnil.1 e).1; cases this))
     have hba := (Below.refl w3.heap.size w3).alloc (Nat.le_refl _) (.cells #[.int .i64 y.h, .int .i64 y.a, .int .i64 y.k, .string y.p, .int .i64 y.g, .int .i64 y.d] 34)
     have HB6 := Lib.hid ((HB3.out.trans (hba.mono (by omega))).grown hgr (by rw [World.size_alloc]; omega) (fun q e => by cases e; exact (show B ≤ G2 by omega)))
     have HV6 := Lib.hid (World.ownsRow.kept (OwnK.below HRV3.out hba) hgr (.inr (fun e => by have e2 : G = G2 := Option.some.inj e; omega)))
     have HN6 := Lib.hid ((HN3.out.below hba).apart hgr (fun e => by have e2 : B = G2 := Option.some.inj e; omega))
     have hn6 : G3 ≠ G := by
      rcases hob with e | e
      ·have e2 : G3 = G2 := Option.some.inj e
       omega
      ·have e2 : G3 = (w3.alloc (.cells #[.int .i64 y.h, .int .i64 y.a, .int .i64 y.k, .string y.p, .int .i64 y.g, .int .i64 y.d] 34)).heap.size := Option.some.inj e
       rw [World.size_alloc] at e2
       omega
     have HR6 := Lib.hid hr6
     clear hown hgr hnil hob hr6 hba y0 y1 y2 y3 y4 y5
     go_roundw
     case rel => exact ⟨k + 1, G3, c3', by go_num, by omega, by rw [HK1.out, List.length_append]; rfl, Lib.hid (by rw [HK1.out]; exact HR6.out), HV6, HB6, HN6, hn6⟩
     case measure => simp [intOf]; omega
    | false =>
     rw [hq] at HFF
     have HK1 := Lib.hid (HKN.out hq)
     clear HKY HKN HC1 hq
     refine wp_region_far (by kernel_rfl) (by kernel_rfl) ?_
     repeat (any_goals (first | go_big_quiet_step (((go_at_call 84; with_reducible exact call_far (HFF.out _)))) | quiet_step (((go_at_call 84; with_reducible exact call_far (HFF.out _))))))
     refine wpQuiet_nil ?_; intro w3 hw3
     have hb3 : Below ww.heap.size ww w3 := by obtain ⟨u, rfl⟩ := hw3; exact below_far ww u
     clear f0 f1 f2 f3 f4 f5 q0 q1 q2 e0 e1 e2 e3 e4 e5 HFF
     clear hw3
     have y0 : w3.cell? ⟨Y, 0, none⟩ = some (.int .i64 y.h) := (hb3.cell (p := ⟨Y, 0, none⟩) hYl).trans s0
     have y1 : w3.cell? ⟨Y, 1, none⟩ = some (.int .i64 y.a) := (hb3.cell (p := ⟨Y, 1, none⟩) hYl).trans s1
     have y2 : w3.cell? ⟨Y, 2, none⟩ = some (.int .i64 y.k) := (hb3.cell (p := ⟨Y, 2, none⟩) hYl).trans s2
     have y3 : w3.cell? ⟨Y, 3, none⟩ = some (.string y.p) := (hb3.cell (p := ⟨Y, 3, none⟩) hYl).trans s3
     have y4 : w3.cell? ⟨Y, 4, none⟩ = some (.int .i64 y.g) := (hb3.cell (p := ⟨Y, 4, none⟩) hYl).trans s4
     have y5 : w3.cell? ⟨Y, 5, none⟩ = some (.int .i64 y.d) := (hb3.cell (p := ⟨Y, 5, none⟩) hYl).trans s5
     have HRO3 := Lib.hid (OwnK.below HRO.out hb3)
     have HRV3 := Lib.hid (OwnK.below HRV.out hb3)
     have HB3 := Lib.hid (HBW.out.trans (hb3.mono (by omega)))
     have HN3 := Lib.hid (HNW.out.below hb3)
     have hs3 := hb3.size
     clear hb3 s0 s1 s2 s3 s4 s5 HRO HRV HBW HNW
     go_wp2
     go_roundw
     case rel => exact ⟨k + 1, G2, c2, by go_num, by omega, by rw [HK1.out], Lib.hid (by rw [HK1.out]; exact HRO3.out), HRV3, HB3, HN3, hne⟩
     case measure => simp [intOf]; omega
  ·obtain rfl : k = V.length := by omega
   have HCB2 := Lib.hid HCB.out.symm
   rw [HCB2.out] at hro ⊢
   go_wp2
   go_ret
   exact ⟨_, rfl, OwnK.mono hro.out (by omega), hbw.out⟩
set_option maxRecDepth 100000 in
set_option maxHeartbeats 8000000 in
theorem cl_spec (A : Option Addr) (ca : Nat) (l : List Lg) (D : Option Addr) (cd : Nat) (zs : List Int) (x : Int) (E : Option Addr) (ce : Nat) (ls : List Sc) (th : Int) (w : World) (hA : InK 6 lgC w A l) (hD : IntsIn w D zs) (hs : ∀ z ∈ l, z.f.size ≤ maxLen ∧ z.t.size ≤ maxLen) (hn : l.length ≤ 1048576) (hm : zs.length ≤ 1048576) (hE : InK 6 scC w E ls) (hk : ls.length ≤ 1048576) (_hc : ls.length ≤ ce) :
  Calls Tryz.prog 26 #[.agg #[.slice A l.length ca, .slice D zs.length cd, .int .i64 x], .slice E ls.length ce, .int .i64 th] w fun e w' => ∃ v, e = .returned v ∧ OwnKsc w' w.heap.size v (clB l zs x ls th) ∧ Below w.heap.size w w' := by
 have HSI := Lib.hid (fun W h1 h2 h3 => scof_spec A ca l D cd zs x E ce ls th W h1 h2 hs hn hm h3 hk)
 have HF := Lib.hid (fun (a y : Sc) W (h1 : InK 6 lgC W A l) (h2 : IntsIn W D zs) => can_spec a.h a.a a.k a.p a.g a.d y.h y.a y.k y.p y.g y.d A ca l D cd zs x W h1 h2 hs hn hm)
 have HA := Lib.hid hA; have HD := Lib.hid hD; have HE := Lib.hid hE; clear hA hD hE hs
 obtain ⟨i0, hi0, hz0, hz1, hz3⟩ := info_parts sc_info
 have H2 := two w (.cells #[.slice A l.length ca, .slice D zs.length cd, .int .i64 x] 27) (.cells #[] 34)
 have hN0 : Box3 27 ((w.alloc (.cells #[.slice A l.length ca, .slice D zs.length cd, .int .i64 x] 27)).alloc (.cells #[] 34)) w.heap.size (.slice A l.length ca) (.slice D zs.length cd) (.int .i64 x) := H2.1
 have HT := Lib.hid H2.2.1; have HB2 := Lib.hid H2.2.2.1; have hz2 := H2.2.2.2
 clear H2
 have HCF := Lib.hid (fun k hk a ha => can_fol (l := l) (zs := zs) (x := x) (ls := ls) (th := th) (k := k) hk (a := a) ha)
 have HVM := Lib.hid (fun y hy => (scOf_mem (l := l) (zs := zs) (x := x) (ls := ls) (th := th) (y := y) hy).2.2)
 have hvl := scOf_len (l := l) (zs := zs) (x := x) (ls := ls) (th := th)
 have HCB := Lib.hid (show clB l zs x ls th = clU l zs x (scOfB l zs x ls th) (scOfB l zs x ls th).length from rfl)
 generalize hB : w.heap.size = B at *
 have HBE := Lib.hid hB
 go_enter Tryz.func26, Tryz.ntmps26
 go_wp2_with fail
 clear hB
 generalize (w.alloc (.cells #[.slice A l.length ca, .slice D zs.length cd, .int .i64 x] 27)).alloc (.cells #[] 34) = W2 at *
 have hb2 : Below w.heap.size w W2 := by rw [HBE.out]; exact HB2.out
 refine (HSI.out W2 (HA.out.below hb2) (HD.out.below hb2) (HE.out.below hb2)).mono ?_; rintro e w1 ⟨G, c, rfl, hr, hb⟩
 clear hb2 HSI HE
 generalize scOfB l zs x ls th = V at *
 have hG := RowC.low hr
 have hR0 : RowC w1 (B + 1) (B + 1) 0 (clU l zs x V 0) := own_nilS (Nat.le_refl _) ((hb.block (B + 1) (by omega)).trans HT.out)
 have hlt1 : B + 1 < w1.heap.size := by have := hb.size; omega
 have HRV := Lib.hid hr; have HR0 := Lib.hid hR0
 have HB1 := Lib.hid (HB2.out.trans (hb.mono (by omega)))
 have HN1 := Lib.hid (hN0.below hb)
 clear hr hb hR0 hN0
 go_wp2
 go_loopw [9, 7] (fun i v wr => ∃ k G2 c2 : Nat, i = .int .i64 k ∧ k ≤ V.length ∧ v = .slice (some ⟨G2, 0, none⟩) (clU l zs x V k).length c2 ∧ Hid (RowC wr (B + 1) G2 c2 (clU l zs x V k)) ∧ Hid (RowC wr W2.heap.size G c V) ∧ Hid (Below B w wr) ∧ Hid (Box3 27 wr B (.slice A l.length ca) (.slice D zs.length cd) (.int .i64 x)) ∧ G2 ≠ G) (fun i _ _ => V.length - (intOf i).toNat)
 case atStart => exact ⟨0, B + 1, 0, rfl, by omega, rfl, HR0, HRV, HB1, HN1, by omega⟩
 case round =>
  clear HR0 HRV HB1 HN1
  obtain ⟨k, G2, c2, rfl, hkm, rfl, hro, hrv, hbw, hnw, hne⟩ := hrel
  have hl2 := RowC.low hro.out; have hlG := RowC.low hrv.out
  by_cases hlt : (k : Int) < (V.length : Int)
  ·have hkl : k < V.length := by omega
   have hb' : Below w.heap.size w wr := by rw [HBE.out]; exact hbw.out
   have HAr := Lib.hid (HA.out.below hb'); have HDr := Lib.hid (HD.out.below hb')
   obtain ⟨g0, e0, hg0, s0, s1, s2, s3, s4, s5⟩ := (ins_row hrv.out scC_len rfl).sc k hkl
   cases e0
   clear hb'
   have HK := Lib.hid (clU_succ (l := l) (zs := zs) (x := x) hkl)
   have hfl := clU_len (l := l) (zs := zs) (x := x) (V := V) k (by omega)
   have HCk := Lib.hid (fun a ha => HCF.out k hkl a ha)
   generalize V[k] = y at s0 s1 s2 s3 s4 s5 HK HCk
   generalize clU l zs x V k = F at *
   have HRO := hro; have HRV := hrv; have HBW := hbw; have HNW := hnw; have HAw := HAr; have HDw := HDr
   clear HAr HDr hro hrv hbw hnw
   go_wp2_with fail
   generalize wr = ww at *
   have hGl := hg0
   obtain ⟨n0, n1, n2⟩ := HNW.out.cells
   have hBl := HNW.out.lt
   have q0 := far_cell hBl n0; have q1 := far_cell hBl n1; have q2 := far_cell hBl n2
   clear n0 n1 n2
   have f0 := far_cell hGl s0; have f1 := far_cell hGl s1; have f2 := far_cell hGl s2; have f3 := far_cell hGl s3; have f4 := far_cell hGl s4; have f5 := far_cell hGl s5
   by_cases hF0 : F.length = 0
   ·have hFb : ((F.length : Int) == 0) = true := by rw [beq_iff_eq]; omega
    have HK1 := Lib.hid (HK.out.trans (addC_nil hF0))
    clear hF0
    refine wp_region_far (by kernel_rfl) (by kernel_rfl) ?_
    repeat (any_goals (first | go_big_quiet_step (fail) | quiet_step (fail)))
    refine wpQuiet_nil ?_; intro w3 hw3
    have hb3 : Below ww.heap.size ww w3 := by obtain ⟨u, rfl⟩ := hw3; exact below_far ww u
    clear f0 f1 f2 f3 f4 f5 q0 q1 q2
    clear hw3
    have y0 : w3.cell? ⟨G, k * 6, none⟩ = some (.int .i64 y.h) := (hb3.cell (p := ⟨G, k * 6, none⟩) hGl).trans s0
    have y1 : w3.cell? ⟨G, k * 6 + 1, none⟩ = some (.int .i64 y.a) := (hb3.cell (p := ⟨G, k * 6 + 1, none⟩) hGl).trans s1
    have y2 : w3.cell? ⟨G, k * 6 + 2, none⟩ = some (.int .i64 y.k) := (hb3.cell (p := ⟨G, k * 6 + 2, none⟩) hGl).trans s2
    have y3 : w3.cell? ⟨G, k * 6 + 3, none⟩ = some (.string y.p) := (hb3.cell (p := ⟨G, k * 6 + 3, none⟩) hGl).trans s3
    have y4 : w3.cell? ⟨G, k * 6 + 4, none⟩ = some (.int .i64 y.g) := (hb3.cell (p := ⟨G, k * 6 + 4, none⟩) hGl).trans s4
    have y5 : w3.cell? ⟨G, k * 6 + 5, none⟩ = some (.int .i64 y.d) := (hb3.cell (p := ⟨G, k * 6 + 5, none⟩) hGl).trans s5
    have HRO3 := Lib.hid (OwnK.below HRO.out hb3)
    have HRV3 := Lib.hid (OwnK.below HRV.out hb3)
    have HB3 := Lib.hid (HBW.out.trans (hb3.mono (by omega)))
    have HN3 := Lib.hid (HNW.out.below hb3)
    have hs3 := hb3.size
    clear hb3 s0 s1 s2 s3 s4 s5 HRO HRV HBW HNW
    have hmx : F.length + 1 ≤ maxLen := by unfold maxLen; omega
    have hmb : (F.length + 1) * 56 ≤ 140737488355328 := by omega
    go_wp2_with (at_builtin; refine wpList_append_own_at _ rfl (.tmp 38) (.tmp 43) 28 rfl (B + 1) 34 i0 _ 6 56 Tryz.underlying28 hi0 hz0 hz1 hz3 rfl (by omega) _ _ _ rfl (HRO3.out.alloc _) ⟨w3.heap.size, 0, none⟩ 1 1 (scC y) rfl rfl (World.news_of_block (cs := #[.int .i64 y.h, .int .i64 y.a, .int .i64 y.k, .string y.p, .int .i64 y.g, .int .i64 y.d]) (t := 34) (fr := (0, 0)) (heap_alloc_new w3 _)) (one_sc y) hmx hmb (by rw [World.size_alloc]; omega) ?_; intro v' w6 hown hgr hnil hob; obtain ⟨G3, c3', rfl, hr6⟩ := RowC.of (l := F ++ [y]) (by rw [List.flatMap_append, List.flatMap_singleton]; exact hown) (by simp) (fun e => by have := (hnil.1 e).1; cases this))
    have hba := (Below.refl w3.heap.size w3).alloc (Nat.le_refl _) (.cells #[.int .i64 y.h, .int .i64 y.a, .int .i64 y.k, .string y.p, .int .i64 y.g, .int .i64 y.d] 34)
    have HB6 := Lib.hid ((HB3.out.trans (hba.mono (by omega))).grown hgr (by rw [World.size_alloc]; omega) (fun q e => by cases e; exact (show B ≤ G2 by omega)))
    have HV6 := Lib.hid (World.ownsRow.kept (OwnK.below HRV3.out hba) hgr (.inr (fun e => by have e2 : G = G2 := Option.some.inj e; omega)))
    have HN6 := Lib.hid ((HN3.out.below hba).apart hgr (fun e => by have e2 : B = G2 := Option.some.inj e; omega))
    have hn6 : G3 ≠ G := by
     rcases hob with e | e
     ·have e2 : G3 = G2 := Option.some.inj e
      omega
     ·have e2 : G3 = (w3.alloc (.cells #[.int .i64 y.h, .int .i64 y.a, .int .i64 y.k, .string y.p, .int .i64 y.g, .int .i64 y.d] 34)).heap.size := Option.some.inj e
      rw [World.size_alloc] at e2
      omega
    have HR6 := Lib.hid hr6
    clear hown hgr hnil hob hr6 hba y0 y1 y2 y3 y4 y5
    go_roundw
    case rel => exact ⟨k + 1, G3, c3', by go_num, by omega, by rw [HK1.out, List.length_append]; rfl, Lib.hid (by rw [HK1.out]; exact HR6.out), HV6, HB6, HN6, hn6⟩
    case measure => simp [intOf]; omega
   ·have hFb : ((F.length : Int) == 0) = false := by rw [beq_eq_false_iff_ne]; omega
    obtain ⟨n, hn1⟩ : ∃ n, n + 1 = F.length := ⟨F.length - 1, by omega⟩
    have hnF : n < F.length := by omega
    have hni : (F.length : Int) - 1 = (n : Int) := by omega
    have hnl : (n : Int) < (F.length : Int) := by omega
    obtain ⟨gF, eF, hgF, d0, d1, d2, d3, d4, d5⟩ := (ins_row HRO.out scC_len rfl).sc n hnF
    cases eF
    have HKY := Lib.hid (fun q => HK.out.trans (addC_yes hnF hn1 q))
    have HKN := Lib.hid (fun q => HK.out.trans (addC_no hnF hn1 q))
    have HC1 := Lib.hid (HCk.out F[n] (List.getElem_mem hnF))
    generalize F[n] = a at d0 d1 d2 d3 d4 d5 HKY HKN HC1
    have e0 := far_cell hgF d0; have e1 := far_cell hgF d1; have e2 := far_cell hgF d2; have e3 := far_cell hgF d3; have e4 := far_cell hgF d4; have e5 := far_cell hgF d5
    clear d0 d1 d2 d3 d4 d5 hF0
    have HFF := Lib.hid (fun u => HF.out a y (far ww u) (HAw.out.below (below_far ww u)) (HDw.out.below (below_far ww u)))
    simp only [show canB l zs x ⟨a.h, a.a, a.k, a.p, a.g, a.d⟩ ⟨y.h, y.a, y.k, y.p, y.g, y.d⟩ = canB l zs x a y from rfl] at HFF
    cases hq : canB l zs x a y with
    | true =>
     rw [hq] at HFF
     have HK1 := Lib.hid (HKY.out hq)
     clear HKY HKN HC1 hq
     refine wp_region_far (by kernel_rfl) (by kernel_rfl) ?_
     repeat (any_goals (first | go_big_quiet_step (((go_at_call 86; with_reducible exact call_far (HFF.out _)))) | quiet_step (((go_at_call 86; with_reducible exact call_far (HFF.out _))))))
     refine wpQuiet_nil ?_; intro w3 hw3
     have hb3 : Below ww.heap.size ww w3 := by obtain ⟨u, rfl⟩ := hw3; exact below_far ww u
     clear f0 f1 f2 f3 f4 f5 q0 q1 q2 e0 e1 e2 e3 e4 e5 HFF
     clear hw3
     have y0 : w3.cell? ⟨G, k * 6, none⟩ = some (.int .i64 y.h) := (hb3.cell (p := ⟨G, k * 6, none⟩) hGl).trans s0
     have y1 : w3.cell? ⟨G, k * 6 + 1, none⟩ = some (.int .i64 y.a) := (hb3.cell (p := ⟨G, k * 6 + 1, none⟩) hGl).trans s1
     have y2 : w3.cell? ⟨G, k * 6 + 2, none⟩ = some (.int .i64 y.k) := (hb3.cell (p := ⟨G, k * 6 + 2, none⟩) hGl).trans s2
     have y3 : w3.cell? ⟨G, k * 6 + 3, none⟩ = some (.string y.p) := (hb3.cell (p := ⟨G, k * 6 + 3, none⟩) hGl).trans s3
     have y4 : w3.cell? ⟨G, k * 6 + 4, none⟩ = some (.int .i64 y.g) := (hb3.cell (p := ⟨G, k * 6 + 4, none⟩) hGl).trans s4
     have y5 : w3.cell? ⟨G, k * 6 + 5, none⟩ = some (.int .i64 y.d) := (hb3.cell (p := ⟨G, k * 6 + 5, none⟩) hGl).trans s5
     have HRO3 := Lib.hid (OwnK.below HRO.out hb3)
     have HRV3 := Lib.hid (OwnK.below HRV.out hb3)
     have HB3 := Lib.hid (HBW.out.trans (hb3.mono (by omega)))
     have HN3 := Lib.hid (HNW.out.below hb3)
     have hs3 := hb3.size
     clear hb3 s0 s1 s2 s3 s4 s5 HRO HRV HBW HNW
     have hmx : F.length + 1 ≤ maxLen := by unfold maxLen; omega
     have hmb : (F.length + 1) * 56 ≤ 140737488355328 := by omega
     go_wp2_with (at_builtin; refine wpList_append_own_at _ rfl (.tmp 38) (.tmp 43) 28 rfl (B + 1) 34 i0 _ 6 56 Tryz.underlying28 hi0 hz0 hz1 hz3 rfl (by omega) _ _ _ rfl (HRO3.out.alloc _) ⟨w3.heap.size, 0, none⟩ 1 1 (scC y) rfl rfl (World.news_of_block (cs := #[.int .i64 y.h, .int .i64 y.a, .int .i64 y.k, .string y.p, .int .i64 y.g, .int .i64 y.d]) (t := 34) (fr := (0, 0)) (heap_alloc_new w3 _)) (one_sc y) hmx hmb (by rw [World.size_alloc]; omega) ?_; intro v' w6 hown hgr hnil hob; obtain ⟨G3, c3', rfl, hr6⟩ := RowC.of (l := F ++ [y]) (by rw [List.flatMap_append, List.flatMap_singleton]; exact hown) (by simp) (fun e => by have := (hnil.1 e).1; cases this))
     have hba := (Below.refl w3.heap.size w3).alloc (Nat.le_refl _) (.cells #[.int .i64 y.h, .int .i64 y.a, .int .i64 y.k, .string y.p, .int .i64 y.g, .int .i64 y.d] 34)
     have HB6 := Lib.hid ((HB3.out.trans (hba.mono (by omega))).grown hgr (by rw [World.size_alloc]; omega) (fun q e => by cases e; exact (show B ≤ G2 by omega)))
     have HV6 := Lib.hid (World.ownsRow.kept (OwnK.below HRV3.out hba) hgr (.inr (fun e => by have e2 : G = G2 := Option.some.inj e; omega)))
     have HN6 := Lib.hid ((HN3.out.below hba).apart hgr (fun e => by have e2 : B = G2 := Option.some.inj e; omega))
     have hn6 : G3 ≠ G := by
      rcases hob with e | e
      ·have e2 : G3 = G2 := Option.some.inj e
       omega
      ·have e2 : G3 = (w3.alloc (.cells #[.int .i64 y.h, .int .i64 y.a, .int .i64 y.k, .string y.p, .int .i64 y.g, .int .i64 y.d] 34)).heap.size := Option.some.inj e
       rw [World.size_alloc] at e2
       omega
     have HR6 := Lib.hid hr6
     clear hown hgr hnil hob hr6 hba y0 y1 y2 y3 y4 y5
     go_roundw
     case rel => exact ⟨k + 1, G3, c3', by go_num, by omega, by rw [HK1.out, List.length_append]; rfl, Lib.hid (by rw [HK1.out]; exact HR6.out), HV6, HB6, HN6, hn6⟩
     case measure => simp [intOf]; omega
    | false =>
     rw [hq] at HFF
     have HK1 := Lib.hid (HKN.out hq)
     clear HKY HKN HC1 hq
     refine wp_region_far (by kernel_rfl) (by kernel_rfl) ?_
     repeat (any_goals (first | go_big_quiet_step (((go_at_call 86; with_reducible exact call_far (HFF.out _)))) | quiet_step (((go_at_call 86; with_reducible exact call_far (HFF.out _))))))
     refine wpQuiet_nil ?_; intro w3 hw3
     have hb3 : Below ww.heap.size ww w3 := by obtain ⟨u, rfl⟩ := hw3; exact below_far ww u
     clear f0 f1 f2 f3 f4 f5 q0 q1 q2 e0 e1 e2 e3 e4 e5 HFF
     clear hw3
     have y0 : w3.cell? ⟨G, k * 6, none⟩ = some (.int .i64 y.h) := (hb3.cell (p := ⟨G, k * 6, none⟩) hGl).trans s0
     have y1 : w3.cell? ⟨G, k * 6 + 1, none⟩ = some (.int .i64 y.a) := (hb3.cell (p := ⟨G, k * 6 + 1, none⟩) hGl).trans s1
     have y2 : w3.cell? ⟨G, k * 6 + 2, none⟩ = some (.int .i64 y.k) := (hb3.cell (p := ⟨G, k * 6 + 2, none⟩) hGl).trans s2
     have y3 : w3.cell? ⟨G, k * 6 + 3, none⟩ = some (.string y.p) := (hb3.cell (p := ⟨G, k * 6 + 3, none⟩) hGl).trans s3
     have y4 : w3.cell? ⟨G, k * 6 + 4, none⟩ = some (.int .i64 y.g) := (hb3.cell (p := ⟨G, k * 6 + 4, none⟩) hGl).trans s4
     have y5 : w3.cell? ⟨G, k * 6 + 5, none⟩ = some (.int .i64 y.d) := (hb3.cell (p := ⟨G, k * 6 + 5, none⟩) hGl).trans s5
     have HRO3 := Lib.hid (OwnK.below HRO.out hb3)
     have HRV3 := Lib.hid (OwnK.below HRV.out hb3)
     have HB3 := Lib.hid (HBW.out.trans (hb3.mono (by omega)))
     have HN3 := Lib.hid (HNW.out.below hb3)
     have hs3 := hb3.size
     clear hb3 s0 s1 s2 s3 s4 s5 HRO HRV HBW HNW
     go_wp2
     go_roundw
     case rel => exact ⟨k + 1, G2, c2, by go_num, by omega, by rw [HK1.out], Lib.hid (by rw [HK1.out]; exact HRO3.out), HRV3, HB3, HN3, hne⟩
     case measure => simp [intOf]; omega
  ·obtain rfl : k = V.length := by omega
   have HCB2 := Lib.hid HCB.out.symm
   rw [HCB2.out] at hro ⊢
   go_wp2
   go_ret
   exact ⟨_, rfl, OwnK.mono hro.out (by omega), hbw.out⟩
end Go.Proofs.YtinijleelhbpoaaGreat

/- Clashes, both texts. Frame: mk/sccls.base. -/
namespace Go.Proofs.YtinijleelhbpoaaGreat
open Go.RowKit
/-- the places behind the first that can not follow -/
def clsU (l : List Lg) (zs : List Int) (x : Int) (V : List Sc) : Nat → List Int
 | 0 => []
 | 1 => []
 | k + 2 => clsU l zs x V (k + 1) ++ (if canB l zs x (V.getD k default) (V.getD (k + 1) default) then [] else [((k + 1 : Nat) : Int)])
def clsB (l : List Lg) (zs : List Int) (x : Int) (ls : List Sc) (th : Int) : List Int := clsU l zs x (scOfB l zs x ls th) (max 1 (scOfB l zs x ls th).length)
theorem clsU_yes {l : List Lg} {zs : List Int} {x : Int} {V : List Sc} {n k : Nat} (hn : n < V.length) (hk : k < V.length) (e : n + 1 = k) (h : canB l zs x V[n] V[k] = true) : clsU l zs x V (k + 1) = clsU l zs x V k := by
 subst e
 show clsU l zs x V (n + 1) ++ _ = _
 have e1 : V.getD n default = V[n] := by simp [List.getD, hn]
 have e2 : V.getD (n + 1) default = V[n + 1] := by simp [List.getD, hk]
 rw [e1, e2, if_pos h, List.append_nil]
theorem clsU_no {l : List Lg} {zs : List Int} {x : Int} {V : List Sc} {n k : Nat} (hn : n < V.length) (hk : k < V.length) (e : n + 1 = k) (h : canB l zs x V[n] V[k] = false) : clsU l zs x V (k + 1) = clsU l zs x V k ++ [(k : Int)] := by
 subst e
 show clsU l zs x V (n + 1) ++ _ = _
 have e1 : V.getD n default = V[n] := by simp [List.getD, hn]
 have e2 : V.getD (n + 1) default = V[n + 1] := by simp [List.getD, hk]
 rw [e1, e2, if_neg (by rw [h]; decide)]
theorem clsU_len {l : List Lg} {zs : List Int} {x : Int} {V : List Sc} : ∀ k, (clsU l zs x V k).length ≤ k
 | 0 => Nat.le_refl _
 | 1 => by simp [clsU]
 | k + 2 => by
  have := clsU_len (l := l) (zs := zs) (x := x) (V := V) (k + 1)
  show (clsU l zs x V (k + 1) ++ _).length ≤ _
  rw [List.length_append]
  split <;> simp <;> omega
theorem clsB_len {l : List Lg} {zs : List Int} {x : Int} {ls : List Sc} {th : Int} : (clsB l zs x ls th).length ≤ max 1 ls.length := by
 have h1 := clsU_len (l := l) (zs := zs) (x := x) (V := scOfB l zs x ls th) (max 1 (scOfB l zs x ls th).length)
 have h2 := scOf_len (l := l) (zs := zs) (x := x) (ls := ls) (th := th)
 show (clsU l zs x _ _).length ≤ _
 omega
theorem cons_fol {l : List Lg} {zs : List Int} {x : Int} {ls : List Sc} {th : Int} (k n : Nat) (hn : n < (scOfB l zs x ls th).length) (hk : k < (scOfB l zs x ls th).length) (e : n + 1 = k) : canB l zs x (scOfB l zs x ls th)[n] (scOfB l zs x ls th)[k] = folB l zs x (scOfB l zs x ls th)[n] (scOfB l zs x ls th)[k] := by
 have m1 := scOf_mem (List.getElem_mem hn)
 have m2 := scOf_mem (List.getElem_mem hk)
 exact can_f m1.1 m2.1 (m1.2.1.trans m2.2.1.symm) (List.pairwise_iff_getElem.1 scOf_up n k hn hk (by omega))
theorem own_nilI {W : World} {b X : Nat} (hb : b ≤ X) (h : W.heap[X]? = some (.cells #[] 3 (0, 0))) : OwnI W b (.slice (some ⟨X, 0, none⟩) 0 0) [] :=
 ⟨rfl, .inr ⟨X, 0, #[], rfl, hb, h, Nat.le_refl _, Nat.zero_le _, rfl, rfl⟩⟩
theorem ownI_of {w : World} {b n : Nat} {v : Value} {l : List Int} (h : w.ownsRow b 3 1 v n (intV l)) (hn : l.length = n) (hv : v ≠ .slice none 0 0) : ∃ g c, v = .slice (some ⟨g, 0, none⟩) n c ∧ OwnI w b (.slice (some ⟨g, 0, none⟩) n c) l := by
 subst hn
 have h0 := h
 rcases h.2 with ⟨e, _⟩ | ⟨g, cap, cur, e, _⟩
 ·exact absurd e hv
 ·subst e; exact ⟨g, cap, rfl, h0⟩
end Go.Proofs.YtinijleelhbpoaaGreat

/- NextScan and LastScan, both texts. -/
import Derived.Test.YtinijleelhbpoaaGreatBu
namespace Go.Proofs.YtinijleelhbpoaaGreat
open Go.RowKit
def zSc : Sc := ⟨0, 0, 0, ⟨#[]⟩, 0, 0⟩
/-- the first that is later -/
def fstA (C : List Sc) (at_ : Int) : Nat := C.findIdx fun y => decide (at_ < y.a)
theorem fstA_hit {C : List Sc} {at_ : Int} {k : Nat} (hk : k < C.length) (h : at_ < C[k].a) (hn : ∀ j (_ : j < C.length), j < k → ¬ at_ < C[j].a) : fstA C at_ = k := by
 unfold fstA
 rw [List.findIdx_eq hk]
 exact ⟨by simpa using h, fun j hj => by simpa using hn j (by omega) hj⟩
theorem fstA_miss {C : List Sc} {at_ : Int} (hn : ∀ j (_ : j < C.length), ¬ at_ < C[j].a) : fstA C at_ = C.length := by
 unfold fstA
 rw [List.findIdx_eq_length]
 intro y hy
 obtain ⟨j, hj, rfl⟩ := List.getElem_of_mem hy
 simpa using hn j hj
theorem fstA_le {C : List Sc} {at_ : Int} : fstA C at_ ≤ C.length := List.findIdx_le_length
def nxT (C : List Sc) (at_ : Int) : Sc := C.getD (fstA C at_) zSc
def nxOk (C : List Sc) (at_ : Int) : Bool := decide (fstA C at_ < C.length)
theorem nx_hit {C : List Sc} {at_ : Int} {k : Nat} (hk : k < C.length) (e : fstA C at_ = k) : nxT C at_ = C[k] ∧ nxOk C at_ = true := by
 unfold nxT nxOk
 rw [e]
 exact ⟨by simp [List.getD, hk], decide_eq_true hk⟩
theorem nx_miss {C : List Sc} {at_ : Int} (e : fstA C at_ = C.length) : nxT C at_ = zSc ∧ nxOk C at_ = false := by
 unfold nxT nxOk
 rw [e]
 exact ⟨by simp [List.getD], decide_eq_false (by omega)⟩
/-- what the closure is given: the time, in a box -/
def AtK (B : Nat) (at_ : Int) (W : World) : Prop := W.heap[B]? = some (.cells #[.int .i64 at_] 3 (0, 0))
theorem at_says (B : Nat) (at_ : Int) (bs : List Sc) : SaysC 152 #[.pointer (some ⟨B, 0, none⟩)] (fun y => decide (at_ < y.a)) bs (AtK B at_) := by
 intro W y _ hK
 have hB := (Array.getElem?_eq_some_iff.1 hK).1
 have t0 := cell1 hK
 clear hK
 show Calls _ _ #[.agg #[.int .i64 y.h, .int .i64 y.a, .int .i64 y.k, .string y.p, .int .i64 y.g, .int .i64 y.d], .pointer (some ⟨B, 0, none⟩)] _ _
 go_enter Tryz.func152, Tryz.ntmps152
 go_wp2
 go_ret
 exact ⟨rfl, (Below.refl _ _).alloc (Nat.le_refl _) _⟩
set_option maxRecDepth 100000 in
set_option maxHeartbeats 2000000 in
theorem first_impl (at_ : Int) (A : Option Addr) (ca : Nat) (C : List Sc) (w : World) (hA : InK 6 scC w A C) (hn : C.length ≤ 1048576) :
  Calls Tryz.prog 88 #[.slice A C.length ca, .int .i64 at_] w fun e w' => e = .returned (.int .i64 ((fstA C at_ : Nat) : Int)) ∧ Below w.heap.size w w' := by
 have hb1 := (Below.refl w.heap.size w).alloc (Nat.le_refl _) (.cells #[.int .i64 at_] 3)
 have hK1 : AtK w.heap.size at_ (w.alloc (.cells #[.int .i64 at_] 3)) := heap_alloc_new w _
 have hKK : ∀ W W', AtK w.heap.size at_ W → Below W.heap.size W W' → AtK w.heap.size at_ W' := fun W W' h hb => (hb.block _ (Array.getElem?_eq_some_iff.1 h).1).trans h
 have eg : ∀ args w, (callFunc 152 args).run Tryz.prog w = .ok (.enter 152 args) w := enters_of Tryz.func152 (by kernel_rfl) rfl
 have HIF := Lib.hid (idxf_sc (fun y => decide (at_ < y.a)) 152 #[.pointer (some ⟨w.heap.size, 0, none⟩)] (AtK w.heap.size at_) hKK eg A ca C (w.alloc (.cells #[.int .i64 at_] 3)) (hA.below hb1) hn (at_says w.heap.size at_ C) hK1)
 have HB1 := Lib.hid hb1
 have hz1 : (w.alloc (.cells #[.int .i64 at_] 3)).heap.size = w.heap.size + 1 := by simp
 clear hA hb1 hK1 hKK eg
 go_enter Tryz.func88, Tryz.ntmps88
 go_wp2_with fail
 refine HIF.out.mono ?_; rintro e w1 ⟨rfl, hhit, hmiss, hb⟩
 have HB2 := Lib.hid (HB1.out.trans (hb.mono (by omega)))
 clear hb HIF
 by_cases hm : idxC (fun y => decide (at_ < y.a)) C = -1
 ·have HE := Lib.hid (fstA_miss (C := C) (at_ := at_) (fun j hj => by have := hmiss hm j hj; simpa using this))
  clear hhit hmiss
  rw [hm]
  clear hm
  go_wp2
  go_ret
  exact ⟨by rw [HE.out]; rfl, HB2.out⟩
 ·obtain ⟨k, hk⟩ : ∃ k : Nat, idxC (fun y => decide (at_ < y.a)) C = k := by
   unfold idxC at hm ⊢
   cases h : C.findIdx? (fun y => decide (at_ < y.a)) with
   | none => rw [h] at hm; exact absurd rfl hm
   | some k => exact ⟨k, rfl⟩
  obtain ⟨hkn, ⟨_, hpk⟩, hbef⟩ := hhit k hk
  have HE := Lib.hid (fstA_hit (C := C) (at_ := at_) hkn (by simpa using hpk) (fun j hj hjk => by have := hbef j hj hjk; simpa using this))
  clear hhit hmiss hm hpk hbef
  rw [hk]
  clear hk
  go_wp2
  go_ret
  exact ⟨by rw [HE.out]; rfl, HB2.out⟩
set_option maxRecDepth 100000 in
set_option maxHeartbeats 2000000 in
theorem nxs_spec (A : Option Addr) (ca : Nat) (l : List Lg) (D : Option Addr) (cd : Nat) (zs : List Int) (x : Int) (E : Option Addr) (ce : Nat) (ls : List Sc) (th at_ : Int) (w : World) (hA : InK 6 lgC w A l) (hD : IntsIn w D zs) (hs : ∀ z ∈ l, z.f.size ≤ maxLen ∧ z.t.size ≤ maxLen) (hn : l.length ≤ 1048576) (hm : zs.length ≤ 1048576) (hE : InK 6 scC w E ls) (hk : ls.length ≤ 1048576) (hce : ls.length ≤ ce) :
  Calls Tryz.prog 108 #[.agg #[.slice A l.length ca, .slice D zs.length cd, .int .i64 x], .slice E ls.length ce, .int .i64 th, .int .i64 at_] w fun e w' => e = .returned (.tuple #[.agg #[.int .i64 (nxT (clB l zs x ls th) at_).h, .int .i64 (nxT (clB l zs x ls th) at_).a, .int .i64 (nxT (clB l zs x ls th) at_).k, .string (nxT (clB l zs x ls th) at_).p, .int .i64 (nxT (clB l zs x ls th) at_).g, .int .i64 (nxT (clB l zs x ls th) at_).d], .bool (nxOk (clB l zs x ls th) at_)]) ∧ Below w.heap.size w w' := by
 have H2 := two w (.cells #[.slice A l.length ca, .slice D zs.length cd, .int .i64 x] 27) (.cells #[.int .i64 0, .int .i64 0, .int .i64 0, .string ⟨#[]⟩, .int .i64 0, .int .i64 0] 34)
 have HZ := Lib.hid (show BoxS 34 _ (w.heap.size + 1) _ _ _ _ _ _ from H2.2.1); have hb1 := H2.2.2.1; have hz2 := H2.2.2.2
 clear H2
 have HCL := Lib.hid (cl_spec A ca l D cd zs x E ce ls th ((w.alloc (.cells #[.slice A l.length ca, .slice D zs.length cd, .int .i64 x] 27)).alloc (.cells #[.int .i64 0, .int .i64 0, .int .i64 0, .string ⟨#[]⟩, .int .i64 0, .int .i64 0] 34)) (hA.below hb1) (hD.below hb1) hs hn hm (hE.below hb1) hk hce)
 have hvl := clB_len (l := l) (zs := zs) (x := x) (ls := ls) (th := th)
 have HB0 := Lib.hid hb1
 clear hb1 hA hD hE hs
 generalize hB : w.heap.size = B at *
 have HBE := Lib.hid hB
 generalize clB l zs x ls th = V at *
 go_enter Tryz.func108, Tryz.ntmps108
 go_wp2_with fail
 clear hB
 generalize (w.alloc (.cells #[.slice A l.length ca, .slice D zs.length cd, .int .i64 x] 27)).alloc (.cells #[.int .i64 0, .int .i64 0, .int .i64 0, .string ⟨#[]⟩, .int .i64 0, .int .i64 0] 34) = W2 at *
 refine HCL.out.mono ?_; rintro e w1 ⟨v, rfl, ho, hb⟩
 obtain ⟨Av, cv, rfl⟩ := OwnK.opens (k := 6) (enc := scC) ho
 have HIn := Lib.hid (ins_row ho scC_len rfl)
 have HB1 := Lib.hid (HB0.out.trans (hb.mono (by omega)))
 have HZ1 := Lib.hid (HZ.out.below hb)
 have hs1 := hb.size
 clear ho hb HCL
 go_wp2
 go_loopw [11] (fun i wr => ∃ k : Nat, i = .int .i64 k ∧ k ≤ V.length ∧ Hid (∀ j (_ : j < V.length), j < k → ¬ at_ < V[j].a) ∧ wr = w1) (fun i _ => V.length - (intOf i).toNat)
 case atStart => exact ⟨0, rfl, by omega, Lib.hid (fun j _ h => absurd h (by omega)), rfl⟩
 case round =>
  obtain ⟨k, rfl, hkm, hall, rfl⟩ := hrel
  by_cases hlt : (k : Int) < (V.length : Int)
  ·have hkl : k < V.length := by omega
   obtain ⟨g0, e0, hg0, c0, c1, c2, c3, c4, c5⟩ := HIn.out.sc k hkl
   subst e0
   have HHit := Lib.hid (fun (h : at_ < V[k].a) => nx_hit hkl (fstA_hit hkl h hall.out))
   have HNo := Lib.hid (fun (h : ¬ at_ < V[k].a) j (hj : j < V.length) (hjk : j < k + 1) => show ¬ at_ < V[j].a by
    by_cases e : j = k
    ·subst e; exact h
    ·exact hall.out j hj (by omega))
   clear hall
   generalize V[k] = y at c0 c1 c2 c3 c4 c5 HHit HNo
   by_cases hq : at_ < y.a
   ·have HX := Lib.hid (HHit.out hq)
    clear HHit HNo
    obtain ⟨r0, r1, r2, r3, r4, r5⟩ := HZ1.out.cells
    have z0 := HZ1.out.free 0; have z1 := HZ1.out.free 1; have z2 := HZ1.out.free 2; have z3 := HZ1.out.free 3; have z4 := HZ1.out.free 4; have z5 := HZ1.out.free 5
    have hzl := HZ1.out.lt
    go_wp2
    exact bodyPost_ret (v := .tuple #[.agg #[.int .i64 y.h, .int .i64 y.a, .int .i64 y.k, .string y.p, .int .i64 y.g, .int .i64 y.d], .bool true]) (by simp [results, Tryz.results108, go_sem, r0, r1, r2, r3, r4, r5]) rfl ⟨by rw [HX.out.1, HX.out.2]; first | done | rfl, ((((((HB1.out.setCell (by dsimp only; omega) _).setCell (by dsimp only; omega) _).setCell (by dsimp only; omega) _).setCell (by dsimp only; omega) _).setCell (by dsimp only; omega) _).setCell (by dsimp only; omega) _)⟩
   ·have HX := Lib.hid (HNo.out hq)
    clear HHit HNo
    go_wp2
    go_roundw
    case rel => exact ⟨k + 1, by go_num, by omega, HX, trivial⟩
    case measure => simp [intOf]; omega
  ·obtain rfl : k = V.length := by omega
   have HX := Lib.hid (nx_miss (fstA_miss (fun j hj => hall.out j hj hj)))
   clear hall
   obtain ⟨r0, r1, r2, r3, r4, r5⟩ := HZ1.out.cells
   have z0 := HZ1.out.free 0; have z1 := HZ1.out.free 1; have z2 := HZ1.out.free 2; have z3 := HZ1.out.free 3; have z4 := HZ1.out.free 4; have z5 := HZ1.out.free 5
   have hzl := HZ1.out.lt
   go_wp2
   exact bodyPost_ret (v := .tuple #[.agg #[.int .i64 0, .int .i64 0, .int .i64 0, .string ⟨#[]⟩, .int .i64 0, .int .i64 0], .bool false]) (by simp [results, Tryz.results108, go_sem, r0, r1, r2, r3, r4, r5]) rfl ⟨by rw [HX.out.1, HX.out.2]; first | done | rfl, ((((((HB1.out.setCell (by dsimp only; omega) _).setCell (by dsimp only; omega) _).setCell (by dsimp only; omega) _).setCell (by dsimp only; omega) _).setCell (by dsimp only; omega) _).setCell (by dsimp only; omega) _)⟩
end Go.Proofs.YtinijleelhbpoaaGreat

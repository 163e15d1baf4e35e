/- Lines of money, the program: IsLine, foldLines, SumOf, mayFollow. Written by hand. -/
import Derived.Test.YtadcmngooobeiaaLnM
import Derived.Test.YtadcmngooobeiaaBxW
import Derived.Shelf.Abstract
namespace Go.Proofs.Ytadcmngooobeiaa
open Go.RowKit
set_option maxRecDepth 100000 in
set_option maxHeartbeats 1000000 in
theorem isl_impl (xo xk xa xt : Int) (w : World) :
    Calls Try.prog 20 #[.agg #[.int .i64 xo, .int .i64 xk, .int .i64 xa, .int .i64 xt]] w fun e w' => e = .returned (.bool (lineB ⟨xo, xk, xa, xt⟩)) ∧ Below w.heap.size w w' := by
  have HV := Lib.hid (show lineB ⟨xo, xk, xa, xt⟩ = (decide (1 ≤ xo) && (decide (xo ≤ 9999) && (decide (1 ≤ xk) && (decide (xk ≤ 3) && (decide (1 ≤ xa) && (decide (xa ≤ 100000) && (decide (0 ≤ xt) && decide (xt ≤ 100000)))))))) by
    unfold lineB inB; simp only [Bool.decide_and, Bool.and_assoc])
  generalize lineB ⟨xo, xk, xa, xt⟩ = V at *
  have HB := Lib.hid ((Below.refl w.heap.size w).alloc (Nat.le_refl _) (.cells #[.int .i64 xo, .int .i64 xk, .int .i64 xa, .int .i64 xt] 25))
  by_cases q0 : 1 ≤ xo
  rotate_left
  · have HVF := Lib.hid (HV.out.trans (show _ = false by rw [decide_eq_false q0]; simp only [Bool.false_and]))
    go_enter Try.func20, Try.ntmps20
    go_wp2
    go_ret
    exact ⟨ret_bool HVF.out.symm, HB.out⟩
  by_cases q1 : xo ≤ 9999
  rotate_left
  · have HVF := Lib.hid (HV.out.trans (show _ = false by rw [decide_eq_false q1]; simp only [Bool.and_false, Bool.false_and]))
    go_enter Try.func20, Try.ntmps20
    go_wp2
    go_ret
    exact ⟨ret_bool HVF.out.symm, HB.out⟩
  by_cases q2 : 1 ≤ xk
  rotate_left
  · have HVF := Lib.hid (HV.out.trans (show _ = false by rw [decide_eq_false q2]; simp only [Bool.and_false, Bool.false_and]))
    go_enter Try.func20, Try.ntmps20
    go_wp2
    go_ret
    exact ⟨ret_bool HVF.out.symm, HB.out⟩
  by_cases q3 : xk ≤ 3
  rotate_left
  · have HVF := Lib.hid (HV.out.trans (show _ = false by rw [decide_eq_false q3]; simp only [Bool.and_false, Bool.false_and]))
    go_enter Try.func20, Try.ntmps20
    go_wp2
    go_ret
    exact ⟨ret_bool HVF.out.symm, HB.out⟩
  by_cases q4 : 1 ≤ xa
  rotate_left
  · have HVF := Lib.hid (HV.out.trans (show _ = false by rw [decide_eq_false q4]; simp only [Bool.and_false, Bool.false_and]))
    go_enter Try.func20, Try.ntmps20
    go_wp2
    go_ret
    exact ⟨ret_bool HVF.out.symm, HB.out⟩
  by_cases q5 : xa ≤ 100000
  rotate_left
  · have HVF := Lib.hid (HV.out.trans (show _ = false by rw [decide_eq_false q5]; simp only [Bool.and_false, Bool.false_and]))
    go_enter Try.func20, Try.ntmps20
    go_wp2
    go_ret
    exact ⟨ret_bool HVF.out.symm, HB.out⟩
  by_cases q6 : 0 ≤ xt
  rotate_left
  · have HVF := Lib.hid (HV.out.trans (show _ = false by rw [decide_eq_false q6]; simp only [Bool.and_false, Bool.false_and]))
    go_enter Try.func20, Try.ntmps20
    go_wp2
    go_ret
    exact ⟨ret_bool HVF.out.symm, HB.out⟩
  by_cases q7 : xt ≤ 100000
  rotate_left
  · have HVF := Lib.hid (HV.out.trans (show _ = false by rw [decide_eq_false q7]; simp only [Bool.and_false]))
    go_enter Try.func20, Try.ntmps20
    go_wp2
    go_ret
    exact ⟨ret_bool HVF.out.symm, HB.out⟩
  have HVF := Lib.hid (HV.out.trans (show _ = true by rw [decide_eq_true q0, decide_eq_true q1, decide_eq_true q2, decide_eq_true q3, decide_eq_true q4, decide_eq_true q5, decide_eq_true q6, decide_eq_true q7]; rfl))
  go_enter Try.func20, Try.ntmps20
  go_wp2
  go_ret
  exact ⟨ret_bool HVF.out.symm, HB.out⟩
/-- what a closure counts for a line -/
def SaysN (gf : Nat) (lb : Array Value) (f : Ln → Int) (K : World → Prop) : Prop :=
  ∀ (W : World) (x : Ln), K W → Calls Try.prog gf (#[.agg #[.int .i64 x.o, .int .i64 x.k, .int .i64 x.a, .int .i64 x.t]] ++ lb) W fun e w' => e = .returned (.int .i64 (f x)) ∧ Below W.heap.size W w'
set_option maxRecDepth 100000 in
set_option maxHeartbeats 2000000 in
theorem fold_impl (f : Ln → Int) (gf : Nat) (lb : Array Value) (K : World → Prop) (hK : ∀ W W', K W → Below W.heap.size W W' → K W') (eg : ∀ args w, (callFunc gf args).run Try.prog w = .ok (.enter gf args) w) (A : Option Addr) (ca : Nat) (l : List Ln) (w : World) (hA : InK 4 lnC w A l) (hn : l.length ≤ 1048576) (hs : SaysN gf lb f K) (hw : K w) :
    Calls Try.prog 59 #[.slice A l.length ca, .func (.func gf) #[] lb] w fun e w' => e = .returned (.int .i64 (foldA f l)) ∧ Below w.heap.size w w' := by
  have HA := Lib.hid hA; clear hA
  have HS := Lib.hid hs; clear hs
  have HN := Lib.hid (fun j (h : j < l.length) => foldN_next (f := f) h)
  have HE := Lib.hid (foldN_all (l := l) (f := f))
  have HK := Lib.hid (fun W (hb : Below w.heap.size w W) => hK w W hw hb); clear hK hw
  go_enter Try.func59, Try.ntmps59
  go_wp2
  go_loopw [5, 10] (fun n i wr => ∃ j : Nat, j ≤ l.length ∧ i = .int .i64 j ∧ n = .int .i64 (foldN f l j) ∧ Below w.heap.size w wr) (fun _ i _ => l.length - (intOf i).toNat)
  case atStart => exact ⟨0, Nat.zero_le _, rfl, rfl, Below.refl _ _⟩
  case round =>
    obtain ⟨j, hj, rfl, rfl, hb⟩ := hrel
    have hbz := hb.size
    by_cases hlt : (j : Int) < (l.length : Int)
    · have hjl : j < l.length := by omega
      obtain ⟨a, rfl, ha, c0, c1, c2, c3⟩ := (HA.out.below hb).ln j hjl
      have HNj := Lib.hid (HN.out j hjl)
      have HC := Lib.hid (fun W (hb2 : Below w.heap.size w W) => HS.out W l[j] (HK.out W hb2))
      generalize f l[j] = fv at *
      generalize l[j] = y at *
      obtain ⟨yo, yk, ya, yt⟩ := y
      dsimp only at c0 c1 c2 c3 HC
      obtain ⟨N, hN⟩ : ∃ N, N = foldN f l j := ⟨_, rfl⟩
      rw [← hN] at HNj ⊢
      clear hN
      have hbA := (Below.refl wr.heap.size wr).alloc (Nat.le_refl _) (.cells #[.int .i64 yo, .int .i64 yk, .int .i64 ya, .int .i64 yt] 25)
      have HB1 := Lib.hid (hb.trans (hbA.mono hbz))
      clear hb hbA
      go_wp2_with (go_at_fn gf; refine (HC.out _ HB1.out).mono ?_; rintro e w' ⟨rfl, hb'⟩)
      go_roundw
      case rel => exact ⟨j + 1, by omega, by go_num, by rw [HNj.out], HB1.out.trans (hb'.mono HB1.out.size)⟩
      case measure => simp [intOf]; omega
    · obtain rfl : j = l.length := by omega
      go_wp2
      go_ret
      exact ⟨by rw [HE.out]; rfl, hb⟩
/-- the two numbers that SumOf's closure looks for -/
def SumK (o k : Int) (B : Nat) (W : World) : Prop := B + 1 < W.heap.size ∧ W.cell? ⟨B, 0, none⟩ = some (.int .i64 o) ∧ W.cell? ⟨B + 1, 0, none⟩ = some (.int .i64 k)
theorem SumK.below {o k : Int} {B : Nat} {W W' : World} (h : SumK o k B W) (hb : Below W.heap.size W W') : SumK o k B W' :=
  ⟨Nat.lt_of_lt_of_le h.1 hb.size, (hb.cell (p := ⟨B, 0, none⟩) (Nat.lt_of_succ_lt h.1)).trans h.2.1, (hb.cell (p := ⟨B + 1, 0, none⟩) h.1).trans h.2.2⟩
set_option maxRecDepth 100000 in
theorem sum_says (o k : Int) (B : Nat) : SaysN 60 #[.pointer (some ⟨B, 0, none⟩), .pointer (some ⟨B + 1, 0, none⟩)] (valL o k) (SumK o k B) := by
  intro W x hK
  obtain ⟨hB, h0, h1⟩ := hK
  obtain ⟨xo, xk, xa, xt⟩ := x
  have hB0 : B < W.heap.size := by omega
  have hne : B ≠ W.heap.size := by omega
  have hne1 : B + 1 ≠ W.heap.size := by omega
  have HB := Lib.hid ((Below.refl W.heap.size W).alloc (Nat.le_refl _) (.cells #[.int .i64 xo, .int .i64 xk, .int .i64 xa, .int .i64 xt] 25))
  show Calls Try.prog 60 #[.agg #[.int .i64 xo, .int .i64 xk, .int .i64 xa, .int .i64 xt], .pointer (some ⟨B, 0, none⟩), .pointer (some ⟨B + 1, 0, none⟩)] W _
  by_cases hg : xo = o
  · by_cases hd : xk = k
    · have HV := Lib.hid (valL_yes (x := ⟨xo, xk, xa, xt⟩) hg hd)
      generalize valL o k ⟨xo, xk, xa, xt⟩ = V at *
      subst hg hd
      go_enter Try.func60, Try.ntmps60
      go_wp2
      go_ret
      exact ⟨ret_int HV.out.symm, HB.out⟩
    · have HV := Lib.hid (valL_no (x := ⟨xo, xk, xa, xt⟩) (fun h => hd h.2) (o := o))
      generalize valL o k ⟨xo, xk, xa, xt⟩ = V at *
      have hdd : (xk == k) = false := beq_eq_false_iff_ne.2 hd
      subst hg
      go_enter Try.func60, Try.ntmps60
      go_wp2
      go_ret
      exact ⟨ret_int HV.out.symm, HB.out⟩
  · have HV := Lib.hid (valL_no (x := ⟨xo, xk, xa, xt⟩) (fun h => hg h.1) (k := k))
    generalize valL o k ⟨xo, xk, xa, xt⟩ = V at *
    have hgg : (xo == o) = false := beq_eq_false_iff_ne.2 hg
    go_enter Try.func60, Try.ntmps60
    go_wp2
    go_ret
    exact ⟨ret_int HV.out.symm, HB.out⟩
set_option maxRecDepth 100000 in
set_option maxHeartbeats 1000000 in
theorem sum_impl (o k : Int) (A : Option Addr) (ca : Nat) (l : List Ln) (w : World) (hA : InK 4 lnC w A l) (hn : l.length ≤ 1048576) :
    Calls Try.prog 24 #[.slice A l.length ca, .int .i64 o, .int .i64 k] w fun e w' => e = .returned (.int .i64 (sumT l o k)) ∧ Below w.heap.size w w' := by
  have eg : ∀ args w, (callFunc 60 args).run Try.prog w = .ok (.enter 60 args) w := enters_of Try.func60 (by kernel_rfl) rfl
  have hmf : ∀ (fn : Fn) (first cap : Array Value) (w : World), (Instr.makeFunc fn first cap).run Try.prog w = .ok (.func fn first cap) w := fun _ _ _ _ => rfl
  have hb1 := ((Below.refl w.heap.size w).alloc (Nat.le_refl _) (.cells #[.int .i64 o] 3)).alloc (by simp) (.cells #[.int .i64 k] 3)
  have e1 : (w.alloc (.cells #[.int .i64 o] 3)).heap.size = w.heap.size + 1 := by simp
  have hK : SumK o k w.heap.size ((w.alloc (.cells #[.int .i64 o] 3)).alloc (.cells #[.int .i64 k] 3)) := by
    have hA1 : Bx 3 ((w.alloc (.cells #[.int .i64 o] 3)).alloc (.cells #[.int .i64 k] 3)) w.heap.size [.int .i64 o] := (Bx.new w [.int .i64 o]).alloc _
    have hA2 : Bx 3 ((w.alloc (.cells #[.int .i64 o] 3)).alloc (.cells #[.int .i64 k] 3)) (w.heap.size + 1) [.int .i64 k] := by rw [← e1]; exact Bx.new _ [.int .i64 k]
    exact ⟨hA2.lt, hA1.cell 0 _ rfl, hA2.cell 0 _ rfl⟩
  have HC := Lib.hid (fold_impl (valL o k) 60 #[.pointer (some ⟨w.heap.size, 0, none⟩), .pointer (some ⟨w.heap.size + 1, 0, none⟩)] (SumK o k w.heap.size) (fun _ _ h hb => h.below hb) eg A ca l _ (hA.below hb1) hn (sum_says o k w.heap.size) hK)
  have HB := Lib.hid hb1
  clear eg hA hb1 hK e1
  go_enter Try.func24, Try.ntmps24
  go_wp2_with fail
  refine HC.out.mono ?_; rintro e w1 ⟨rfl, hb2⟩
  go_wp2
  go_ret
  exact ⟨rfl, HB.out.trans (hb2.mono HB.out.size)⟩
end Go.Proofs.Ytadcmngooobeiaa

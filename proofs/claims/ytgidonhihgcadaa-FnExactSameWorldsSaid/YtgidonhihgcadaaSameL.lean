/- Rows compared element by element: what == says of a leg, a booking, a trip and a scan, and slices.Equal. Written by mk/same.py. -/
import Derived.Test.YtgidonhihgcadaaWor
import Derived.Laws.StructEq
import Derived.BigQuiet
namespace Go.Proofs.Ytgidonhihgcadaa
open Go.RowKit
/-- two lists are equal, element by element -/
def eqL {α : Type} (q : α → α → Bool) : List α → List α → Bool
  | [], [] => true
  | a :: x, b :: y => q a b && eqL q x y
  | _, _ => false
section
variable {α : Type} {q : α → α → Bool}
theorem eqL_len : ∀ {a b : List α}, a.length ≠ b.length → eqL q a b = false
  | [], [], h => absurd rfl h
  | [], _ :: _, _ => rfl
  | _ :: _, [], _ => rfl
  | a :: x, b :: y, h => by
    have h' : x.length ≠ y.length := fun e => h (by simp [e])
    show (q a b && eqL q x y) = false
    rw [eqL_len h']; simp
theorem eqL_no : ∀ {a b : List α} {j : Nat} (ha : j < a.length) (hb : j < b.length), q a[j] b[j] = false → eqL q a b = false
  | a :: x, b :: y, 0, _, _, h => by
    have h' : q a b = false := h
    show (q a b && eqL q x y) = false
    rw [h']; rfl
  | a :: x, b :: y, j + 1, ha, hb, h => by
    have h' : q (x[j]'(by simpa using ha)) (y[j]'(by simpa using hb)) = false := h
    show (q a b && eqL q x y) = false
    rw [eqL_no _ _ h']; simp
theorem eqL_yes : ∀ {a b : List α}, a.length = b.length → (∀ j (ha : j < a.length) (hb : j < b.length), q a[j] b[j] = true) → eqL q a b = true
  | [], [], _, _ => rfl
  | a :: x, b :: y, hl, h => by
    have h0 : q a b = true := h 0 (by simp) (by simp)
    show (q a b && eqL q x y) = true
    rw [h0, eqL_yes (by simpa using hl) (fun j ha hb => h (j + 1) (by simpa using ha) (by simpa using hb))]; rfl
end
theorem eqL_map {α β : Type} (f : α → β) (q : β → β → Bool) : ∀ (a b : List α), eqL q (a.map f) (b.map f) = eqL (fun x y => q (f x) (f y)) a b
  | [], [] => rfl
  | [], _ :: _ => rfl
  | _ :: _, [] => rfl
  | a :: x, b :: y => by
    show (q (f a) (f b) && eqL q (x.map f) (y.map f)) = (q (f a) (f b) && eqL (fun x y => q (f x) (f y)) x y)
    rw [eqL_map f q x y]
theorem trip_inW (n : Nat) (g d g' d' : Int) (W : World) : (Op.equalIn (n + 2) 71 (.agg #[.int .i64 g, .int .i64 d]) (.agg #[.int .i64 g', .int .i64 d'])).run Try.prog W = .ok (g == g' && d == d') W := by
  have hS : Try.prog.underlying 71 = some (.struct (Try.prog.fieldsOf 71)) := by kernel_rfl
  have hp : Try.prog.stoodInHeld 71 = false := by kernel_rfl
  rw [run_equalIn_agg W (n + 1) 71 _ _ hS hp]
  simp only [Program.fieldsOf, Try.underlying71]
  go_simp
  by_cases h1 : g = g' <;> by_cases h2 : d = d' <;> simp [h1, h2]
def eqLg (x y : Lg) : Bool := (x.f.toList == y.f.toList) && ((x.t.toList == y.t.toList) && ((x.s == y.s) && ((x.k == y.k) && ((x.d == y.d) && ((x.r == y.r))))))
theorem lg_inW (f : ByteArray) (t : ByteArray) (s : Int) (k : Int) (d : Int) (r : Int) (f' : ByteArray) (t' : ByteArray) (s' : Int) (k' : Int) (d' : Int) (r' : Int) (W : World) : (Op.equalIn 10000 68 (.agg #[.string f, .string t, .int .i64 s, .int .i64 k, .int .i64 d, .int .i64 r]) (.agg #[.string f', .string t', .int .i64 s', .int .i64 k', .int .i64 d', .int .i64 r'])).run Try.prog W = .ok (eqLg ⟨f, t, s, k, d, r⟩ ⟨f', t', s', k', d', r'⟩) W := by
  have hS : Try.prog.underlying 68 = some (.struct (Try.prog.fieldsOf 68)) := by kernel_rfl
  have hp : Try.prog.stoodInHeld 68 = false := by kernel_rfl
  rw [show (10000 : Nat) = 9999 + 1 from rfl, run_equalIn_agg W 9999 68 _ _ hS hp]
  simp only [Program.fieldsOf, Try.underlying68]
  go_simp
  unfold eqLg
  by_cases e0 : f.toList = f'.toList <;> by_cases e1 : t.toList = t'.toList <;> by_cases e2 : s = s' <;> by_cases e3 : k = k' <;> by_cases e4 : d = d' <;> by_cases e5 : r = r' <;> simp [e0, e1, e2, e3, e4, e5]
theorem lg_neqW (x y : Lg) : ∀ W, Sem.run Try.prog (binOp BinOp.neq 68 (.agg #[.string x.f, .string x.t, .int .i64 x.s, .int .i64 x.k, .int .i64 x.d, .int .i64 x.r]) (.agg #[.string y.f, .string y.t, .int .i64 y.s, .int .i64 y.k, .int .i64 y.d, .int .i64 y.r])) W = .ok (.bool (!(eqLg x y))) W := by
  intro W
  rw [run_neq_struct, lg_inW]
  rfl
theorem lg_eqlW (x y : Lg) : ∀ W, Sem.run Try.prog (binOp BinOp.eql 68 (.agg #[.string x.f, .string x.t, .int .i64 x.s, .int .i64 x.k, .int .i64 x.d, .int .i64 x.r]) (.agg #[.string y.f, .string y.t, .int .i64 y.s, .int .i64 y.k, .int .i64 y.d, .int .i64 y.r])) W = .ok (.bool (eqLg x y)) W := by
  intro W
  rw [run_eql_struct, lg_inW]
  rfl
def eqBk (x y : Bk) : Bool := (x.h == y.h) && ((x.g == y.g) && ((x.d == y.d) && ((x.m == y.m))))
theorem bk_inW (h : Int) (g : Int) (d : Int) (m : Int) (h' : Int) (g' : Int) (d' : Int) (m' : Int) (W : World) : (Op.equalIn 10000 73 (.agg #[.int .i64 h, .int .i64 g, .int .i64 d, .int .i64 m]) (.agg #[.int .i64 h', .int .i64 g', .int .i64 d', .int .i64 m'])).run Try.prog W = .ok (eqBk ⟨h, g, d, m⟩ ⟨h', g', d', m'⟩) W := by
  have hS : Try.prog.underlying 73 = some (.struct (Try.prog.fieldsOf 73)) := by kernel_rfl
  have hp : Try.prog.stoodInHeld 73 = false := by kernel_rfl
  have hT := fun W => trip_inW 9997 g d g' d' W
  rw [show (10000 : Nat) = 9999 + 1 from rfl, run_equalIn_agg W 9999 73 _ _ hS hp]
  simp only [Program.fieldsOf, Try.underlying73]
  go_simp
  unfold eqBk
  by_cases e0 : h = h' <;> by_cases e1 : g = g' <;> by_cases e2 : d = d' <;> by_cases e3 : m = m' <;> simp [e0, e1, e2, e3]
theorem bk_neqW (x y : Bk) : ∀ W, Sem.run Try.prog (binOp BinOp.neq 73 (.agg #[.int .i64 x.h, .int .i64 x.g, .int .i64 x.d, .int .i64 x.m]) (.agg #[.int .i64 y.h, .int .i64 y.g, .int .i64 y.d, .int .i64 y.m])) W = .ok (.bool (!(eqBk x y))) W := by
  intro W
  rw [run_neq_struct, bk_inW]
  rfl
theorem bk_eqlW (x y : Bk) : ∀ W, Sem.run Try.prog (binOp BinOp.eql 73 (.agg #[.int .i64 x.h, .int .i64 x.g, .int .i64 x.d, .int .i64 x.m]) (.agg #[.int .i64 y.h, .int .i64 y.g, .int .i64 y.d, .int .i64 y.m])) W = .ok (.bool (eqBk x y)) W := by
  intro W
  rw [run_eql_struct, bk_inW]
  rfl
def eqTp (x y : Tp) : Bool := (x.g == y.g) && ((x.d == y.d))
theorem tp_inW (g : Int) (d : Int) (g' : Int) (d' : Int) (W : World) : (Op.equalIn 10000 71 (.agg #[.int .i64 g, .int .i64 d]) (.agg #[.int .i64 g', .int .i64 d'])).run Try.prog W = .ok (eqTp ⟨g, d⟩ ⟨g', d'⟩) W := by
  rw [show (10000 : Nat) = 9998 + 2 from rfl, trip_inW 9998 g d g' d' W]
  unfold eqTp
  rfl
theorem tp_neqW (x y : Tp) : ∀ W, Sem.run Try.prog (binOp BinOp.neq 71 (.agg #[.int .i64 x.g, .int .i64 x.d]) (.agg #[.int .i64 y.g, .int .i64 y.d])) W = .ok (.bool (!(eqTp x y))) W := by
  intro W
  rw [run_neq_struct, tp_inW]
  rfl
theorem tp_eqlW (x y : Tp) : ∀ W, Sem.run Try.prog (binOp BinOp.eql 71 (.agg #[.int .i64 x.g, .int .i64 x.d]) (.agg #[.int .i64 y.g, .int .i64 y.d])) W = .ok (.bool (eqTp x y)) W := by
  intro W
  rw [run_eql_struct, tp_inW]
  rfl
def eqSc (x y : Sc) : Bool := (x.h == y.h) && ((x.a == y.a) && ((x.k == y.k) && ((x.p.toList == y.p.toList) && ((x.g == y.g) && ((x.d == y.d))))))
theorem sc_inW (h : Int) (a : Int) (k : Int) (p : ByteArray) (g : Int) (d : Int) (h' : Int) (a' : Int) (k' : Int) (p' : ByteArray) (g' : Int) (d' : Int) (W : World) : (Op.equalIn 10000 75 (.agg #[.int .i64 h, .int .i64 a, .int .i64 k, .string p, .int .i64 g, .int .i64 d]) (.agg #[.int .i64 h', .int .i64 a', .int .i64 k', .string p', .int .i64 g', .int .i64 d'])).run Try.prog W = .ok (eqSc ⟨h, a, k, p, g, d⟩ ⟨h', a', k', p', g', d'⟩) W := by
  have hS : Try.prog.underlying 75 = some (.struct (Try.prog.fieldsOf 75)) := by kernel_rfl
  have hp : Try.prog.stoodInHeld 75 = false := by kernel_rfl
  have hT := fun W => trip_inW 9997 g d g' d' W
  rw [show (10000 : Nat) = 9999 + 1 from rfl, run_equalIn_agg W 9999 75 _ _ hS hp]
  simp only [Program.fieldsOf, Try.underlying75]
  go_simp
  unfold eqSc
  by_cases e0 : h = h' <;> by_cases e1 : a = a' <;> by_cases e2 : k = k' <;> by_cases e3 : p.toList = p'.toList <;> by_cases e4 : g = g' <;> by_cases e5 : d = d' <;> simp [e0, e1, e2, e3, e4, e5]
theorem sc_neqW (x y : Sc) : ∀ W, Sem.run Try.prog (binOp BinOp.neq 75 (.agg #[.int .i64 x.h, .int .i64 x.a, .int .i64 x.k, .string x.p, .int .i64 x.g, .int .i64 x.d]) (.agg #[.int .i64 y.h, .int .i64 y.a, .int .i64 y.k, .string y.p, .int .i64 y.g, .int .i64 y.d])) W = .ok (.bool (!(eqSc x y))) W := by
  intro W
  rw [run_neq_struct, sc_inW]
  rfl
theorem sc_eqlW (x y : Sc) : ∀ W, Sem.run Try.prog (binOp BinOp.eql 75 (.agg #[.int .i64 x.h, .int .i64 x.a, .int .i64 x.k, .string x.p, .int .i64 x.g, .int .i64 x.d]) (.agg #[.int .i64 y.h, .int .i64 y.a, .int .i64 y.k, .string y.p, .int .i64 y.g, .int .i64 y.d])) W = .ok (.bool (eqSc x y)) W := by
  intro W
  rw [run_eql_struct, sc_inW]
  rfl
def eqI (x y : Int) : Bool := x == y
set_option maxRecDepth 100000 in
set_option maxHeartbeats 2000000 in
theorem equal_lg (A B : Option Addr) (ca cb : Nat) (a b : List Lg) (w : World) (hA : InK 6 lgC w A a) (hB : InK 6 lgC w B b) (hn : a.length ≤ 1048576) :
    Calls Try.prog 53 #[.slice A a.length ca, .slice B b.length cb] w fun e w' => e = .returned (.bool (eqL eqLg a b)) ∧ Below w.heap.size w w' := by
  have HA := Lib.hid hA; have HB := Lib.hid hB; clear hA hB
  by_cases hl : a.length = b.length
  · have hlb : ((a.length : Int) != (b.length : Int)) = false := by simp [hl]
    go_enter Try.func53, Try.ntmps53
    go_wp2
    go_loopw [13] (fun i wr => ∃ k : Nat, i = .int .i64 k ∧ k ≤ a.length ∧ Hid (∀ j (ha : j < a.length) (hb : j < b.length), j < k → eqLg a[j] b[j] = true) ∧ Hid (Below w.heap.size w wr)) (fun i _ => a.length - (intOf i).toNat)
    case atStart => exact ⟨0, rfl, Nat.zero_le _, Lib.hid (fun j _ _ h => absurd h (by omega)), Lib.hid (Below.refl _ _)⟩
    case round =>
      obtain ⟨k, rfl, hk, hall, hbw⟩ := hrel
      by_cases hlt : (k : Int) < (a.length : Int)
      · have hka : k < a.length := by omega
        have hkb : k < b.length := by omega
        obtain ⟨ga, rfl, hga, c0, c1, c2, c3, c4, c5⟩ := (HA.out.below hbw.out).lg k hka
        obtain ⟨gb, rfl, hgb, d0, d1, d2, d3, d4, d5⟩ := (HB.out.below hbw.out).lg k hkb
        have HH := Lib.hid (fun h => eqL_no (q := eqLg) hka hkb h)
        have HN := Lib.hid (fun (h : eqLg a[k] b[k] = true) j (ha : j < a.length) (hb : j < b.length) (hjk : j < k + 1) => show eqLg a[j] b[j] = true by
          by_cases e : j = k
          · subst e; exact h
          · exact hall.out j ha hb (by omega))
        clear hall
        have hEQ := lg_neqW a[k] b[k]
        generalize a[k] = y at *
        generalize b[k] = z at *
        cases hq : eqLg y z with
        | true =>
          rw [hq] at hEQ
          have HV := Lib.hid (HN.out hq)
          clear HH HN hq
          go_wp2_with fail
          go_quiet (fail)
          go_wp2
          go_roundw
          case rel => exact ⟨k + 1, by go_num, by omega, HV, Lib.hid (by first | exact hbw.out | exact below_drewN hbw.out _)⟩
          case measure => simp [intOf]; omega
        | false =>
          rw [hq] at hEQ
          have HV := Lib.hid (HH.out hq)
          clear HH HN hq
          go_wp2_with fail
          go_quiet (fail)
          go_wp2
          go_ret
          exact ⟨by rw [HV.out]; rfl, by first | exact hbw.out | exact below_drewN hbw.out _⟩
      · obtain rfl : k = a.length := by omega
        have HV := Lib.hid (eqL_yes hl (fun j ha hb => hall.out j ha hb ha))
        clear hall
        go_wp2
        go_ret
        exact ⟨by rw [HV.out]; rfl, hbw.out⟩
  · have hlb : ((a.length : Int) != (b.length : Int)) = true := by simp; omega
    have HV := Lib.hid (eqL_len (q := eqLg) hl)
    go_enter Try.func53, Try.ntmps53
    go_wp2
    go_ret
    exact ⟨by rw [HV.out]; rfl, Below.refl _ _⟩
set_option maxRecDepth 100000 in
set_option maxHeartbeats 2000000 in
theorem equal_bk (A B : Option Addr) (ca cb : Nat) (a b : List Bk) (w : World) (hA : InK 4 bkC w A a) (hB : InK 4 bkC w B b) (hn : a.length ≤ 1048576) :
    Calls Try.prog 36 #[.slice A a.length ca, .slice B b.length cb] w fun e w' => e = .returned (.bool (eqL eqBk a b)) ∧ Below w.heap.size w w' := by
  have HA := Lib.hid hA; have HB := Lib.hid hB; clear hA hB
  by_cases hl : a.length = b.length
  · have hlb : ((a.length : Int) != (b.length : Int)) = false := by simp [hl]
    go_enter Try.func36, Try.ntmps36
    go_wp2
    go_loopw [13] (fun i wr => ∃ k : Nat, i = .int .i64 k ∧ k ≤ a.length ∧ Hid (∀ j (ha : j < a.length) (hb : j < b.length), j < k → eqBk a[j] b[j] = true) ∧ Hid (Below w.heap.size w wr)) (fun i _ => a.length - (intOf i).toNat)
    case atStart => exact ⟨0, rfl, Nat.zero_le _, Lib.hid (fun j _ _ h => absurd h (by omega)), Lib.hid (Below.refl _ _)⟩
    case round =>
      obtain ⟨k, rfl, hk, hall, hbw⟩ := hrel
      by_cases hlt : (k : Int) < (a.length : Int)
      · have hka : k < a.length := by omega
        have hkb : k < b.length := by omega
        obtain ⟨ga, rfl, hga, c0, c1, c2, c3⟩ := (HA.out.below hbw.out).bk k hka
        obtain ⟨gb, rfl, hgb, d0, d1, d2, d3⟩ := (HB.out.below hbw.out).bk k hkb
        have HH := Lib.hid (fun h => eqL_no (q := eqBk) hka hkb h)
        have HN := Lib.hid (fun (h : eqBk a[k] b[k] = true) j (ha : j < a.length) (hb : j < b.length) (hjk : j < k + 1) => show eqBk a[j] b[j] = true by
          by_cases e : j = k
          · subst e; exact h
          · exact hall.out j ha hb (by omega))
        clear hall
        have hEQ := bk_neqW a[k] b[k]
        generalize a[k] = y at *
        generalize b[k] = z at *
        cases hq : eqBk y z with
        | true =>
          rw [hq] at hEQ
          have HV := Lib.hid (HN.out hq)
          clear HH HN hq
          go_wp2_with fail
          go_quiet (fail)
          go_wp2
          go_roundw
          case rel => exact ⟨k + 1, by go_num, by omega, HV, Lib.hid (by first | exact hbw.out | exact below_drewN hbw.out _)⟩
          case measure => simp [intOf]; omega
        | false =>
          rw [hq] at hEQ
          have HV := Lib.hid (HH.out hq)
          clear HH HN hq
          go_wp2_with fail
          go_quiet (fail)
          go_wp2
          go_ret
          exact ⟨by rw [HV.out]; rfl, by first | exact hbw.out | exact below_drewN hbw.out _⟩
      · obtain rfl : k = a.length := by omega
        have HV := Lib.hid (eqL_yes hl (fun j ha hb => hall.out j ha hb ha))
        clear hall
        go_wp2
        go_ret
        exact ⟨by rw [HV.out]; rfl, hbw.out⟩
  · have hlb : ((a.length : Int) != (b.length : Int)) = true := by simp; omega
    have HV := Lib.hid (eqL_len (q := eqBk) hl)
    go_enter Try.func36, Try.ntmps36
    go_wp2
    go_ret
    exact ⟨by rw [HV.out]; rfl, Below.refl _ _⟩
set_option maxRecDepth 100000 in
set_option maxHeartbeats 2000000 in
theorem equal_tp (A B : Option Addr) (ca cb : Nat) (a b : List Tp) (w : World) (hA : InK 2 tpC w A a) (hB : InK 2 tpC w B b) (hn : a.length ≤ 1048576) :
    Calls Try.prog 37 #[.slice A a.length ca, .slice B b.length cb] w fun e w' => e = .returned (.bool (eqL eqTp a b)) ∧ Below w.heap.size w w' := by
  have HA := Lib.hid hA; have HB := Lib.hid hB; clear hA hB
  by_cases hl : a.length = b.length
  · have hlb : ((a.length : Int) != (b.length : Int)) = false := by simp [hl]
    go_enter Try.func37, Try.ntmps37
    go_wp2
    go_loopw [13] (fun i wr => ∃ k : Nat, i = .int .i64 k ∧ k ≤ a.length ∧ Hid (∀ j (ha : j < a.length) (hb : j < b.length), j < k → eqTp a[j] b[j] = true) ∧ Hid (Below w.heap.size w wr)) (fun i _ => a.length - (intOf i).toNat)
    case atStart => exact ⟨0, rfl, Nat.zero_le _, Lib.hid (fun j _ _ h => absurd h (by omega)), Lib.hid (Below.refl _ _)⟩
    case round =>
      obtain ⟨k, rfl, hk, hall, hbw⟩ := hrel
      by_cases hlt : (k : Int) < (a.length : Int)
      · have hka : k < a.length := by omega
        have hkb : k < b.length := by omega
        obtain ⟨ga, rfl, hga, c0, c1⟩ := (HA.out.below hbw.out).tp k hka
        obtain ⟨gb, rfl, hgb, d0, d1⟩ := (HB.out.below hbw.out).tp k hkb
        have HH := Lib.hid (fun h => eqL_no (q := eqTp) hka hkb h)
        have HN := Lib.hid (fun (h : eqTp a[k] b[k] = true) j (ha : j < a.length) (hb : j < b.length) (hjk : j < k + 1) => show eqTp a[j] b[j] = true by
          by_cases e : j = k
          · subst e; exact h
          · exact hall.out j ha hb (by omega))
        clear hall
        have hEQ := tp_neqW a[k] b[k]
        generalize a[k] = y at *
        generalize b[k] = z at *
        cases hq : eqTp y z with
        | true =>
          rw [hq] at hEQ
          have HV := Lib.hid (HN.out hq)
          clear HH HN hq
          go_wp2_with fail
          go_quiet (fail)
          go_wp2
          go_roundw
          case rel => exact ⟨k + 1, by go_num, by omega, HV, Lib.hid (by first | exact hbw.out | exact below_drewN hbw.out _)⟩
          case measure => simp [intOf]; omega
        | false =>
          rw [hq] at hEQ
          have HV := Lib.hid (HH.out hq)
          clear HH HN hq
          go_wp2_with fail
          go_quiet (fail)
          go_wp2
          go_ret
          exact ⟨by rw [HV.out]; rfl, by first | exact hbw.out | exact below_drewN hbw.out _⟩
      · obtain rfl : k = a.length := by omega
        have HV := Lib.hid (eqL_yes hl (fun j ha hb => hall.out j ha hb ha))
        clear hall
        go_wp2
        go_ret
        exact ⟨by rw [HV.out]; rfl, hbw.out⟩
  · have hlb : ((a.length : Int) != (b.length : Int)) = true := by simp; omega
    have HV := Lib.hid (eqL_len (q := eqTp) hl)
    go_enter Try.func37, Try.ntmps37
    go_wp2
    go_ret
    exact ⟨by rw [HV.out]; rfl, Below.refl _ _⟩
set_option maxRecDepth 100000 in
set_option maxHeartbeats 2000000 in
theorem equal_sc (A B : Option Addr) (ca cb : Nat) (a b : List Sc) (w : World) (hA : InK 6 scC w A a) (hB : InK 6 scC w B b) (hn : a.length ≤ 1048576) :
    Calls Try.prog 38 #[.slice A a.length ca, .slice B b.length cb] w fun e w' => e = .returned (.bool (eqL eqSc a b)) ∧ Below w.heap.size w w' := by
  have HA := Lib.hid hA; have HB := Lib.hid hB; clear hA hB
  by_cases hl : a.length = b.length
  · have hlb : ((a.length : Int) != (b.length : Int)) = false := by simp [hl]
    go_enter Try.func38, Try.ntmps38
    go_wp2
    go_loopw [13] (fun i wr => ∃ k : Nat, i = .int .i64 k ∧ k ≤ a.length ∧ Hid (∀ j (ha : j < a.length) (hb : j < b.length), j < k → eqSc a[j] b[j] = true) ∧ Hid (Below w.heap.size w wr)) (fun i _ => a.length - (intOf i).toNat)
    case atStart => exact ⟨0, rfl, Nat.zero_le _, Lib.hid (fun j _ _ h => absurd h (by omega)), Lib.hid (Below.refl _ _)⟩
    case round =>
      obtain ⟨k, rfl, hk, hall, hbw⟩ := hrel
      by_cases hlt : (k : Int) < (a.length : Int)
      · have hka : k < a.length := by omega
        have hkb : k < b.length := by omega
        obtain ⟨ga, rfl, hga, c0, c1, c2, c3, c4, c5⟩ := (HA.out.below hbw.out).sc k hka
        obtain ⟨gb, rfl, hgb, d0, d1, d2, d3, d4, d5⟩ := (HB.out.below hbw.out).sc k hkb
        have HH := Lib.hid (fun h => eqL_no (q := eqSc) hka hkb h)
        have HN := Lib.hid (fun (h : eqSc a[k] b[k] = true) j (ha : j < a.length) (hb : j < b.length) (hjk : j < k + 1) => show eqSc a[j] b[j] = true by
          by_cases e : j = k
          · subst e; exact h
          · exact hall.out j ha hb (by omega))
        clear hall
        have hEQ := sc_neqW a[k] b[k]
        generalize a[k] = y at *
        generalize b[k] = z at *
        cases hq : eqSc y z with
        | true =>
          rw [hq] at hEQ
          have HV := Lib.hid (HN.out hq)
          clear HH HN hq
          go_wp2_with fail
          go_quiet (fail)
          go_wp2
          go_roundw
          case rel => exact ⟨k + 1, by go_num, by omega, HV, Lib.hid (by first | exact hbw.out | exact below_drewN hbw.out _)⟩
          case measure => simp [intOf]; omega
        | false =>
          rw [hq] at hEQ
          have HV := Lib.hid (HH.out hq)
          clear HH HN hq
          go_wp2_with fail
          go_quiet (fail)
          go_wp2
          go_ret
          exact ⟨by rw [HV.out]; rfl, by first | exact hbw.out | exact below_drewN hbw.out _⟩
      · obtain rfl : k = a.length := by omega
        have HV := Lib.hid (eqL_yes hl (fun j ha hb => hall.out j ha hb ha))
        clear hall
        go_wp2
        go_ret
        exact ⟨by rw [HV.out]; rfl, hbw.out⟩
  · have hlb : ((a.length : Int) != (b.length : Int)) = true := by simp; omega
    have HV := Lib.hid (eqL_len (q := eqSc) hl)
    go_enter Try.func38, Try.ntmps38
    go_wp2
    go_ret
    exact ⟨by rw [HV.out]; rfl, Below.refl _ _⟩
set_option maxRecDepth 100000 in
set_option maxHeartbeats 2000000 in
theorem equal_i (A B : Option Addr) (ca cb : Nat) (a b : List Int) (w : World) (hA : IntsIn w A a) (hB : IntsIn w B b) (hn : a.length ≤ 1048576) :
    Calls Try.prog 39 #[.slice A a.length ca, .slice B b.length cb] w fun e w' => e = .returned (.bool (eqL eqI a b)) ∧ Below w.heap.size w w' := by
  have HA := Lib.hid hA; have HB := Lib.hid hB; clear hA hB
  by_cases hl : a.length = b.length
  · have hlb : ((a.length : Int) != (b.length : Int)) = false := by simp [hl]
    go_enter Try.func39, Try.ntmps39
    go_wp2
    go_loopw [13] (fun i wr => ∃ k : Nat, i = .int .i64 k ∧ k ≤ a.length ∧ Hid (∀ j (ha : j < a.length) (hb : j < b.length), j < k → eqI a[j] b[j] = true) ∧ Hid (Below w.heap.size w wr)) (fun i _ => a.length - (intOf i).toNat)
    case atStart => exact ⟨0, rfl, Nat.zero_le _, Lib.hid (fun j _ _ h => absurd h (by omega)), Lib.hid (Below.refl _ _)⟩
    case round =>
      obtain ⟨k, rfl, hk, hall, hbw⟩ := hrel
      by_cases hlt : (k : Int) < (a.length : Int)
      · have hka : k < a.length := by omega
        have hkb : k < b.length := by omega
        obtain ⟨ga, rfl, hga, c0⟩ := (HA.out.below hbw.out) k hka
        obtain ⟨gb, rfl, hgb, d0⟩ := (HB.out.below hbw.out) k hkb
        have HH := Lib.hid (fun h => eqL_no (q := eqI) hka hkb h)
        have HN := Lib.hid (fun (h : eqI a[k] b[k] = true) j (ha : j < a.length) (hb : j < b.length) (hjk : j < k + 1) => show eqI a[j] b[j] = true by
          by_cases e : j = k
          · subst e; exact h
          · exact hall.out j ha hb (by omega))
        clear hall
        have hEQ : (a[k] != b[k]) = !(eqI a[k] b[k]) := by unfold eqI; rfl
        generalize a[k] = y at *
        generalize b[k] = z at *
        cases hq : eqI y z with
        | true =>
          rw [hq] at hEQ
          have HV := Lib.hid (HN.out hq)
          clear HH HN hq
          go_wp2_with fail
          go_quiet (fail)
          go_wp2
          go_roundw
          case rel => exact ⟨k + 1, by go_num, by omega, HV, Lib.hid (by first | exact hbw.out | exact below_drewN hbw.out _)⟩
          case measure => simp [intOf]; omega
        | false =>
          rw [hq] at hEQ
          have HV := Lib.hid (HH.out hq)
          clear HH HN hq
          go_wp2_with fail
          go_quiet (fail)
          go_wp2
          go_ret
          exact ⟨by rw [HV.out]; rfl, by first | exact hbw.out | exact below_drewN hbw.out _⟩
      · obtain rfl : k = a.length := by omega
        have HV := Lib.hid (eqL_yes hl (fun j ha hb => hall.out j ha hb ha))
        clear hall
        go_wp2
        go_ret
        exact ⟨by rw [HV.out]; rfl, hbw.out⟩
  · have hlb : ((a.length : Int) != (b.length : Int)) = true := by simp; omega
    have HV := Lib.hid (eqL_len (q := eqI) hl)
    go_enter Try.func39, Try.ntmps39
    go_wp2
    go_ret
    exact ⟨by rw [HV.out]; rfl, Below.refl _ _⟩
end Go.Proofs.Ytgidonhihgcadaa

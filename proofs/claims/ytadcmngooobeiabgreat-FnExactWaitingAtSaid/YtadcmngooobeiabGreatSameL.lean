/- Rows compared element by element: what == says of a leg, a booking, a trip and a scan, and slices.Equal. Written by mk/same.py. -/
import Derived.Test.YtadcmngooobeiabGreatWor
import Derived.Laws.StructEq
import Derived.BigQuiet
namespace Go.Proofs.YtadcmngooobeiabGreat
open Go.RowKit
/-- two lists are equal, element by element -/
def eqL {α : Type} (q : α → α → Bool) : List α → List α → Bool
  | [], [] => true
  | a :: x, b :: y => q a b && eqL q x y
  | _, _ => false
section
variable {α : Type} {q : α → α → Bool}
theorem eqL_len : ∀ {a b : List α}, a.length ≠ b.length → eqL q a b = false
  | [], [], h => absurd rfl h
  | [], _ :: _, _ => rfl
  | _ :: _, [], _ => rfl
  | a :: x, b :: y, h => by
    have h' : x.length ≠ y.length := fun e => h (by simp [e])
    show (q a b && eqL q x y) = false
    rw [eqL_len h']; simp
theorem eqL_no : ∀ {a b : List α} {j : Nat} (ha : j < a.length) (hb : j < b.length), q a[j] b[j] = false → eqL q a b = false
  | a :: x, b :: y, 0, _, _, h => by
    have h' : q a b = false := h
    show (q a b && eqL q x y) = false
    rw [h']; rfl
  | a :: x, b :: y, j + 1, ha, hb, h => by
    have h' : q (x[j]'(by simpa using ha)) (y[j]'(by simpa using hb)) = false := h
    show (q a b && eqL q x y) = false
    rw [eqL_no _ _ h']; simp
theorem eqL_yes : ∀ {a b : List α}, a.length = b.length → (∀ j (ha : j < a.length) (hb : j < b.length), q a[j] b[j] = true) → eqL q a b = true
  | [], [], _, _ => rfl
  | a :: x, b :: y, hl, h => by
    have h0 : q a b = true := h 0 (by simp) (by simp)
    show (q a b && eqL q x y) = true
    rw [h0, eqL_yes (by simpa using hl) (fun j ha hb => h (j + 1) (by simpa using ha) (by simpa using hb))]; rfl
end
theorem eqL_map {α β : Type} (f : α → β) (q : β → β → Bool) : ∀ (a b : List α), eqL q (a.map f) (b.map f) = eqL (fun x y => q (f x) (f y)) a b
  | [], [] => rfl
  | [], _ :: _ => rfl
  | _ :: _, [] => rfl
  | a :: x, b :: y => by
    show (q (f a) (f b) && eqL q (x.map f) (y.map f)) = (q (f a) (f b) && eqL (fun x y => q (f x) (f y)) x y)
    rw [eqL_map f q x y]
theorem trip_inW (n : Nat) (g d g' d' : Int) (W : World) : (Op.equalIn (n + 2) 52 (.agg #[.int .i64 g, .int .i64 d]) (.agg #[.int .i64 g', .int .i64 d'])).run Tryz.prog W = .ok (g == g' && d == d') W := by
  have hS : Tryz.prog.underlying 52 = some (.struct (Tryz.prog.fieldsOf 52)) := by kernel_rfl
  have hp : Tryz.prog.stoodInHeld 52 = false := by kernel_rfl
  rw [run_equalIn_agg W (n + 1) 52 _ _ hS hp]
  simp only [Program.fieldsOf, Tryz.underlying52]
  go_simp
  by_cases h1 : g = g' <;> by_cases h2 : d = d' <;> simp [h1, h2]
def eqLg (x y : Lg) : Bool := (x.f.toList == y.f.toList) && ((x.t.toList == y.t.toList) && ((x.s == y.s) && ((x.k == y.k) && ((x.d == y.d) && ((x.r == y.r))))))
theorem lg_inW (f : ByteArray) (t : ByteArray) (s : Int) (k : Int) (d : Int) (r : Int) (f' : ByteArray) (t' : ByteArray) (s' : Int) (k' : Int) (d' : Int) (r' : Int) (W : World) : (Op.equalIn 10000 121 (.agg #[.string f, .string t, .int .i64 s, .int .i64 k, .int .i64 d, .int .i64 r]) (.agg #[.string f', .string t', .int .i64 s', .int .i64 k', .int .i64 d', .int .i64 r'])).run Tryz.prog W = .ok (eqLg ⟨f, t, s, k, d, r⟩ ⟨f', t', s', k', d', r'⟩) W := by
  have hS : Tryz.prog.underlying 121 = some (.struct (Tryz.prog.fieldsOf 121)) := by kernel_rfl
  have hp : Tryz.prog.stoodInHeld 121 = false := by kernel_rfl
  rw [show (10000 : Nat) = 9999 + 1 from rfl, run_equalIn_agg W 9999 121 _ _ hS hp]
  simp only [Program.fieldsOf, Tryz.underlying121]
  go_simp
  unfold eqLg
  by_cases e0 : f.toList = f'.toList <;> by_cases e1 : t.toList = t'.toList <;> by_cases e2 : s = s' <;> by_cases e3 : k = k' <;> by_cases e4 : d = d' <;> by_cases e5 : r = r' <;> simp [e0, e1, e2, e3, e4, e5]
theorem lg_neqW (x y : Lg) : ∀ W, Sem.run Tryz.prog (binOp BinOp.neq 121 (.agg #[.string x.f, .string x.t, .int .i64 x.s, .int .i64 x.k, .int .i64 x.d, .int .i64 x.r]) (.agg #[.string y.f, .string y.t, .int .i64 y.s, .int .i64 y.k, .int .i64 y.d, .int .i64 y.r])) W = .ok (.bool (!(eqLg x y))) W := by
  intro W
  rw [run_neq_struct, lg_inW]
  rfl
theorem lg_eqlW (x y : Lg) : ∀ W, Sem.run Tryz.prog (binOp BinOp.eql 121 (.agg #[.string x.f, .string x.t, .int .i64 x.s, .int .i64 x.k, .int .i64 x.d, .int .i64 x.r]) (.agg #[.string y.f, .string y.t, .int .i64 y.s, .int .i64 y.k, .int .i64 y.d, .int .i64 y.r])) W = .ok (.bool (eqLg x y)) W := by
  intro W
  rw [run_eql_struct, lg_inW]
  rfl
def eqBk (x y : Bk) : Bool := (x.h == y.h) && ((x.g == y.g) && ((x.d == y.d) && ((x.m == y.m))))
theorem bk_inW (h : Int) (g : Int) (d : Int) (m : Int) (h' : Int) (g' : Int) (d' : Int) (m' : Int) (W : World) : (Op.equalIn 10000 106 (.agg #[.int .i64 h, .int .i64 g, .int .i64 d, .int .i64 m]) (.agg #[.int .i64 h', .int .i64 g', .int .i64 d', .int .i64 m'])).run Tryz.prog W = .ok (eqBk ⟨h, g, d, m⟩ ⟨h', g', d', m'⟩) W := by
  have hS : Tryz.prog.underlying 106 = some (.struct (Tryz.prog.fieldsOf 106)) := by kernel_rfl
  have hp : Tryz.prog.stoodInHeld 106 = false := by kernel_rfl
  have hT := fun W => trip_inW 9997 g d g' d' W
  rw [show (10000 : Nat) = 9999 + 1 from rfl, run_equalIn_agg W 9999 106 _ _ hS hp]
  simp only [Program.fieldsOf, Tryz.underlying106]
  go_simp
  unfold eqBk
  by_cases e0 : h = h' <;> by_cases e1 : g = g' <;> by_cases e2 : d = d' <;> by_cases e3 : m = m' <;> simp [e0, e1, e2, e3]
theorem bk_neqW (x y : Bk) : ∀ W, Sem.run Tryz.prog (binOp BinOp.neq 106 (.agg #[.int .i64 x.h, .int .i64 x.g, .int .i64 x.d, .int .i64 x.m]) (.agg #[.int .i64 y.h, .int .i64 y.g, .int .i64 y.d, .int .i64 y.m])) W = .ok (.bool (!(eqBk x y))) W := by
  intro W
  rw [run_neq_struct, bk_inW]
  rfl
theorem bk_eqlW (x y : Bk) : ∀ W, Sem.run Tryz.prog (binOp BinOp.eql 106 (.agg #[.int .i64 x.h, .int .i64 x.g, .int .i64 x.d, .int .i64 x.m]) (.agg #[.int .i64 y.h, .int .i64 y.g, .int .i64 y.d, .int .i64 y.m])) W = .ok (.bool (eqBk x y)) W := by
  intro W
  rw [run_eql_struct, bk_inW]
  rfl
def eqTp (x y : Tp) : Bool := (x.g == y.g) && ((x.d == y.d))
theorem tp_inW (g : Int) (d : Int) (g' : Int) (d' : Int) (W : World) : (Op.equalIn 10000 52 (.agg #[.int .i64 g, .int .i64 d]) (.agg #[.int .i64 g', .int .i64 d'])).run Tryz.prog W = .ok (eqTp ⟨g, d⟩ ⟨g', d'⟩) W := by
  rw [show (10000 : Nat) = 9998 + 2 from rfl, trip_inW 9998 g d g' d' W]
  unfold eqTp
  rfl
theorem tp_neqW (x y : Tp) : ∀ W, Sem.run Tryz.prog (binOp BinOp.neq 52 (.agg #[.int .i64 x.g, .int .i64 x.d]) (.agg #[.int .i64 y.g, .int .i64 y.d])) W = .ok (.bool (!(eqTp x y))) W := by
  intro W
  rw [run_neq_struct, tp_inW]
  rfl
theorem tp_eqlW (x y : Tp) : ∀ W, Sem.run Tryz.prog (binOp BinOp.eql 52 (.agg #[.int .i64 x.g, .int .i64 x.d]) (.agg #[.int .i64 y.g, .int .i64 y.d])) W = .ok (.bool (eqTp x y)) W := by
  intro W
  rw [run_eql_struct, tp_inW]
  rfl
def eqSc (x y : Sc) : Bool := (x.h == y.h) && ((x.a == y.a) && ((x.k == y.k) && ((x.p.toList == y.p.toList) && ((x.g == y.g) && ((x.d == y.d))))))
theorem sc_inW (h : Int) (a : Int) (k : Int) (p : ByteArray) (g : Int) (d : Int) (h' : Int) (a' : Int) (k' : Int) (p' : ByteArray) (g' : Int) (d' : Int) (W : World) : (Op.equalIn 10000 102 (.agg #[.int .i64 h, .int .i64 a, .int .i64 k, .string p, .int .i64 g, .int .i64 d]) (.agg #[.int .i64 h', .int .i64 a', .int .i64 k', .string p', .int .i64 g', .int .i64 d'])).run Tryz.prog W = .ok (eqSc ⟨h, a, k, p, g, d⟩ ⟨h', a', k', p', g', d'⟩) W := by
  have hS : Tryz.prog.underlying 102 = some (.struct (Tryz.prog.fieldsOf 102)) := by kernel_rfl
  have hp : Tryz.prog.stoodInHeld 102 = false := by kernel_rfl
  have hT := fun W => trip_inW 9997 g d g' d' W
  rw [show (10000 : Nat) = 9999 + 1 from rfl, run_equalIn_agg W 9999 102 _ _ hS hp]
  simp only [Program.fieldsOf, Tryz.underlying102]
  go_simp
  unfold eqSc
  by_cases e0 : h = h' <;> by_cases e1 : a = a' <;> by_cases e2 : k = k' <;> by_cases e3 : p.toList = p'.toList <;> by_cases e4 : g = g' <;> by_cases e5 : d = d' <;> simp [e0, e1, e2, e3, e4, e5]
theorem sc_neqW (x y : Sc) : ∀ W, Sem.run Tryz.prog (binOp BinOp.neq 102 (.agg #[.int .i64 x.h, .int .i64 x.a, .int .i64 x.k, .string x.p, .int .i64 x.g, .int .i64 x.d]) (.agg #[.int .i64 y.h, .int .i64 y.a, .int .i64 y.k, .string y.p, .int .i64 y.g, .int .i64 y.d])) W = .ok (.bool (!(eqSc x y))) W := by
  intro W
  rw [run_neq_struct, sc_inW]
  rfl
theorem sc_eqlW (x y : Sc) : ∀ W, Sem.run Tryz.prog (binOp BinOp.eql 102 (.agg #[.int .i64 x.h, .int .i64 x.a, .int .i64 x.k, .string x.p, .int .i64 x.g, .int .i64 x.d]) (.agg #[.int .i64 y.h, .int .i64 y.a, .int .i64 y.k, .string y.p, .int .i64 y.g, .int .i64 y.d])) W = .ok (.bool (eqSc x y)) W := by
  intro W
  rw [run_eql_struct, sc_inW]
  rfl
def eqI (x y : Int) : Bool := x == y
end Go.Proofs.YtadcmngooobeiabGreat

/- What == and != say of two scans. -/
import Derived.Test.YtamlbiagjipedaaGreatScO
namespace Go.Proofs.YtamlbiagjipedaaGreat
open Go.RowKit
theorem trip_in (n : Nat) (g d g' d' : Int) (W : World) : (Op.equalIn (n + 2) 32 (.agg #[.int .i64 g, .int .i64 d]) (.agg #[.int .i64 g', .int .i64 d'])).run Tryz.prog W = .ok (g == g' && d == d') W := by
  have hS : Tryz.prog.underlying 32 = some (.struct (Tryz.prog.fieldsOf 32)) := by kernel_rfl
  have hp : Tryz.prog.stoodInHeld 32 = false := by kernel_rfl
  rw [run_equalIn_agg W (n + 1) 32 _ _ hS hp]
  simp only [Program.fieldsOf, Tryz.underlying32]
  go_simp
  by_cases h1 : g = g' <;> by_cases h2 : d = d' <;> simp [h1, h2]
def eqSc (x y : Sc) : Bool := (x.h == y.h) && ((x.a == y.a) && ((x.k == y.k) && ((x.p.toList == y.p.toList) && ((x.g == y.g) && (x.d == y.d)))))
theorem sc_in (h a k : Int) (p : ByteArray) (g d h' a' k' : Int) (p' : ByteArray) (g' d' : Int) (W : World) : (Op.equalIn 10000 34 (.agg #[.int .i64 h, .int .i64 a, .int .i64 k, .string p, .int .i64 g, .int .i64 d]) (.agg #[.int .i64 h', .int .i64 a', .int .i64 k', .string p', .int .i64 g', .int .i64 d'])).run Tryz.prog W = .ok (eqSc ⟨h, a, k, p, g, d⟩ ⟨h', a', k', p', g', d'⟩) W := by
  have hS : Tryz.prog.underlying 34 = some (.struct (Tryz.prog.fieldsOf 34)) := by kernel_rfl
  have hp : Tryz.prog.stoodInHeld 34 = false := by kernel_rfl
  have hT := fun W => trip_in 9997 g d g' d' W
  rw [show (10000 : Nat) = 9999 + 1 from rfl, run_equalIn_agg W 9999 34 _ _ hS hp]
  simp only [Program.fieldsOf, Tryz.underlying34]
  go_simp
  unfold eqSc
  by_cases e1 : h = h' <;> by_cases e2 : a = a' <;> by_cases e3 : k = k' <;> by_cases e4 : p.toList = p'.toList <;> by_cases e5 : g = g' <;> by_cases e6 : d = d' <;> simp [e1, e2, e3, e4, e5, e6]
theorem sc_eql (h a k : Int) (p : ByteArray) (g d h' a' k' : Int) (p' : ByteArray) (g' d' : Int) : ∀ W, Sem.run Tryz.prog (binOp BinOp.eql 34 (.agg #[.int .i64 h, .int .i64 a, .int .i64 k, .string p, .int .i64 g, .int .i64 d]) (.agg #[.int .i64 h', .int .i64 a', .int .i64 k', .string p', .int .i64 g', .int .i64 d'])) W = .ok (.bool (eqSc ⟨h, a, k, p, g, d⟩ ⟨h', a', k', p', g', d'⟩)) W := by
  intro W
  rw [run_eql_struct, sc_in]
  rfl
theorem sc_neq (h a k : Int) (p : ByteArray) (g d h' a' k' : Int) (p' : ByteArray) (g' d' : Int) : ∀ W, Sem.run Tryz.prog (binOp BinOp.neq 34 (.agg #[.int .i64 h, .int .i64 a, .int .i64 k, .string p, .int .i64 g, .int .i64 d]) (.agg #[.int .i64 h', .int .i64 a', .int .i64 k', .string p', .int .i64 g', .int .i64 d'])) W = .ok (.bool (!(eqSc ⟨h, a, k, p, g, d⟩ ⟨h', a', k', p', g', d'⟩))) W := by
  intro W
  rw [run_neq_struct, sc_in]
  rfl
end Go.Proofs.YtamlbiagjipedaaGreat

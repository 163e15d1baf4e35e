/- What == says of two trips. -/
import Derived.Test.YtamlbiagjipedaaScans
import Derived.Laws.StructEq
namespace Go.Proofs.Ytamlbiagjipedaa
open Go.RowKit
theorem trip_eql (g d g' d' : Int) : ∀ W, Sem.run Try.prog (binOp BinOp.eql 45 (.agg #[.int .i64 g, .int .i64 d]) (.agg #[.int .i64 g', .int .i64 d'])) W = .ok (.bool (g == g' && d == d')) W := by
  intro W
  have hS : Try.prog.underlying 45 = some (.struct (Try.prog.fieldsOf 45)) := by kernel_rfl
  have hp : Try.prog.stoodInHeld 45 = false := by kernel_rfl
  rw [run_eql_struct, show (10000 : Nat) = 9999 + 1 from rfl, run_equalIn_agg W 9999 45 _ _ hS hp]
  simp only [Program.fieldsOf, Try.underlying45]
  go_simp
  by_cases h1 : g = g' <;> by_cases h2 : d = d' <;> simp [h1, h2]
end Go.Proofs.Ytamlbiagjipedaa

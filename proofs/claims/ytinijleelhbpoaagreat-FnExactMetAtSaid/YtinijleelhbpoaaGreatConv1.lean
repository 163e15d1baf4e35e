/- string([]byte{x}). -/
import Derived.Test.YtinijleelhbpoaaGreatBa
import Derived.Lib.ItoaLen
namespace Go.Proofs.YtinijleelhbpoaaGreat
open Go.RowKit
/-- string([]byte{x}), the literal's row just laid -/
theorem conv_one (W : World) (x : Int) (h0 : 0 ≤ x) (h1 : x ≤ 255) :
  (convert 22 9 (.slice (some ⟨W.heap.size, 0, none⟩) 1 1)).run Tryz.prog (W.alloc (.cells #[.int .u8 x] 5)) = .ok (.string ⟨#[UInt8.ofNat x.toNat]⟩) (W.alloc (.cells #[.int .u8 x] 5)) := by
 have h := run_convert_bytes_back (P := Tryz.prog) (W.alloc (.cells #[.int .u8 x] 5)) 22 9 5 ⟨W.heap.size, 0, none⟩ 1 [UInt8.ofNat x.toNat] Tryz.underlying22 Tryz.underlying5 Tryz.underlying9 (by
  intro j hj
  obtain rfl : j = 0 := by simpa using hj
  have e : ((UInt8.ofNat x.toNat).toNat : Int) = x := by
   rw [UInt8.toNat_ofNat', Nat.mod_eq_of_lt (by simp; omega)]; omega
  have := cell_of_row (W.alloc (.cells #[.int .u8 x] 5)) W.heap.size 0 _ _ (0, 0) (heap_alloc_new W _)
  simp only [Addr.add, if_true]
  rw [this]
  simp only [List.getElem_cons_zero, e]; rfl)
 exact h
end Go.Proofs.YtinijleelhbpoaaGreat

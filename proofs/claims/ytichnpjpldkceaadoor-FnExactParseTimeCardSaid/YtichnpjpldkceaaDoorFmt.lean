/- The contract of impl.FormatInt, out of the library's. -/
import Derived.Test.YtichnpjpldkceaaDoorItoa
import Derived.Test.YtichnpjpldkceaaDoorShelf
import Derived.Test.YtichnpjpldkceaaDoorLaid
namespace Go.Proofs.YtichnpjpldkceaaDoor
open Go.RowKit Go.Sort
theorem below_grow (w : World) (os : Array Obj) : Below w.heap.size w (grow w os) := by
  refine ⟨rfl, rfl, rfl, by simp [grow], fun k hk => ?_⟩
  show (w.heap ++ os)[k]? = _
  rw [Array.getElem?_append_left hk]
theorem itoa_any (n : Int) (h : -9223372036854775808 ≤ n ∧ n ≤ 9223372036854775807) (w : World) (htab : PowIs w) :
    Calls Tryd.prog 68 #[.int .i64 n] w fun e w' => e = .returned (.string (itoaS n)) ∧ Below w.heap.size w w' := by
  refine (Tryd.strconv_Itoa n h.1 h.2 w htab).mono ?_
  rintro e w' ⟨rfl, k, os, rfl⟩
  exact ⟨rfl, (below_drewN (Below.refl _ _) k).trans (below_grow (w.drewN k) os)⟩
set_option maxHeartbeats 400000 in
theorem fmt_impl (n : Int) (h : -9223372036854775808 ≤ n ∧ n ≤ 9223372036854775807) (w : World) (htab : PowIs w) :
    Calls Tryd.prog 33 #[.int .i64 n] w fun e w' => e = .returned (.string (itoaS n)) ∧ Below w.heap.size w w' := by
  have HH := Lib.hid h; clear h
  have HT := Lib.hid htab; clear htab
  go_enter Tryd.func33, Tryd.ntmps33
  go_wp2_with fail
  refine (itoa_any n HH.out _ HT.out).mono ?_
  rintro e w1 ⟨rfl, hb⟩
  go_wp2
  go_ret
  exact ⟨rfl, hb⟩
end Go.Proofs.YtichnpjpldkceaaDoor

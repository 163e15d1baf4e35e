/- What a belief of the stored kind answers, and a belief's fields. -/
import Derived.Test.YtinijleelhbpoaaGreatBelB
namespace Go.Proofs.YtinijleelhbpoaaGreat
open Go.RowKit
theorem belP_has {l:List Lg} {zs:List Int} {x:Int} {C:List Sc} {at_:Int} {p:ByteArray}:Lib.containsS (belP l zs x C at_) p=atC l zs x C at_ p:=by
 rw [Bool.eq_iff_iff,Lib.containsS_iff]
 unfold belP
 rw [List.mem_filter]
 constructor
 ·exact fun h=>h.2
 ·intro h
  refine ⟨?_,h⟩
  unfold atC mayAt at h
  by_cases hi:idxI (placesB l) p < 0
  ·rw [if_pos (Or.inr (Or.inr hi))] at h;cases h
  ·exact (Lib.idxOfS_nonneg_iff _ _).1 (show 0≤idxI (placesB l) p by omega)
theorem fld0 (v1 v2:Value):∀ w:World,(Instr.field 56 (.agg #[v1,v2]) 0).run Tryz.prog w=.ok v1 w:=fun _=>by kernel_rfl
theorem fld1 (v1 v2:Value):∀ w:World,(Instr.field 56 (.agg #[v1,v2]) 1).run Tryz.prog w=.ok v2 w:=fun _=>by kernel_rfl
end Go.Proofs.YtinijleelhbpoaaGreat

/- For every argument, the law FnExactItemsIn answers true and leaves its arguments as they were. No condition. -/
import Derived.Test.YtiplbfpkfhlhcaaFnExactItemsIn
import Derived.Test.YtiplbfpkfhlhcaaHeadA
import Derived.Test.YtiplbfpkfhlhcaaHeadB
import Derived.Test.YtiplbfpkfhlhcaaHeadC
import Derived.Test.YtiplbfpkfhlhcaaOpenC
namespace Go.Proofs.Ytiplbfpkfhlhcaa.fnExactItemsIn
open Go.ChangeShapes Go.WideShapes Go.ChangeAt Go.RowKit
open Go.ChangeMaps (open_string shut_string)

set_option maxRecDepth 100000 in
theorem lifted (os : Os) (started : os.Started) (H : Type) (enc : TypeId × Value → H) :
    ReturnsInHanded {} Try.checked os 10 .any (Rows.fnExactItemsInSpec.pre6 enc Try.prog Try.f10 Rows.fnExactItemsInRow.domain false) (Rows.fnExactItemsInSpec.post enc Try.prog Try.f10 false true false false) := by
  refine returnsInHanded_of_change (C := Try.checked) Try.own started (by kernel_rfl) Try.func10
    (ChangeSpec.witness6 (enc := enc) (C := Try.checked) false ⟨#[], #[.agg #[.slice none 0 0, .slice none 0 0, .slice none 0 0, .slice none 0 0, .int .i64 0]], []⟩ 8 (by kernel_rfl) (by kernel_rfl) (by kernel_rfl) (by kernel_rfl)) ?_
  intro W base args ds gs before hval0 hW _ _
  have hval : ∀ (j : Nat) t v, Try.f10.params[j]? = some t → args[j]? = some v → Value.okWide Try.prog W .any base t v := hval0
  have hW' := hW
  obtain ⟨p, q, hA0, hV, rfl, hfz, hnd⟩ := hW
  have hA : DataW.TrodAll enc Try.prog W 0 (fun _ => true) true Try.f10.params.toList args.toList ds p := hA0
  rw [Try.params10] at hA hval
  obtain ⟨v0, d0, rfl, rfl, h0⟩ := trodAll_one hA
  obtain ⟨cA0, cka0, cb0, cB0, ckb0, cL0, cD0, ckd0, cM0, cE0, cke0, cp0, cn0, rfl, hr0, hp0, hm0⟩ := open_cen (P := Try.prog) Try.underlying27 (by kernel_rfl) ⟨rfl, rfl, rfl, rfl, rfl⟩ ⟨by kernel_rfl, by kernel_rfl, by kernel_rfl, by kernel_rfl, by kernel_rfl⟩ ⟨Try.underlying22, Try.underlying58, by kernel_rfl, ⟨⟨rfl, by kernel_rfl, Try.underlying3⟩, ⟨rfl, by kernel_rfl, Try.underlying3⟩⟩⟩ Try.underlying23 Try.underlying108 (by kernel_rfl) ⟨⟨rfl, by kernel_rfl, Try.underlying3⟩, ⟨rfl, by kernel_rfl, Try.underlying3⟩, rfl, by kernel_rfl, ⟨Try.underlying22, Try.underlying58, by kernel_rfl, ⟨⟨rfl, by kernel_rfl, Try.underlying3⟩, ⟨rfl, by kernel_rfl, Try.underlying3⟩⟩⟩⟩ Try.underlying24 Try.underlying111 (by kernel_rfl) ⟨⟨rfl, by kernel_rfl, Try.underlying3⟩, rfl, by kernel_rfl, ⟨Try.underlying22, Try.underlying58, by kernel_rfl, ⟨⟨rfl, by kernel_rfl, Try.underlying3⟩, ⟨rfl, by kernel_rfl, Try.underlying3⟩⟩⟩⟩ Try.underlying25 Try.underlying3 (by kernel_rfl) Try.underlying3 (hval 0 27 v0 rfl rfl) h0
  refine (walk cA0 cka0 cb0 cB0 ckb0 cL0 cD0 ckd0 cM0 cE0 cke0 cp0 cn0 W hr0 hp0 hm0).mono fun e W' ⟨he, hb⟩ => ?_
  subst he
  exact ⟨_, rfl, law_post (P := Try.prog) Try.laidOut (by kernel_rfl) rfl Try.underlying4 rfl ⟨rfl, rfl, rfl⟩ hW' hb⟩

set_option maxRecDepth 100000 in
theorem closed : joinedFacts Try.prog 10 Try.f10 Rows.fnExactItemsInSpec Rows.fnExactItemsInRow = true := by
  unfold joinedFacts
  rw [enter_ok, lifts_ok, make_ok]
  kernel_rfl

theorem proved : Rows.FnExactItemsInSaid :=
  OpenClaim.holds_of_wide 10 Try.f10 rfl rfl rfl rfl rfl rfl rfl ⟨rfl, rfl, rfl, rfl, rfl⟩ rfl rfl rfl rfl rfl (by kernel_rfl) Try.func10 closed
    (of_decide_eq_true (by kernel_rfl)) (by unfold Func.isWrapper; first | (rw [if_pos (by decide +kernel)]; kernel_rfl) | (rw [if_neg (by decide +kernel)]; exact ⟨rfl, rfl⟩))
    (fun os started H enc _ => lifted os started H enc)
end Go.Proofs.Ytiplbfpkfhlhcaa.fnExactItemsIn

/- For every argument, the law FnExactSpotBefore answers true and leaves its arguments as they were. No condition. -/
import Derived.Test.YtamlbiagjipedaaFnExactSpotBefore
import Derived.Test.YtamlbiagjipedaaHeadA
import Derived.Test.YtamlbiagjipedaaHeadB
import Derived.Test.YtamlbiagjipedaaHeadC
import Derived.Test.YtamlbiagjipedaaBb
import Derived.Test.YtamlbiagjipedaaOpenScans
namespace Go.Proofs.Ytamlbiagjipedaa.fnExactSpotBefore
open Go.ChangeShapes Go.WideShapes Go.ChangeAt Go.RowKit
open Go.ChangeMaps (open_string shut_string)

set_option maxRecDepth 100000 in
theorem lifted (os : Os) (started : os.Started) (H : Type) (enc : TypeId × Value → H) :
    ReturnsInHanded {} Try.checked os 8 .any (Rows.fnExactSpotBeforeSpec.pre6 enc Try.prog Try.f8 Rows.fnExactSpotBeforeRow.domain false) (Rows.fnExactSpotBeforeSpec.post enc Try.prog Try.f8 false true false false) := by
  refine returnsInHanded_of_change (C := Try.checked) Try.own started (by kernel_rfl) Try.func8
    (ChangeSpec.witness6 (enc := enc) (C := Try.checked) false ⟨#[], #[.agg #[.slice none 0 0, .slice none 0 0, .int .i64 0], .agg #[.int .i64 0, .int .i64 0, .int .i64 0, .string ⟨#[]⟩, .int .i64 0, .int .i64 0]], []⟩ 8 (by kernel_rfl) (by kernel_rfl) (by kernel_rfl) (by kernel_rfl)) ?_
  intro W base args ds gs before hval0 hW _ _
  have hval : ∀ (j : Nat) t v, Try.f8.params[j]? = some t → args[j]? = some v → Value.okWide Try.prog W .any base t v := hval0
  have hW' := hW
  obtain ⟨p, q, hA0, hV, rfl, hfz, hnd⟩ := hW
  have hA : DataW.TrodAll enc Try.prog W 0 (fun _ => true) true Try.f8.params.toList args.toList ds p := hA0
  rw [Try.params8] at hA hval
  obtain ⟨v0, v1, d0, d1, p0, p1, rfl, rfl, rfl, h0, h1⟩ := trodAll_two hA
  obtain ⟨A0, ca0, l0, D0, cd0, zs0, x0, rfl, hr0, hd0, hq0⟩ := open_net (P := Try.prog) Try.underlying25 (by kernel_rfl) ⟨rfl, rfl, rfl⟩ ⟨by kernel_rfl, by kernel_rfl, by kernel_rfl⟩ Try.underlying22 Try.underlying92 (by kernel_rfl) ⟨⟨rfl, by kernel_rfl, Try.underlying9⟩, ⟨rfl, by kernel_rfl, Try.underlying9⟩, ⟨rfl, by kernel_rfl, Try.underlying3⟩, ⟨rfl, by kernel_rfl, Try.underlying3⟩, ⟨rfl, by kernel_rfl, Try.underlying3⟩, ⟨rfl, by kernel_rfl, Try.underlying3⟩⟩ Try.underlying23 Try.underlying3 (by kernel_rfl) Try.underlying3 (hval 0 25 v0 rfl rfl) h0
  obtain ⟨r1, rfl, wp1⟩ := open_sc (P := Try.prog) Try.underlying42 (by kernel_rfl) ⟨⟨rfl, by kernel_rfl, Try.underlying3⟩, ⟨rfl, by kernel_rfl, Try.underlying3⟩, ⟨rfl, by kernel_rfl, Try.underlying3⟩, ⟨rfl, by kernel_rfl, Try.underlying9⟩, ⟨rfl, by kernel_rfl, Try.underlying40⟩, ⟨rfl, by kernel_rfl, Try.underlying3⟩, ⟨rfl, by kernel_rfl, Try.underlying3⟩⟩ (hval 1 42 v1 rfl rfl) h1
  refine (walk A0 ca0 l0 D0 cd0 zs0 x0 r1.h r1.a r1.k r1.p r1.g r1.d W hr0 hd0 hq0 wp1).mono fun e W' ⟨he, hb⟩ => ?_
  subst he
  exact ⟨_, rfl, law_post (P := Try.prog) Try.laidOut (by kernel_rfl) rfl Try.underlying4 rfl ⟨rfl, rfl, rfl⟩ hW' hb⟩

set_option maxRecDepth 100000 in
theorem closed : joinedFacts Try.prog 8 Try.f8 Rows.fnExactSpotBeforeSpec Rows.fnExactSpotBeforeRow = true := by
  unfold joinedFacts
  rw [enter_ok, lifts_ok, make_ok]
  kernel_rfl

theorem proved : Rows.FnExactSpotBeforeSaid :=
  OpenClaim.holds_of_wide 8 Try.f8 rfl rfl rfl rfl rfl rfl rfl ⟨rfl, rfl, rfl, rfl, rfl⟩ rfl rfl rfl rfl rfl (by kernel_rfl) Try.func8 closed
    (of_decide_eq_true (by kernel_rfl)) (by unfold Func.isWrapper; first | (rw [if_pos (by decide +kernel)]; kernel_rfl) | (rw [if_neg (by decide +kernel)]; exact ⟨rfl, rfl⟩))
    (fun os started H enc _ => lifted os started H enc)
end Go.Proofs.Ytamlbiagjipedaa.fnExactSpotBefore

/- For every argument, the law FnExactWaitingAt answers true and leaves its arguments as they were. No condition. -/
import Derived.Test.YtadcmngooobeiabGreatFnExactWaitingAt
import Derived.Test.YtadcmngooobeiabGreatBf
import Derived.Test.YtadcmngooobeiabGreatBa
import Derived.Test.YtadcmngooobeiabGreatOpenWor
namespace Go.Proofs.YtadcmngooobeiabGreat.fnExactWaitingAt
open Go.ChangeShapes Go.WideShapes Go.ChangeAt Go.RowKit
open Go.ChangeMaps (open_string shut_string)

set_option maxRecDepth 100000 in
theorem lifted (os : Os) (started : os.Started) (H : Type) (enc : TypeId × Value → H) :
    ReturnsInHanded {} Tryz.checked os 3 .any (Rows.fnExactWaitingAtSpec.pre6 enc Tryz.prog Tryz.f3 Rows.fnExactWaitingAtRow.domain false) (Rows.fnExactWaitingAtSpec.post enc Tryz.prog Tryz.f3 false true false false) := by
  refine returnsInHanded_of_change (C := Tryz.checked) Tryz.own started (by kernel_rfl) Tryz.func3
    (ChangeSpec.witness6 (enc := enc) (C := Tryz.checked) false ⟨#[], #[.agg #[.slice none 0 0, .slice none 0 0, .int .i64 0, .slice none 0 0, .slice none 0 0, .slice none 0 0, .int .i64 0, .slice none 0 0, .slice none 0 0, .int .i64 0], .string ⟨#[]⟩], []⟩ 8 (by kernel_rfl) (by kernel_rfl) (by kernel_rfl) (by kernel_rfl)) ?_
  intro W base args ds gs before hval0 hW _ _
  have hval : ∀ (j : Nat) t v, Tryz.f3.params[j]? = some t → args[j]? = some v → Value.okWide Tryz.prog W .any base t v := hval0
  have hW' := hW
  obtain ⟨p, q, hA0, hV, rfl, hfz, hnd⟩ := hW
  have hA : DataW.TrodAll enc Tryz.prog W 0 (fun _ => true) true Tryz.f3.params.toList args.toList ds p := hA0
  rw [Tryz.params3] at hA hval
  obtain ⟨v0, v1, d0, d1, p0, p1, rfl, rfl, rfl, h0, h1⟩ := trodAll_two hA
  obtain ⟨x0, rfl, hr0, hm0⟩ := open_wor (P := Tryz.prog) Tryz.underlying31 (by kernel_rfl) ⟨rfl, rfl, rfl, rfl, rfl, rfl, rfl, rfl⟩ ⟨by kernel_rfl, by kernel_rfl, by kernel_rfl, by kernel_rfl, by kernel_rfl, by kernel_rfl, by kernel_rfl, by kernel_rfl⟩ Tryz.underlying25 ⟨rfl, rfl, rfl⟩ ⟨by kernel_rfl, by kernel_rfl, by kernel_rfl⟩ Tryz.underlying22 Tryz.underlying127 (by kernel_rfl) ⟨⟨rfl, by kernel_rfl, Tryz.underlying9⟩, ⟨rfl, by kernel_rfl, Tryz.underlying9⟩, ⟨rfl, by kernel_rfl, Tryz.underlying3⟩, ⟨rfl, by kernel_rfl, Tryz.underlying3⟩, ⟨rfl, by kernel_rfl, Tryz.underlying3⟩, ⟨rfl, by kernel_rfl, Tryz.underlying3⟩⟩ Tryz.underlying23 Tryz.underlying3 (by kernel_rfl) Tryz.underlying3 Tryz.underlying26 Tryz.underlying93 (by kernel_rfl) ⟨⟨rfl, by kernel_rfl, Tryz.underlying9⟩, ⟨rfl, by kernel_rfl, Tryz.underlying9⟩, ⟨rfl, by kernel_rfl, Tryz.underlying3⟩, ⟨rfl, by kernel_rfl, Tryz.underlying3⟩, ⟨rfl, by kernel_rfl, Tryz.underlying3⟩, ⟨rfl, by kernel_rfl, Tryz.underlying3⟩, ⟨rfl, by kernel_rfl, Tryz.underlying28, Tryz.underlying50, by kernel_rfl, ⟨⟨rfl, by kernel_rfl, Tryz.underlying3⟩, ⟨rfl, by kernel_rfl, Tryz.underlying3⟩⟩⟩, ⟨rfl, by kernel_rfl, Tryz.underlying3⟩, ⟨rfl, by kernel_rfl, Tryz.underlying3⟩, ⟨rfl, by kernel_rfl, Tryz.underlying9⟩, ⟨rfl, by kernel_rfl, Tryz.underlying3⟩⟩ Tryz.underlying27 Tryz.underlying109 (by kernel_rfl) ⟨⟨rfl, by kernel_rfl, Tryz.underlying3⟩, ⟨rfl, by kernel_rfl, Tryz.underlying50⟩, ⟨rfl, by kernel_rfl, Tryz.underlying3⟩, ⟨rfl, by kernel_rfl, Tryz.underlying3⟩, ⟨rfl, by kernel_rfl, Tryz.underlying3⟩⟩ Tryz.underlying28 Tryz.underlying3 Tryz.underlying29 Tryz.underlying96 (by kernel_rfl) ⟨⟨rfl, by kernel_rfl, Tryz.underlying3⟩, ⟨rfl, by kernel_rfl, Tryz.underlying3⟩, ⟨rfl, by kernel_rfl, Tryz.underlying3⟩, ⟨rfl, by kernel_rfl, Tryz.underlying9⟩, ⟨rfl, by kernel_rfl, Tryz.underlying50⟩, ⟨rfl, by kernel_rfl, Tryz.underlying3⟩, ⟨rfl, by kernel_rfl, Tryz.underlying3⟩⟩ Tryz.underlying23 Tryz.underlying3 (hval 0 31 v0 rfl rfl) h0
  obtain ⟨s1, rfl, rfl, rfl, ws1⟩ := open_string Tryz.underlying9 (hval 1 9 v1 rfl rfl) h1
  refine (walk x0 s1 W hr0 hm0 ws1).mono fun e W' ⟨he, hb⟩ => ?_
  subst he
  exact ⟨_, rfl, law_post (P := Tryz.prog) Tryz.laidOut (by kernel_rfl) rfl Tryz.underlying4 rfl ⟨rfl, rfl, rfl⟩ hW' hb⟩

set_option maxRecDepth 100000 in
theorem closed : joinedFacts Tryz.prog 3 Tryz.f3 Rows.fnExactWaitingAtSpec Rows.fnExactWaitingAtRow = true := by
  unfold joinedFacts
  rw [enter_ok, lifts_ok, make_ok]
  kernel_rfl

theorem proved : Rows.FnExactWaitingAtSaid :=
  OpenClaim.holds_of_wide 3 Tryz.f3 rfl rfl rfl rfl rfl rfl rfl ⟨rfl, rfl, rfl, rfl, rfl⟩ rfl rfl rfl rfl rfl (by kernel_rfl) Tryz.func3 closed
    (of_decide_eq_true (by kernel_rfl)) (by unfold Func.isWrapper; first | (rw [if_pos (by decide +kernel)]; kernel_rfl) | (rw [if_neg (by decide +kernel)]; exact ⟨rfl, rfl⟩))
    (fun os started H enc _ => lifted os started H enc)
end Go.Proofs.YtadcmngooobeiabGreat.fnExactWaitingAt

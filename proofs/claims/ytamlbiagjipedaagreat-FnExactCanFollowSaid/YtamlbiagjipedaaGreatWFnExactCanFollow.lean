/- For every argument, the law FnExactCanFollow answers true and leaves its arguments as they were. No condition. -/
import Derived.Test.YtamlbiagjipedaaGreatFnExactCanFollow
import Derived.Carry
import Derived.Test.YtamlbiagjipedaaGreatBf
import Derived.Test.YtamlbiagjipedaaGreatBb
import Derived.Test.YtamlbiagjipedaaGreatBg
namespace Go.Proofs.YtamlbiagjipedaaGreat.fnExactCanFollow
open Go.ChangeShapes Go.WideShapes Go.ChangeAt Go.RowKit
open Go.ChangeMaps (open_string shut_string)

set_option maxRecDepth 100000 in
theorem lifted (os : Os) (started : os.Started) (H : Type) (enc : TypeId × Value → H) :
    ReturnsInHanded {} Tryz.checked os 9 .any (Rows.fnExactCanFollowSpec.pre6 enc Tryz.prog Tryz.f9 Rows.fnExactCanFollowRow.domain false) (Rows.fnExactCanFollowSpec.post enc Tryz.prog Tryz.f9 false true false false) := by
  refine returnsInHanded_of_change (C := Tryz.checked) Tryz.own started (by kernel_rfl) Tryz.func9
    (ChangeSpec.witness6 (enc := enc) (C := Tryz.checked) false ⟨#[], #[.agg #[.slice none 0 0, .slice none 0 0, .int .i64 0], .agg #[.int .i64 0, .int .i64 0, .int .i64 0, .string ⟨#[]⟩, .int .i64 0, .int .i64 0], .agg #[.int .i64 0, .int .i64 0, .int .i64 0, .string ⟨#[]⟩, .int .i64 0, .int .i64 0]], []⟩ 8 (by kernel_rfl) (by kernel_rfl) (by kernel_rfl) (by kernel_rfl)) ?_
  intro W base args ds gs before hval0 hW _ _
  have hval : ∀ (j : Nat) t v, Tryz.f9.params[j]? = some t → args[j]? = some v → Value.okWide Tryz.prog W .any base t v := hval0
  have hW' := hW
  obtain ⟨p, q, hA0, hV, rfl, hfz, hnd⟩ := hW
  have hA : DataW.TrodAll enc Tryz.prog W 0 (fun _ => true) true Tryz.f9.params.toList args.toList ds p := hA0
  rw [Tryz.params9] at hA hval
  obtain ⟨v0, v1, v2, d0, d1, d2, p0, p1, p2, rfl, rfl, rfl, h0, h1, h2⟩ := trodAll_three hA
  obtain ⟨A0, ca0, l0, D0, cd0, zs0, x0, rfl, hr0, hd0, hq0⟩ := open_net (P := Tryz.prog) Tryz.underlying56 (by kernel_rfl) ⟨rfl, rfl, rfl⟩ ⟨by kernel_rfl, by kernel_rfl, by kernel_rfl⟩ Tryz.underlying54 Tryz.underlying147 (by kernel_rfl) ⟨⟨rfl, by kernel_rfl, Tryz.underlying9⟩, ⟨rfl, by kernel_rfl, Tryz.underlying9⟩, ⟨rfl, by kernel_rfl, Tryz.underlying3⟩, ⟨rfl, by kernel_rfl, Tryz.underlying3⟩, ⟨rfl, by kernel_rfl, Tryz.underlying3⟩, ⟨rfl, by kernel_rfl, Tryz.underlying3⟩⟩ Tryz.underlying25 Tryz.underlying3 (by kernel_rfl) Tryz.underlying3 (hval 0 56 v0 rfl rfl) h0
  obtain ⟨r1, rfl, wp1⟩ := open_sc (P := Tryz.prog) Tryz.underlying69 (by kernel_rfl) ⟨⟨rfl, by kernel_rfl, Tryz.underlying3⟩, ⟨rfl, by kernel_rfl, Tryz.underlying3⟩, ⟨rfl, by kernel_rfl, Tryz.underlying3⟩, ⟨rfl, by kernel_rfl, Tryz.underlying9⟩, ⟨rfl, by kernel_rfl, Tryz.underlying67⟩, ⟨rfl, by kernel_rfl, Tryz.underlying3⟩, ⟨rfl, by kernel_rfl, Tryz.underlying3⟩⟩ (hval 1 69 v1 rfl rfl) h1
  obtain ⟨r2, rfl, wp2⟩ := open_sc (P := Tryz.prog) Tryz.underlying69 (by kernel_rfl) ⟨⟨rfl, by kernel_rfl, Tryz.underlying3⟩, ⟨rfl, by kernel_rfl, Tryz.underlying3⟩, ⟨rfl, by kernel_rfl, Tryz.underlying3⟩, ⟨rfl, by kernel_rfl, Tryz.underlying9⟩, ⟨rfl, by kernel_rfl, Tryz.underlying67⟩, ⟨rfl, by kernel_rfl, Tryz.underlying3⟩, ⟨rfl, by kernel_rfl, Tryz.underlying3⟩⟩ (hval 2 69 v2 rfl rfl) h2
  refine (walk A0 ca0 l0 D0 cd0 zs0 x0 r1.h r1.a r1.k r1.p r1.g r1.d r2.h r2.a r2.k r2.p r2.g r2.d W hr0 hd0 hq0 wp1 wp2).mono fun e W' ⟨he, hb⟩ => ?_
  subst he
  exact ⟨_, rfl, law_post (P := Tryz.prog) Tryz.laidOut (by kernel_rfl) rfl Tryz.underlying4 rfl ⟨rfl, rfl, rfl⟩ hW' hb⟩

set_option maxRecDepth 100000 in
theorem closed : joinedFacts Tryz.prog 9 Tryz.f9 Rows.fnExactCanFollowSpec Rows.fnExactCanFollowRow = true := by
  unfold joinedFacts
  rw [enter_ok, lifts_ok, make_ok]
  kernel_rfl

theorem proved : Rows.FnExactCanFollowSaid :=
  OpenClaim.holds_of_wide 9 Tryz.f9 rfl rfl rfl rfl rfl rfl rfl ⟨rfl, rfl, rfl, rfl, rfl⟩ rfl rfl rfl rfl rfl (by kernel_rfl) Tryz.func9 closed
    (of_decide_eq_true (by kernel_rfl)) (by unfold Func.isWrapper; first | (rw [if_pos (by decide +kernel)]; kernel_rfl) | (rw [if_neg (by decide +kernel)]; exact ⟨rfl, rfl⟩))
    (fun os started H enc _ => lifted os started H enc)
end Go.Proofs.YtamlbiagjipedaaGreat.fnExactCanFollow

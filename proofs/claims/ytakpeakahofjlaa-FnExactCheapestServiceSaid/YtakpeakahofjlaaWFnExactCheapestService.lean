/- For every argument, the law FnExactCheapestService answers true and leaves its arguments as they were. No condition. -/
import Derived.Test.YtakpeakahofjlaaFnExactCheapestService
import Derived.Test.YtakpeakahofjlaaOpenP
import Derived.Test.YtakpeakahofjlaaOpenR
import Derived.Test.YtakpeakahofjlaaOpenZ
namespace Go.Proofs.Ytakpeakahofjlaa.fnExactCheapestService
open Go.ChangeShapes Go.WideShapes Go.ChangeAt Go.RowKit
open Go.ChangeMaps (open_string shut_string)

set_option maxRecDepth 100000 in
theorem lifted (os : Os) (started : os.Started) (H : Type) (enc : TypeId × Value → H) :
    ReturnsInHanded {} Try.checked os 16 .any (Rows.fnExactCheapestServiceSpec.pre6 enc Try.prog Try.f16 Rows.fnExactCheapestServiceRow.domain false) (Rows.fnExactCheapestServiceSpec.post enc Try.prog Try.f16 false true false false) := by
  refine returnsInHanded_of_change (C := Try.checked) Try.own started (by kernel_rfl) Try.func16
    (ChangeSpec.witness6 (enc := enc) (C := Try.checked) false ⟨#[], #[.slice none 0 0, .slice none 0 0, .agg #[.int .i64 0, .int .i64 0, .string ⟨#[]⟩, .string ⟨#[]⟩, .int .i64 0, .slice none 0 0, .int .i64 0]], []⟩ 8 (by kernel_rfl) (by kernel_rfl) (by kernel_rfl) (by kernel_rfl)) ?_
  intro W base args ds gs before hval0 hW _ _
  have hval : ∀ (j : Nat) t v, Try.f16.params[j]? = some t → args[j]? = some v → Value.okWide Try.prog W .any base t v := hval0
  have hW' := hW
  obtain ⟨p, q, hA0, hV, rfl, hfz, hnd⟩ := hW
  have hA : DataW.TrodAll enc Try.prog W 0 (fun _ => true) true Try.f16.params.toList args.toList ds p := hA0
  rw [Try.params16] at hA hval
  obtain ⟨v0, v1, v2, d0, d1, d2, p0, p1, p2, rfl, rfl, rfl, h0, h1, h2⟩ := trodAll_three hA
  obtain ⟨A0, c0, z0, rfl, hr0, hm0⟩ := open_zoneS Try.underlying61 Try.underlying96 (by kernel_rfl) rfl rfl (by kernel_rfl) (by kernel_rfl) Try.underlying9 Try.underlying9 (hval 0 61 v0 rfl rfl) h0
  obtain ⟨A1, c1, z1, rfl, hr1, hm1⟩ := open_rateS Try.underlying67 Try.underlying101 (by kernel_rfl) ⟨rfl, rfl, rfl, rfl⟩ ⟨by kernel_rfl, by kernel_rfl, by kernel_rfl, by kernel_rfl⟩ ⟨Try.underlying3, Try.underlying3, Try.underlying3, Try.underlying3⟩ (hval 1 67 v1 rfl rfl) h1
  obtain ⟨q2, A2, c2, z2, rfl, hr2, hq2⟩ := open_parcel (P := Try.prog) Try.underlying54 (by kernel_rfl) ⟨rfl, rfl, rfl, rfl, rfl⟩ ⟨by kernel_rfl, by kernel_rfl, by kernel_rfl, by kernel_rfl, by kernel_rfl⟩ rfl Try.underlying52 ⟨rfl, rfl, rfl⟩ ⟨by kernel_rfl, by kernel_rfl, by kernel_rfl⟩ Try.underlying3 Try.underlying3 Try.underlying9 Try.underlying9 Try.underlying3 Try.underlying24 Try.underlying3 Try.underlying3 i64_cells (hval 2 54 v2 rfl rfl) h2
  refine (walk A0 c0 z0 W hr0 hm0 A1 c1 z1 hr1 hm1 q2.a q2.b q2.t q2.f q2.wt A2 c2 z2 q2.v hr2 hq2).mono fun e W' ⟨he, hb⟩ => ?_
  subst he
  exact ⟨_, rfl, law_post (P := Try.prog) Try.laidOut (by kernel_rfl) rfl Try.underlying4 rfl ⟨rfl, rfl, rfl⟩ hW' hb⟩

theorem proved : Rows.FnExactCheapestServiceSaid :=
  OpenClaim.holds_of_wide 16 Try.f16 rfl rfl rfl rfl rfl rfl rfl ⟨rfl, rfl, rfl, rfl, rfl⟩ rfl rfl rfl rfl rfl (by kernel_rfl) Try.func16 (by kernel_rfl)
    (of_decide_eq_true (by kernel_rfl)) (by unfold Func.isWrapper; first | (rw [if_pos (by decide +kernel)]; kernel_rfl) | (rw [if_neg (by decide +kernel)]; exact ⟨rfl, rfl⟩))
    (fun os started H enc _ => lifted os started H enc)
end Go.Proofs.Ytakpeakahofjlaa.fnExactCheapestService

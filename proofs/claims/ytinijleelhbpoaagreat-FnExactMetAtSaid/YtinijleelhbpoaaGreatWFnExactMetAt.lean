/- For every argument, the law FnExactMetAt answers true and leaves its arguments as they were. No condition. -/
import Derived.Test.YtinijleelhbpoaaGreatFnExactMetAt
import Derived.Carry
import Derived.Test.YtinijleelhbpoaaGreatBf
import Derived.Test.YtinijleelhbpoaaGreatBa
import Derived.Test.YtinijleelhbpoaaGreatBb
import Derived.Test.YtinijleelhbpoaaGreatBg
namespace Go.Proofs.YtinijleelhbpoaaGreat.fnExactMetAt
open Go.ChangeShapes Go.WideShapes Go.ChangeAt Go.RowKit
open Go.ChangeMaps (open_string shut_string)

set_option maxRecDepth 100000 in
theorem lifted (os:Os) (started:os.Started) (H:Type) (enc:TypeId × Value→H) :
  ReturnsInHanded {} Tryz.checked os 14 .any (Rows.fnExactMetAtSpec.pre6 enc Tryz.prog Tryz.f14 Rows.fnExactMetAtRow.domain false) (Rows.fnExactMetAtSpec.post enc Tryz.prog Tryz.f14 false true false false):=by
 refine returnsInHanded_of_change (C:=Tryz.checked) Tryz.own started (by kernel_rfl) Tryz.func14
  (ChangeSpec.witness6 (enc:=enc) (C:=Tryz.checked) false ⟨#[],#[.agg #[.slice none 0 0,.slice none 0 0,.int .i64 0],.slice none 0 0,.int .i64 0,.int .i64 0,.int .i64 0],[]⟩ 8 (by kernel_rfl) (by kernel_rfl) (by kernel_rfl) (by kernel_rfl)) ?_
 intro W base args ds gs before hval0 hW _ _
 have hval:∀ (j:Nat) t v,Tryz.f14.params[j]?=some t→args[j]?=some v→Value.okWide Tryz.prog W .any base t v:=hval0
 have hW':=hW
 obtain ⟨p,q,hA0,hV,rfl,hfz,hnd⟩:=hW
 have hA:DataW.TrodAll enc Tryz.prog W 0 (fun _=>true) true Tryz.f14.params.toList args.toList ds p:=hA0
 rw [Tryz.params14] at hA hval
 obtain ⟨v0,vs0,d0,ds0,p0,q0,hargs,rfl,rfl,h0,hrest0⟩:=trodAll_cons hA
 obtain ⟨v1,vs1,d1,ds1,p1,q1,rfl,rfl,rfl,h1,hrest1⟩:=trodAll_cons hrest0
 obtain ⟨v2,vs2,d2,ds2,p2,q2,rfl,rfl,rfl,h2,hrest2⟩:=trodAll_cons hrest1
 obtain ⟨v3,vs3,d3,ds3,p3,q3,rfl,rfl,rfl,h3,hrest3⟩:=trodAll_cons hrest2
 obtain ⟨v4,vs4,d4,ds4,p4,q4,rfl,rfl,rfl,h4,hrest4⟩:=trodAll_cons hrest3
 obtain ⟨rfl,rfl,rfl⟩:=trodAll_nil hrest4
 obtain rfl:args=#[v0,v1,v2,v3,v4]:=by cases args;simp_all
 obtain ⟨A0,ca0,l0,D0,cd0,zs0,x0,rfl,hr0,hd0,hq0⟩:=open_net (P:=Tryz.prog) Tryz.underlying69 (by kernel_rfl) ⟨rfl,rfl,rfl⟩ ⟨by kernel_rfl,by kernel_rfl,by kernel_rfl⟩ Tryz.underlying67 Tryz.underlying175 (by kernel_rfl) ⟨⟨rfl,by kernel_rfl,Tryz.underlying9⟩,⟨rfl,by kernel_rfl,Tryz.underlying9⟩,⟨rfl,by kernel_rfl,Tryz.underlying3⟩,⟨rfl,by kernel_rfl,Tryz.underlying3⟩,⟨rfl,by kernel_rfl,Tryz.underlying3⟩,⟨rfl,by kernel_rfl,Tryz.underlying3⟩⟩ Tryz.underlying25 Tryz.underlying3 (by kernel_rfl) Tryz.underlying3 (hval 0 69 v0 rfl rfl) h0
 obtain ⟨A1,c1,z1,rfl,hr1,hz1,hm1⟩:=open_scS (P:=Tryz.prog) Tryz.underlying70 Tryz.underlying124 (by kernel_rfl) ⟨⟨rfl,by kernel_rfl,Tryz.underlying3⟩,⟨rfl,by kernel_rfl,Tryz.underlying3⟩,⟨rfl,by kernel_rfl,Tryz.underlying3⟩,⟨rfl,by kernel_rfl,Tryz.underlying9⟩,⟨rfl,by kernel_rfl,Tryz.underlying78⟩,⟨rfl,by kernel_rfl,Tryz.underlying3⟩,⟨rfl,by kernel_rfl,Tryz.underlying3⟩⟩ (hval 1 70 v1 rfl rfl) h1
 obtain ⟨n2,rfl,rfl,rfl,wn2⟩:=open_int Tryz.underlying3 (hval 2 3 v2 rfl rfl) h2
 obtain ⟨n3,rfl,rfl,rfl,wn3⟩:=open_int Tryz.underlying3 (hval 3 3 v3 rfl rfl) h3
 obtain ⟨n4,rfl,rfl,rfl,wn4⟩:=open_int Tryz.underlying3 (hval 4 3 v4 rfl rfl) h4
 refine (walk A0 ca0 l0 D0 cd0 zs0 x0 A1 c1 z1 n2 n3 n4 W hr0 hd0 hq0 hr1 hz1 hm1 (int_bd wn2) (int_bd wn3) (int_bd wn4)).mono fun e W' ⟨he,hb⟩=>?_
 subst he
 exact ⟨_,rfl,law_post (P:=Tryz.prog) Tryz.laidOut (by kernel_rfl) rfl Tryz.underlying4 rfl ⟨rfl,rfl,rfl⟩ hW' hb⟩

set_option maxRecDepth 100000 in
theorem closed:joinedFacts Tryz.prog 14 Tryz.f14 Rows.fnExactMetAtSpec Rows.fnExactMetAtRow=true:=by
 unfold joinedFacts
 rw [enter_ok,lifts_ok,make_ok]
 kernel_rfl

theorem proved:Rows.FnExactMetAtSaid :=
 OpenClaim.holds_of_wide 14 Tryz.f14 rfl rfl rfl rfl rfl rfl rfl ⟨rfl,rfl,rfl,rfl,rfl⟩ rfl rfl rfl rfl rfl (by kernel_rfl) Tryz.func14 closed
  (of_decide_eq_true (by kernel_rfl)) (by unfold Func.isWrapper;first | (rw [if_pos (by decide +kernel)];kernel_rfl) | (rw [if_neg (by decide +kernel)];exact ⟨rfl,rfl⟩))
  (fun os started H enc _=>lifted os started H enc)
end Go.Proofs.YtinijleelhbpoaaGreat.fnExactMetAt

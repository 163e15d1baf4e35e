/- The contract of impl.alongTrip. -/
import Derived.Test.YtinijleelhbpoaaGreatBelR
import Derived.Test.YtinijleelhbpoaaGreatPlS
import Derived.Test.YtinijleelhbpoaaGreatTripMk
namespace Go.Proofs.YtinijleelhbpoaaGreat
open Go.RowKit
theorem al_before {l:List Lg} {t:Tp} {at_:Int} (h:at_ < trS l t):alP l t at_=[(lgAt l t.g).f]∧alR l t at_=[]:=⟨if_pos h,if_pos h⟩
theorem al_on {l:List Lg} {t:Tp} {at_:Int} (h:¬ at_ < trS l t) (h2:at_ < trE l t):alP l t at_=[]∧alR l t at_=[t]:=by
 unfold alP alR;rw [if_neg h,if_neg h,if_pos h2,if_pos h2];exact ⟨rfl,rfl⟩
theorem al_behind {l:List Lg} {t:Tp} {at_:Int} (h:¬ at_ < trS l t) (h2:¬ at_ < trE l t):alP l t at_=[(lgAt l t.g).t]∧alR l t at_=[]:=by
 unfold alP alR;rw [if_neg h,if_neg h,if_neg h2,if_neg h2];exact ⟨rfl,rfl⟩
theorem own_one (w:World) (s:ByteArray):OwnStr (w.alloc (.cells #[.string s] 9)) w.heap.size (.slice (some ⟨w.heap.size,0,none⟩) 1 1) [s] :=
 ⟨rfl,.inr ⟨w.heap.size,1,#[.string s],rfl,Nat.le_refl _,heap_alloc_new w _,Nat.le_refl _,by decide,rfl,rfl⟩⟩
theorem ownT_one (w:World) (t:Tp):OwnKtp (w.alloc (.cells #[.int .i64 t.g,.int .i64 t.d] 32)) w.heap.size (.slice (some ⟨w.heap.size,0,none⟩) 1 1) [t] :=
 ⟨rfl,.inr ⟨w.heap.size,1,#[.int .i64 t.g,.int .i64 t.d],rfl,Nat.le_refl _,heap_alloc_new w _,Nat.le_refl _,by decide,rfl,rfl⟩⟩
theorem own_nil (w:World) (b:Nat):OwnStr w b (.slice none 0 0) []:=⟨rfl,.inl ⟨rfl,rfl⟩⟩
theorem ownT_nil (w:World) (b:Nat):OwnKtp w b (.slice none 0 0) []:=⟨rfl,.inl ⟨rfl,rfl⟩⟩
def BelPost (b:Nat) (Ps:List ByteArray) (Rs:List Tp) (e:Ending) (w':World):Prop:=∃ v1 v2,e=.returned (.agg #[v1,v2])∧OwnStr w' b v1 Ps∧OwnKtp w' b v2 Rs
set_option maxRecDepth 100000 in
set_option maxHeartbeats 4000000 in
theorem along_impl {l:List Lg} {zs:List Int} {x:Int} (t:Tp) (htr:trB l zs x t=true) (at_:Int) (A:Option Addr) (ca:Nat) (D:Option Addr) (cd:Nat) (w:World) (hA:InK 6 lgC w A l) (hD:IntsIn w D zs) (hn:l.length≤1048576) :
  Calls Tryz.prog 167 #[.agg #[.slice A l.length ca,.slice D zs.length cd,.int .i64 x],.agg #[.int .i64 t.g,.int .i64 t.d],.int .i64 at_] w fun e w'=>BelPost w.heap.size (alP l t at_) (alR l t at_) e w'∧Below w.heap.size w w':=by
 have H3:=three w (.cells #[.slice A l.length ca,.slice D zs.length cd,.int .i64 x] 27) (.cells #[.int .i64 t.g,.int .i64 t.d] 32) (.cells #[.slice none 0 0,.slice none 0 0] 56)
 have FN:=Lib.hid (show Box3 27 _ w.heap.size _ _ _ from H3.1);have FT:=Lib.hid (show Box2 32 _ (w.heap.size+1) _ _ from H3.2.1);have FR:=Lib.hid (show Box2 56 _ (w.heap.size+1+1) _ _ from H3.2.2.1);have hb0:=H3.2.2.2.1;have hz0:=H3.2.2.2.2
 clear H3
 have HA:=Lib.hid (hA.below hb0);have HD:=Lib.hid (hD.below hb0);have HB0:=Lib.hid hb0
 have HST:=Lib.hid (fun W (h1:InK 6 lgC W A l) (h2:IntsIn W D zs)=>start_tp_impl t htr A ca D cd W h1 h2 hn)
 have HEN:=Lib.hid (fun W (h1:InK 6 lgC W A l) (h2:IntsIn W D zs)=>end_tp_impl t htr A ca D cd W h1 h2 hn)
 obtain ⟨_,_,k,hg,hkl,hlg,_⟩:=trB_of htr
 have HLG:=Lib.hid hlg
 have HV1:=Lib.hid (fun h=>al_before (l:=l) (t:=t) (at_:=at_) h)
 have HV2:=Lib.hid (fun h h2=>al_on (l:=l) (t:=t) (at_:=at_) h h2)
 have HV3:=Lib.hid (fun h h2=>al_behind (l:=l) (t:=t) (at_:=at_) h h2)
 obtain ⟨g0,eq0,hg0,c0,c1,c2,c3,c4,c5⟩:=HA.out.lg k hkl
 subst eq0
 have hki:(k:Int) < (l.length:Int):=by omega
 have hk0:¬ (k:Int) < 0:=by omega
 rw [HLG.out] at HV1 HV3
 have HTT:=Lib.hid (ownT_one · t)
 obtain ⟨tg,td⟩:=t
 dsimp only at *
 subst hg
 generalize alP l ⟨(k:Int),td⟩ at_=Ps at *
 generalize alR l ⟨(k:Int),td⟩ at_=Rs at *
 generalize trS l ⟨(k:Int),td⟩=S at *
 generalize trE l ⟨(k:Int),td⟩=E at *
 clear htr hlg HLG hA hD hb0
 generalize l[k]=y at *
 obtain ⟨b0,b1,b2⟩:=FN.out.cells
 obtain ⟨s0,s1⟩:=FT.out.cells
 generalize hB:w.heap.size=B at *
 have HBE:=Lib.hid hB
 go_enter Tryz.func167,Tryz.ntmps167
 go_wp2_with fail
 clear hB b0 b1 b2 s0 s1 c0 c1 c2 c3 c4 c5
 generalize ((w.alloc (.cells #[.slice (some ⟨g0,0,none⟩) l.length ca,.slice D zs.length cd,.int .i64 x] 27)).alloc (.cells #[.int .i64 (k:Int),.int .i64 td] 32)).alloc (.cells #[.slice none 0 0,.slice none 0 0] 56)=W3 at *
 have hb4:=(Below.refl W3.heap.size W3).alloc (Nat.le_refl _) (.cells #[.string y.f,.string y.t,.int .i64 y.s,.int .i64 y.k,.int .i64 y.d,.int .i64 y.r] 62)
 have FL:=Lib.hid (show BoxS 62 _ (B+3) _ _ _ _ _ _ from hz0 ▸ BoxS.new (T:=62) (v0:=.string y.f) (v1:=.string y.t) (v2:=.int .i64 y.s) (v3:=.int .i64 y.k) (v4:=.int .i64 y.d) (v5:=.int .i64 y.r) W3)
 refine (HST.out _ (HA.out.below hb4) (HD.out.below hb4)).mono ?_;rintro e w5 ⟨rfl,hb5⟩
 have hb5':=hb4.trans (hb5.mono hb4.size)
 replace FN:=Lib.hid (FN.out.below hb5');replace FT:=Lib.hid (FT.out.below hb5');replace FR:=Lib.hid (FR.out.below hb5');replace FL:=Lib.hid (FL.out.below hb5)
 replace HA:=Lib.hid (HA.out.below hb5');replace HD:=Lib.hid (HD.out.below hb5');replace HB0:=Lib.hid (HB0.out.trans (hb5'.mono (by omega)))
 have hz5:=hb5'.size
 clear hb4 hb5 hb5' HST
 have HZ:=Lib.hid (show B+3≤w5.heap.size by omega)
 clear hg0 hz0 hz5
 obtain ⟨l0,l1,l2,l3,l4,l5⟩:=FL.out.cells
 obtain ⟨b0,b1,b2⟩:=FN.out.cells
 obtain ⟨s0,s1⟩:=FT.out.cells
 obtain ⟨r0,r1⟩:=FR.out.cells
 obtain ⟨q0,q1⟩:=FR.out.free;have hlt:=FR.out.lt
 by_cases h1:at_ < S
 ·have HV:=Lib.hid (HV1.out (by omega))
  clear HV1 HV2 HV3 HEN
  go_wp2
  have FR2:=box_put (v0:=(.slice (some ⟨w5.heap.size,0,none⟩) 1 1)) (v1:=(.slice none 0 0)) FR.out
  have hBU:=(HB0.out.setCell (p:=⟨B+1+1,0,none⟩) (by dsimp only;omega) (.slice (some ⟨w5.heap.size,0,none⟩) 1 1)).setCell (p:=⟨B+1+1,1,none⟩) (by dsimp only;omega) (.slice none 0 0)
  have hU:((w5.setCell ⟨B+1+1,0,none⟩ (.slice (some ⟨w5.heap.size,0,none⟩) 1 1)).setCell ⟨B+1+1,1,none⟩ (.slice none 0 0)).heap.size=w5.heap.size:=by simp
  generalize (w5.setCell ⟨B+1+1,0,none⟩ (.slice (some ⟨w5.heap.size,0,none⟩) 1 1)).setCell ⟨B+1+1,1,none⟩ (.slice none 0 0)=U at *
  have hbx:=(Below.refl U.heap.size U).alloc (Nat.le_refl _) (.cells #[.string y.f] 9)
  obtain ⟨x0,x1⟩:=(FR2.below hbx).cells
  have HO:=own_one U y.f
  rw [hU] at HO
  refine bodyPost_ret (v:=.agg #[.slice (some ⟨w5.heap.size,0,none⟩) 1 1,.slice none 0 0]) (by simp [results,Tryz.results167,go_sem,x0,x1]) rfl ⟨⟨_,_,rfl,?_,?_⟩,hBU.trans (hbx.mono (by have:=HZ.out;omega))⟩
  ·rw [HV.out.1];exact own_mono HO (by have:=HZ.out;omega)
  ·rw [HV.out.2];exact ownT_nil _ _
 ·go_wp2_with fail
  refine (HEN.out w5 HA.out HD.out).mono ?_;rintro e w6 ⟨rfl,hb6⟩
  replace FN:=Lib.hid (FN.out.below hb6);replace FT:=Lib.hid (FT.out.below hb6);replace FR:=Lib.hid (FR.out.below hb6);replace FL:=Lib.hid (FL.out.below hb6)
  replace HB0:=Lib.hid (HB0.out.trans (hb6.mono (by have:=HZ.out;omega)))
  replace HZ:=Lib.hid (Nat.le_trans HZ.out hb6.size)
  clear hb6 hlt l0 l1 l2 l3 l4 l5 b0 b1 b2 s0 s1 r0 r1 q0 q1
  obtain ⟨l0,l1,l2,l3,l4,l5⟩:=FL.out.cells
  obtain ⟨b0,b1,b2⟩:=FN.out.cells
  obtain ⟨s0,s1⟩:=FT.out.cells
  obtain ⟨r0,r1⟩:=FR.out.cells
  obtain ⟨q0,q1⟩:=FR.out.free;have hlt:=FR.out.lt
  by_cases h2:at_ < E
  ·have HV:=Lib.hid (HV2.out (by omega) (by omega))
   clear HV1 HV2 HV3 HEN
   go_wp2
   have FR2:=box_put (v0:=(.slice none 0 0)) (v1:=(.slice (some ⟨w6.heap.size,0,none⟩) 1 1)) FR.out
   have hBU:=(HB0.out.setCell (p:=⟨B+1+1,0,none⟩) (by dsimp only;omega) (.slice none 0 0)).setCell (p:=⟨B+1+1,1,none⟩) (by dsimp only;omega) (.slice (some ⟨w6.heap.size,0,none⟩) 1 1)
   have hU:((w6.setCell ⟨B+1+1,0,none⟩ (.slice none 0 0)).setCell ⟨B+1+1,1,none⟩ (.slice (some ⟨w6.heap.size,0,none⟩) 1 1)).heap.size=w6.heap.size:=by simp
   generalize (w6.setCell ⟨B+1+1,0,none⟩ (.slice none 0 0)).setCell ⟨B+1+1,1,none⟩ (.slice (some ⟨w6.heap.size,0,none⟩) 1 1)=U at *
   have hbx:=(Below.refl U.heap.size U).alloc (Nat.le_refl _) (.cells #[.int .i64 (k:Int),.int .i64 td] 32)
   obtain ⟨x0,x1⟩:=(FR2.below hbx).cells
   have HO:=HTT.out U
   rw [hU] at HO
   refine bodyPost_ret (v:=.agg #[.slice none 0 0,.slice (some ⟨w6.heap.size,0,none⟩) 1 1]) (by simp [results,Tryz.results167,go_sem,x0,x1]) rfl ⟨⟨_,_,rfl,?_,?_⟩,hBU.trans (hbx.mono (by have:=HZ.out;omega))⟩
   ·rw [HV.out.1];exact own_nil _ _
   ·rw [HV.out.2];exact OwnK.mono HO (by have:=HZ.out;omega)
  ·have HV:=Lib.hid (HV3.out (by omega) (by omega))
   clear HV1 HV2 HV3 HEN
   go_wp2
   have FR2:=box_put (v0:=(.slice (some ⟨w6.heap.size,0,none⟩) 1 1)) (v1:=(.slice none 0 0)) FR.out
   have hBU:=(HB0.out.setCell (p:=⟨B+1+1,0,none⟩) (by dsimp only;omega) (.slice (some ⟨w6.heap.size,0,none⟩) 1 1)).setCell (p:=⟨B+1+1,1,none⟩) (by dsimp only;omega) (.slice none 0 0)
   have hU:((w6.setCell ⟨B+1+1,0,none⟩ (.slice (some ⟨w6.heap.size,0,none⟩) 1 1)).setCell ⟨B+1+1,1,none⟩ (.slice none 0 0)).heap.size=w6.heap.size:=by simp
   generalize (w6.setCell ⟨B+1+1,0,none⟩ (.slice (some ⟨w6.heap.size,0,none⟩) 1 1)).setCell ⟨B+1+1,1,none⟩ (.slice none 0 0)=U at *
   have hbx:=(Below.refl U.heap.size U).alloc (Nat.le_refl _) (.cells #[.string y.t] 9)
   obtain ⟨x0,x1⟩:=(FR2.below hbx).cells
   have HO:=own_one U y.t
   rw [hU] at HO
   refine bodyPost_ret (v:=.agg #[.slice (some ⟨w6.heap.size,0,none⟩) 1 1,.slice none 0 0]) (by simp [results,Tryz.results167,go_sem,x0,x1]) rfl ⟨⟨_,_,rfl,?_,?_⟩,hBU.trans (hbx.mono (by have:=HZ.out;omega))⟩
   ·rw [HV.out.1];exact own_mono HO (by have:=HZ.out;omega)
   ·rw [HV.out.2];exact ownT_nil _ _
end Go.Proofs.YtinijleelhbpoaaGreat

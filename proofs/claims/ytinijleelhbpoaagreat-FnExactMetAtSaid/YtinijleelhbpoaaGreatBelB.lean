/- The contract of impl.believed. Written by mk/belb.py. -/
import Derived.Test.YtinijleelhbpoaaGreatBelW
import Derived.Test.YtinijleelhbpoaaGreatBelM
namespace Go.Proofs.YtinijleelhbpoaaGreat
open Go.RowKit
theorem bel_stored {w0 wq:World} {B R b:Nat} {u0 u1 v1 v2:Value} {Ps:List ByteArray} {Rs:List Tp} (hx:Box2 56 wq R u0 u1) (h1:OwnStr wq b v1 Ps) (h2:OwnKtp wq b v2 Rs) (hb:Below B w0 wq) (hBR:B≤R) (hRb:R < b) :
  Box2 56 ((wq.setCell ⟨R,0,none⟩ v1).setCell ⟨R,1,none⟩ v2) R v1 v2∧OwnStr ((wq.setCell ⟨R,0,none⟩ v1).setCell ⟨R,1,none⟩ v2) B v1 Ps∧OwnKtp ((wq.setCell ⟨R,0,none⟩ v1).setCell ⟨R,1,none⟩ v2) B v2 Rs∧Below B w0 ((wq.setCell ⟨R,0,none⟩ v1).setCell ⟨R,1,none⟩ v2):=by
 have hgz:=only_trans (only_set wq R 0 v1) (only_set _ R 1 v2)
 exact ⟨box_put hx,own_mono (row_besides h1 hgz (fun q e=>by have:=(World.ownsRow.lt h1 q e).1;omega)) (by omega),OwnK.mono (row_besides h2 hgz (fun q e=>by have:=(World.ownsRow.lt h2 q e).1;omega)) (by omega),(hb.setCell hBR _).setCell hBR _⟩
theorem ls_at {C:List Sc} {at_:Int} {n:Nat} (hn:n < C.length) (e:fstA C at_=n+1):lsT C at_=C[n]∧lsOk C at_=true:=ls_hit hn e
theorem nx_at {C:List Sc} {at_:Int} {n:Nat} (e:fstA C at_=n+1) (h:n+1 < C.length):nxT C at_=C[n+1]∧nxOk C at_=true:=nx_hit h e
theorem nx_not {C:List Sc} {at_:Int} {n:Nat} (e:fstA C at_=n+1) (h:¬ n+1 < C.length):nxOk C at_=false:=by
 unfold nxOk;rw [e];exact decide_eq_false h
theorem bb_none {l:List Lg} {zs:List Int} {x:Int} {C:List Sc} {at_:Int} {n:Nat} (hn:n < C.length) (e:fstA C at_=n+1) (h:(C[n]).k=4):belP l zs x C at_=[]∧belR l zs x C at_=[]:=bel_none (Or.inr (by rw [(ls_at hn e).1];exact h))
theorem bb_drop {l:List Lg} {zs:List Int} {x:Int} {C:List Sc} {at_:Int} {n:Nat} (hC:∀ y ∈ C,scB l zs x y=true) (hn:n < C.length) (e:fstA C at_=n+1) (hF:n+1 < C.length) (h4:(C[n]).k ≠ 4) (hk:(C[n+1]).k=2) (hs:trS l ⟨(C[n+1]).g,(C[n+1]).d⟩≤at_):belP l zs x C at_=alP l ⟨(C[n+1]).g,(C[n+1]).d⟩ at_∧belR l zs x C at_=alR l ⟨(C[n+1]).g,(C[n+1]).d⟩ at_:=by
 obtain ⟨h1,h2⟩:=ls_at hn e
 obtain ⟨h3,h5⟩:=nx_at e hF
 have ht:=sc_trip (hC _ (List.getElem_mem hF)) (Or.inl hk)
 rw [← h3] at hk hs ht ⊢
 rw [← h1] at h4
 exact bel_drop h2 h4 h5 hk hs ht
theorem not_drop {l:List Lg} {C:List Sc} {at_:Int} {n:Nat} (e:fstA C at_=n+1) (hd:∀ hF:n+1 < C.length,¬ ((C[n+1]).k=2∧trS l ⟨(C[n+1]).g,(C[n+1]).d⟩≤at_)):¬ (nxOk C at_=true∧(nxT C at_).k=2∧trS l ⟨(nxT C at_).g,(nxT C at_).d⟩≤at_):=by
 rintro ⟨h1,h2,h3⟩
 by_cases hF:n+1 < C.length
 ·obtain ⟨h4,_⟩:=nx_at e hF
  rw [h4] at h2 h3
  exact hd hF ⟨h2,h3⟩
 ·rw [nx_not e hF] at h1;cases h1
theorem bb_load {l:List Lg} {zs:List Int} {x:Int} {C:List Sc} {at_:Int} {n:Nat} (hC:∀ y ∈ C,scB l zs x y=true) (hn:n < C.length) (e:fstA C at_=n+1) (hd:∀ hF:n+1 < C.length,¬ ((C[n+1]).k=2∧trS l ⟨(C[n+1]).g,(C[n+1]).d⟩≤at_)) (hk:(C[n]).k=3) (hs:at_ < trE l ⟨(C[n]).g,(C[n]).d⟩):belP l zs x C at_=alP l ⟨(C[n]).g,(C[n]).d⟩ at_∧belR l zs x C at_=alR l ⟨(C[n]).g,(C[n]).d⟩ at_:=by
 obtain ⟨h1,h2⟩:=ls_at hn e
 have ht:=sc_trip (hC _ (List.getElem_mem hn)) (Or.inr hk)
 rw [← h1] at hk hs ht ⊢
 exact bel_load h2 hk (not_drop e hd) hs ht
theorem bb_end {l:List Lg} {zs:List Int} {x:Int} {C:List Sc} {at_:Int} {n:Nat} (hC:∀ y ∈ C,scB l zs x y=true) (hn:n < C.length) (e:fstA C at_=n+1) (hF:¬ n+1 < C.length) (h4:(C[n]).k ≠ 4) (hl:¬ ((C[n]).k=3∧at_ < trE l ⟨(C[n]).g,(C[n]).d⟩)) :
  belP l zs x C at_=((placesB l).filter fun p=>inT l zs x (behP l zs x C[n]) (behA l zs x C[n]) p at_ && (fun (_:ByteArray) (_:Int)=>true) p at_) ∧
  belR l zs x C at_=((undT l zs at_).filter fun t=>inT l zs x (behP l zs x C[n]) (behA l zs x C[n]) (lgAt l t.g).f (trS l t) && (fun (_:ByteArray) (_:Int)=>true) (lgAt l t.g).t (trE l t)):=by
 obtain ⟨h1,h2⟩:=ls_at hn e
 have hx:=bel_free (at_:=at_) hC h2 (by rw [h1];exact h4) (not_drop e (fun h=>absurd h hF)) (by rw [h1];exact hl)
 rw [h1,nx_not e hF] at hx
 exact hx
theorem bb_next {l:List Lg} {zs:List Int} {x:Int} {C:List Sc} {at_:Int} {n:Nat} (hC:∀ y ∈ C,scB l zs x y=true) (hn:n < C.length) (e:fstA C at_=n+1) (hF:n+1 < C.length) (h4:(C[n]).k ≠ 4) (hd:¬ ((C[n+1]).k=2∧trS l ⟨(C[n+1]).g,(C[n+1]).d⟩≤at_)) (hl:¬ ((C[n]).k=3∧at_ < trE l ⟨(C[n]).g,(C[n]).d⟩)) :
  belP l zs x C at_=((placesB l).filter fun p=>inT l zs x (behP l zs x C[n]) (behA l zs x C[n]) p at_ && (fun P T=>inT l zs x P T (befP l zs x C[n+1]) (befA l zs x C[n+1])) p at_) ∧
  belR l zs x C at_=((undT l zs at_).filter fun t=>inT l zs x (behP l zs x C[n]) (behA l zs x C[n]) (lgAt l t.g).f (trS l t) && (fun P T=>inT l zs x P T (befP l zs x C[n+1]) (befA l zs x C[n+1])) (lgAt l t.g).t (trE l t)):=by
 obtain ⟨h1,h2⟩:=ls_at hn e
 obtain ⟨h3,h5⟩:=nx_at e hF
 have hx:=bel_free (at_:=at_) hC h2 (by rw [h1];exact h4) (not_drop e (fun _=>hd)) (by rw [h1];exact hl)
 rw [h1,h3,h5] at hx
 exact hx
set_option maxRecDepth 100000 in
set_option maxHeartbeats 8000000 in
theorem believed_impl (A:Option Addr) (ca:Nat) (l:List Lg) (D:Option Addr) (cd:Nat) (zs:List Int) (x:Int) (E:Option Addr) (ce:Nat) (ls:List Sc) (th at_:Int) (w:World) (hA:InK 6 lgC w A l) (hD:IntsIn w D zs) (hs:∀ z ∈ l,z.f.size≤maxLen∧z.t.size≤maxLen) (hn:l.length≤1048576) (hm:zs.length≤1048576) (hE:InK 6 scC w E ls) (hk:ls.length≤1048576) (hce:ls.length≤ce) (hp:∀ z ∈ ls,z.p.size≤maxLen) (hat:-9223372036854775808≤at_) :
  Calls Tryz.prog 101 #[.agg #[.slice A l.length ca,.slice D zs.length cd,.int .i64 x],.slice E ls.length ce,.int .i64 th,.int .i64 at_] w fun e w'=>BelPost w.heap.size (belP l zs x (clB l zs x ls th) at_) (belR l zs x (clB l zs x ls th) at_) e w'∧Below w.heap.size w w':=by
 have HCL:=Lib.hid (fun W (h1:InK 6 lgC W A l) (h2:IntsIn W D zs) (h3:InK 6 scC W E ls)=>cl_impl A ca l D cd zs x E ce ls th W h1 h2 hs hn hm h3 hk hce hp)
 have HST:=Lib.hid (fun t (htr:trB l zs x t=true) W (h1:InK 6 lgC W A l) (h2:IntsIn W D zs)=>start_tp_impl t htr A ca D cd W h1 h2 hn)
 have HEN:=Lib.hid (fun t (htr:trB l zs x t=true) W (h1:InK 6 lgC W A l) (h2:IntsIn W D zs)=>end_tp_impl t htr A ca D cd W h1 h2 hn)
 have HAL:=Lib.hid (fun t (htr:trB l zs x t=true) W (h1:InK 6 lgC W A l) (h2:IntsIn W D zs)=>along_impl t htr at_ A ca D cd W h1 h2 hn)
 have HBH:=Lib.hid (fun (r:Sc) W (h1:InK 6 lgC W A l) (h2:IntsIn W D zs)=>behind_impl r.h r.a r.k r.p r.g r.d A ca l D cd zs x W h1 h2 hs hn hm)
 have HLT:=Lib.hid (fun (r:Sc) W (h1:InK 6 lgC W A l) (h2:IntsIn W D zs)=>leads_to r.h r.a r.k r.p r.g r.d A ca l D cd zs x W h1 h2 hs hn hm)
 have HAE:=Lib.hid (fun (r:Sc) (hv:scB l zs x r=true) (hp:r.p.size≤maxLen) W (h1:InK 6 lgC W A l) (h2:IntsIn W D zs)=>allways_impl 166 #[] (fun _ _=>true) (fun _=>True) leads_on (fun _ _ _ _=>trivial) (enters_of Tryz.func166 (by kernel_rfl) rfl) (behP l zs x r) (behA l zs x r) at_ (place_size hs hp).2.1 (by have:=(beh_ge (l:=l) (zs:=zs) (x:=x) (r:=r)).1;omega) hat A ca l D cd zs x W h1 h2 hs hn hm (scB_iff.1 hv).1 trivial)
 have HAN:=Lib.hid (fun (r b:Sc) (hv:scB l zs x r=true) (hp:r.p.size≤maxLen) X Y W (h1:InK 6 lgC W A l) (h2:IntsIn W D zs) (h3:LeadK A ca l D cd zs x (befP l zs x b) (befA l zs x b) X Y W)=>allways_impl 211 #[.pointer (some ⟨X,0,none⟩),.pointer (some ⟨Y,0,none⟩)] (fun P T=>inT l zs x P T (befP l zs x b) (befA l zs x b)) (LeadK A ca l D cd zs x (befP l zs x b) (befA l zs x b) X Y) (lead_says A ca l D cd zs x (befP l zs x b) (befA l zs x b) X Y hs hn hm) (fun _ _ h hb=>h.below hb) (enters_of Tryz.func211 (by kernel_rfl) rfl) (behP l zs x r) (behA l zs x r) at_ (place_size hs hp).2.1 (by have:=(beh_ge (l:=l) (zs:=zs) (x:=x) (r:=r)).1;omega) hat A ca l D cd zs x W h1 h2 hs hn hm (scB_iff.1 hv).1 h3)
 have hC:∀ y ∈ (clB l zs x ls th),scB l zs x y=true:=fun y hy=>clB_mem hy
 have hPz:∀ y ∈ (clB l zs x ls th),y.p.size≤maxLen:=fun y hy=>by obtain ⟨j,hj,_,rfl⟩:=clU_mem _ (Nat.le_refl _) y hy;exact hp _ (scOf_mem (List.getElem_mem hj)).2.2
 have hvl:=clB_len (l:=l) (zs:=zs) (x:=x) (ls:=ls) (th:=th)
 clear hs hp hce
 generalize (clB l zs x ls th)=C at *
 have hcl:C.length≤1048576:=by omega
 clear hvl
 have HFI:=Lib.hid (fun Av cv W (h:InK 6 scC W Av C)=>first_impl at_ Av cv C W h hcl)
 have HC:=Lib.hid hC;have HPZ:=Lib.hid hPz;clear hC hPz
 obtain ⟨PP,hPP⟩:∃ PP,PP=belP l zs x C at_:=⟨_,rfl⟩
 obtain ⟨RR,hRR⟩:∃ RR,RR=belR l zs x C at_:=⟨_,rfl⟩
 rw [← hPP,← hRR]
 have HPP:=Lib.hid hPP;have HRR:=Lib.hid hRR;clear hPP hRR
 have H3:=two w (.cells #[.slice A l.length ca,.slice D zs.length cd,.int .i64 x] 27) (.cells #[.slice none 0 0,.slice none 0 0] 56)
 have FN:=Lib.hid (show Box3 27 _ (w.heap.size) _ _ _ from H3.1)
 have FR:=Lib.hid (show Box2 56 _ (w.heap.size+1) _ _ from H3.2.1)
 have hb0:=H3.2.2.1
 have HL:=Lib.hid hb0.size
 clear H3
 have HA:=Lib.hid (hA.below hb0)
 have HD:=Lib.hid (hD.below hb0)
 have HE:=Lib.hid (hE.below hb0)
 have HB:=Lib.hid hb0
 clear hb0 hA hD hE
 generalize hB:w.heap.size=B at *
 have HBE:=Lib.hid hB
 go_enter Tryz.func101,Tryz.ntmps101
 go_wp2_with fail
 clear hB
 generalize ((w.alloc (.cells #[.slice A l.length ca,.slice D zs.length cd,.int .i64 x] 27)).alloc (.cells #[.slice none 0 0,.slice none 0 0] 56))=w0 at *
 have HRB:=Lib.hid (show B+1 < w0.heap.size from FR.out.lt)
 refine (HCL.out w0 HA.out HD.out HE.out).mono ?_;rintro e w1 ⟨v,rfl,ho,hb⟩
 replace HB:=Lib.hid (HB.out.trans (hb.mono HL.out))
 replace HL:=Lib.hid (Nat.le_trans HL.out hb.size)
 replace HRB:=Lib.hid (Nat.le_trans HRB.out hb.size)
 replace HA:=Lib.hid (HA.out.below hb)
 replace HD:=Lib.hid (HD.out.below hb)
 replace HE:=Lib.hid (HE.out.below hb)
 replace FN:=Lib.hid (FN.out.below hb)
 replace FR:=Lib.hid (FR.out.below hb)
 obtain ⟨Av,cv,rfl⟩:=OwnK.opens (k:=6) (enc:=scC) ho
 have HI:=Lib.hid (ins_row ho scC_len rfl)
 clear ho
 clear hb
 clear HE HCL
 obtain ⟨FNc0,FNc1,FNc2⟩:=FN.out.cells
 obtain ⟨FRc0,FRc1⟩:=FR.out.cells
 go_wp2_with fail
 clear FNc0 FNc1 FNc2 FRc0 FRc1
 refine (HFI.out Av cv w1 HI.out).mono ?_;rintro e w2 ⟨rfl,hb⟩
 replace HB:=Lib.hid (HB.out.trans (hb.mono HL.out))
 replace HL:=Lib.hid (Nat.le_trans HL.out hb.size)
 replace HRB:=Lib.hid (Nat.le_trans HRB.out hb.size)
 replace HA:=Lib.hid (HA.out.below hb)
 replace HD:=Lib.hid (HD.out.below hb)
 replace FN:=Lib.hid (FN.out.below hb)
 replace FR:=Lib.hid (FR.out.below hb)
 replace HI:=Lib.hid (HI.out.below hb)
 clear hb
 have hle:=fstA_le (C:=C) (at_:=at_)
 generalize hF:fstA C at_=F at *
 have HFE:=Lib.hid hF;clear hF HFI
 by_cases hF0:F=0
 ·have hf0:((F:Int) == 0)=true:=by rw [beq_iff_eq];omega
  have HV:=Lib.hid (bel_none (l:=l) (zs:=zs) (x:=x) (C:=C) (at_:=at_) (Or.inl (ls_miss (HFE.out.trans hF0)).2))
  clear hF0
  have o1:=own_nil w2 (B+2);have o2:=ownT_nil w2 (B+2)
  obtain ⟨FNc0,FNc1,FNc2⟩:=FN.out.cells
  obtain ⟨FRc0,FRc1⟩:=FR.out.cells
  obtain ⟨r0,r1⟩:=FR.out.free
  have hrl:=FR.out.lt
  go_wp2
  obtain ⟨z,q1,q2,q3⟩:=bel_stored FR.out o1 o2 HB.out (by omega) (by omega)
  obtain ⟨y0,y1⟩:=z.cells
  refine bodyPost_ret (v:=.agg #[.slice none 0 0,.slice none 0 0]) (by simp [results,Tryz.results101,go_sem,y0,y1]) rfl ⟨⟨_,_,rfl,?_,?_⟩,q3⟩
  ·rw [HPP.out,HV.out.1];exact q1
  ·rw [HRR.out,HV.out.2];exact q2
 obtain ⟨n,hn1⟩:∃ n,F=n+1:=⟨F - 1,by omega⟩
 have hnC:n < C.length:=by omega
 have hf0:((F:Int) == 0)=false:=by rw [beq_eq_false_iff_ne];omega
 have hni:(F:Int) - 1=(n:Int):=by omega
 have hnl:(n:Int) < (C.length:Int):=by omega
 have hnz:¬ (n:Int) < 0:=by omega
 have HN1:=Lib.hid hn1
 clear hF0 hn1
 replace HFE:=Lib.hid (HFE.out.trans HN1.out)
 have HV4:=Lib.hid (fun h=>bb_none (l:=l) (zs:=zs) (x:=x) hnC HFE.out h)
 have HVD:=Lib.hid (fun hF h4 hk hs=>bb_drop HC.out hnC HFE.out hF h4 hk hs)
 have HVL:=Lib.hid (fun hd hk hs=>bb_load HC.out hnC HFE.out hd hk hs)
 have HVE:=Lib.hid (fun hF h4 hl=>bb_end HC.out hnC HFE.out hF h4 hl)
 have HVN:=Lib.hid (fun hF h4 hd hl=>bb_next HC.out hnC HFE.out hF h4 hd hl)
 have HY1:=Lib.hid (HC.out _ (List.getElem_mem hnC))
 have HYP:=Lib.hid (HPZ.out _ (List.getElem_mem hnC))
 obtain ⟨G0,eqG,hG0,c0,c1,c2,c3,c4,c5⟩:=HI.out.sc n hnC
 subst eqG
 obtain ⟨y,hy⟩:∃ y,y=C[n]:=⟨_,rfl⟩
 rw [← hy] at c0 c1 c2 c3 c4 c5 HV4 HVD HVL HVE HVN HY1 HYP
 have HYE:=Lib.hid hy;clear hy
 by_cases k4:y.k=4
 ·have t4:(y.k == 4)=true:=by simp [k4]
  have HV:=Lib.hid (HV4.out k4)
  clear k4
  have o1:=own_nil w2 (B+2);have o2:=ownT_nil w2 (B+2)
  obtain ⟨FNc0,FNc1,FNc2⟩:=FN.out.cells
  obtain ⟨FRc0,FRc1⟩:=FR.out.cells
  obtain ⟨r0,r1⟩:=FR.out.free
  have hrl:=FR.out.lt
  go_wp2
  obtain ⟨z,q1,q2,q3⟩:=bel_stored FR.out o1 o2 HB.out (by omega) (by omega)
  obtain ⟨y0,y1⟩:=z.cells
  refine bodyPost_ret (v:=.agg #[.slice none 0 0,.slice none 0 0]) (by simp [results,Tryz.results101,go_sem,y0,y1]) rfl ⟨⟨_,_,rfl,?_,?_⟩,q3⟩
  ·rw [HPP.out,HV.out.1];exact q1
  ·rw [HRR.out,HV.out.2];exact q2
 have t4:(y.k == 4)=false:=by simp [k4]
 obtain ⟨FNc0,FNc1,FNc2⟩:=FN.out.cells
 obtain ⟨FRc0,FRc1⟩:=FR.out.cells
 go_upto_region 6 with (fail)
 clear FNc0 FNc1 FNc2 FRc0 FRc1
 clear c0 c1 c2 c3 c4 c5 hG0 t4 hf0
 by_cases hFl:F < C.length
 ·have HFL:=Lib.hid (show n+1 < C.length by rw [← HN1.out];exact hFl)
  obtain ⟨G2,eq2,hG2,d0,d1,d2,d3,d4,d5⟩:=HI.out.sc F hFl
  cases eq2
  have HZ1:=Lib.hid (HC.out _ (List.getElem_mem HFL.out))
  replace HVD:=Lib.hid (fun h4 hk hs=>HVD.out HFL.out h4 hk hs)
  have hfl:(F:Int) < (C.length:Int):=by omega
  have hfz:¬ (F:Int) < 0:=by omega
  obtain ⟨z,hz⟩:∃ z,z=C[n+1]'HFL.out:=⟨_,rfl⟩
  have hzF:C[F]=z:=by have e1:=HN1.out;subst e1;exact hz.symm
  rw [hzF] at d0 d1 d2 d3 d4 d5
  rw [← hz] at HZ1 HVD
  have HZE:=Lib.hid hz;clear hz hzF
  obtain ⟨FNc0,FNc1,FNc2⟩:=FN.out.cells
  obtain ⟨FRc0,FRc1⟩:=FR.out.cells
  go_upto_region 8 with (fail)
  clear FNc0 FNc1 FNc2 FRc0 FRc1
  clear d0 d1 d2 d3 d4 d5 hG2
  have FZ:=Lib.hid (BoxS.new (T:=34) (v0:=.int .i64 z.h) (v1:=.int .i64 z.a) (v2:=.int .i64 z.k) (v3:=.string z.p) (v4:=.int .i64 z.g) (v5:=.int .i64 z.d) w2)
  have hb:=(Below.refl w2.heap.size w2).alloc (Nat.le_refl _) (.cells #[.int .i64 z.h,.int .i64 z.a,.int .i64 z.k,.string z.p,.int .i64 z.g,.int .i64 z.d] 34)
  replace HB:=Lib.hid (HB.out.trans (hb.mono HL.out))
  replace HL:=Lib.hid (Nat.le_trans HL.out hb.size)
  replace HRB:=Lib.hid (Nat.le_trans HRB.out hb.size)
  replace HA:=Lib.hid (HA.out.below hb)
  replace HD:=Lib.hid (HD.out.below hb)
  replace FN:=Lib.hid (FN.out.below hb)
  replace FR:=Lib.hid (FR.out.below hb)
  replace HI:=Lib.hid (HI.out.below hb)
  clear hb
  generalize w2.heap.size=XZ at *
  generalize w2.alloc (.cells #[.int .i64 z.h,.int .i64 z.a,.int .i64 z.k,.string z.p,.int .i64 z.g,.int .i64 z.d] 34)=w3 at *
  obtain ⟨FNc0,FNc1,FNc2⟩:=FN.out.cells
  obtain ⟨FRc0,FRc1⟩:=FR.out.cells
  obtain ⟨FZc0,FZc1,FZc2,FZc3,FZc4,FZc5⟩:=FZ.out.cells
  go_cut [51] from 41 (fun v wx=>v=.bool (decide (z.k=2∧trS l ⟨z.g,z.d⟩≤at_))∧Below w3.heap.size w3 wx)
  case first =>
   by_cases k2:z.k=2
   ·have t2:(z.k == 2)=true:=by simp [k2]
    have htr:=sc_trip HZ1.out (Or.inl k2)
    have K2:=Lib.hid k2;clear k2
    go_wp2_with fail
    refine (HST.out _ htr w3 HA.out HD.out).mono ?_;rintro e wz ⟨rfl,hbz⟩
    by_cases hS:trS l ⟨z.g,z.d⟩≤at_
    ·have hSd:decide (trS l ⟨z.g,z.d⟩≤at_)=true:=decide_eq_true (by omega)
     go_wp2
     go_meet
     exact ⟨congrArg Value.bool (decide_eq_true ⟨K2.out,hS⟩).symm,hbz⟩
    ·have hSd:decide (trS l ⟨z.g,z.d⟩≤at_)=false:=decide_eq_false (by omega)
     go_wp2
     go_meet
     exact ⟨congrArg Value.bool (decide_eq_false (fun hh=>by have:=hh.2;omega)).symm,hbz⟩
   ·have t2:(z.k == 2)=false:=by simp [k2]
    go_wp2
    go_meet
    exact ⟨congrArg Value.bool (decide_eq_false (fun hh=>k2 hh.1)).symm,Below.refl _ _⟩
  case rest =>
   obtain ⟨rfl,hb⟩:=hcut
   generalize wc=w4 at *
   clear FNc0 FNc1 FNc2 FRc0 FRc1 FZc0 FZc1 FZc2 FZc3 FZc4 FZc5
   replace HB:=Lib.hid (HB.out.trans (hb.mono HL.out))
   replace HL:=Lib.hid (Nat.le_trans HL.out hb.size)
   replace HRB:=Lib.hid (Nat.le_trans HRB.out hb.size)
   replace HA:=Lib.hid (HA.out.below hb)
   replace HD:=Lib.hid (HD.out.below hb)
   replace FN:=Lib.hid (FN.out.below hb)
   replace FR:=Lib.hid (FR.out.below hb)
   replace HI:=Lib.hid (HI.out.below hb)
   replace FZ:=Lib.hid (FZ.out.below hb)
   clear hb
   by_cases hdr:z.k=2∧trS l ⟨z.g,z.d⟩≤at_
   ·rw [decide_eq_true hdr]
    have HV:=Lib.hid (HVD.out k4 hdr.1 hdr.2)
    have htr:=sc_trip HZ1.out (Or.inl hdr.1)
    obtain ⟨FNc0,FNc1,FNc2⟩:=FN.out.cells
    obtain ⟨FRc0,FRc1⟩:=FR.out.cells
    obtain ⟨FZc0,FZc1,FZc2,FZc3,FZc4,FZc5⟩:=FZ.out.cells
    go_wp2_with fail
    clear FNc0 FNc1 FNc2 FRc0 FRc1 FZc0 FZc1 FZc2 FZc3 FZc4 FZc5
    refine (HAL.out _ htr w4 HA.out HD.out).mono ?_;rintro e wv ⟨⟨v1,v2,rfl,o1,o2⟩,hb⟩
    replace o1:=own_mono o1 (show B+2≤w4.heap.size from HRB.out);replace o2:=OwnK.mono o2 (show B+2≤w4.heap.size from HRB.out)
    replace HB:=Lib.hid (HB.out.trans (hb.mono HL.out))
    replace HL:=Lib.hid (Nat.le_trans HL.out hb.size)
    replace HRB:=Lib.hid (Nat.le_trans HRB.out hb.size)
    replace HA:=Lib.hid (HA.out.below hb)
    replace HD:=Lib.hid (HD.out.below hb)
    replace FN:=Lib.hid (FN.out.below hb)
    replace FR:=Lib.hid (FR.out.below hb)
    replace HI:=Lib.hid (HI.out.below hb)
    replace FZ:=Lib.hid (FZ.out.below hb)
    clear hb
    rw [← HV.out.1,← HPP.out] at o1
    rw [← HV.out.2,← HRR.out] at o2
    obtain ⟨A1,n1,rfl⟩:=row_opens o1
    obtain ⟨A2,n2,rfl⟩:=row_opens o2
    obtain ⟨FNc0,FNc1,FNc2⟩:=FN.out.cells
    obtain ⟨FRc0,FRc1⟩:=FR.out.cells
    obtain ⟨FZc0,FZc1,FZc2,FZc3,FZc4,FZc5⟩:=FZ.out.cells
    obtain ⟨r0,r1⟩:=FR.out.free
    have hrl:=FR.out.lt
    go_wp2
    obtain ⟨z,q1,q2,q3⟩:=bel_stored FR.out o1 o2 HB.out (by omega) (by omega)
    obtain ⟨y0,y1⟩:=z.cells
    refine bodyPost_ret (v:=.agg #[.slice A1 PP.length n1,.slice A2 RR.length n2]) (by simp [results,Tryz.results101,go_sem,y0,y1]) rfl ⟨⟨_,_,rfl,q1,q2⟩,q3⟩
   rw [decide_eq_false hdr]
   have HND:=Lib.hid (show ∀ hF:n+1 < C.length,¬ ((C[n+1]).k=2∧trS l ⟨(C[n+1]).g,(C[n+1]).d⟩≤at_) from fun hF=>by rw [← HZE.out];exact hdr)
   replace HVN:=Lib.hid (fun h4 hd hl=>HVN.out HFL.out h4 hd hl)
   rw [← HZE.out] at HVN
   have HDR:=Lib.hid hdr
   clear hdr HVD
   obtain ⟨FNc0,FNc1,FNc2⟩:=FN.out.cells
   obtain ⟨FRc0,FRc1⟩:=FR.out.cells
   obtain ⟨FZc0,FZc1,FZc2,FZc3,FZc4,FZc5⟩:=FZ.out.cells
   go_wp2_with fail
   clear FNc0 FNc1 FNc2 FRc0 FRc1 FZc0 FZc1 FZc2 FZc3 FZc4 FZc5
   refine (HLT.out z w4 HA.out HD.out).mono ?_;rintro e w5 ⟨X,Y,rfl,hlk,hb⟩
   replace HB:=Lib.hid (HB.out.trans (hb.mono HL.out))
   replace HL:=Lib.hid (Nat.le_trans HL.out hb.size)
   replace HRB:=Lib.hid (Nat.le_trans HRB.out hb.size)
   replace HA:=Lib.hid (HA.out.below hb)
   replace HD:=Lib.hid (HD.out.below hb)
   replace FN:=Lib.hid (FN.out.below hb)
   replace FR:=Lib.hid (FR.out.below hb)
   replace HI:=Lib.hid (HI.out.below hb)
   replace FZ:=Lib.hid (FZ.out.below hb)
   have HLK:=Lib.hid hlk
   clear hlk
   clear hb
   clear FZ
   obtain ⟨G1,eq1,hG1,c0,c1,c2,c3,c4,c5⟩:=HI.out.sc n hnC
   cases eq1
   rw [← HYE.out] at c0 c1 c2 c3 c4 c5
   obtain ⟨FNc0,FNc1,FNc2⟩:=FN.out.cells
   obtain ⟨FRc0,FRc1⟩:=FR.out.cells
   go_upto_region 12 with (fail)
   clear FNc0 FNc1 FNc2 FRc0 FRc1
   clear c0 c1 c2 c3 c4 c5 hG1
   have FL:=Lib.hid (BoxS.new (T:=34) (v0:=.int .i64 y.h) (v1:=.int .i64 y.a) (v2:=.int .i64 y.k) (v3:=.string y.p) (v4:=.int .i64 y.g) (v5:=.int .i64 y.d) w5)
   have hb:=(Below.refl w5.heap.size w5).alloc (Nat.le_refl _) (.cells #[.int .i64 y.h,.int .i64 y.a,.int .i64 y.k,.string y.p,.int .i64 y.g,.int .i64 y.d] 34)
   have HRBo:=Lib.hid HRB.out
   replace HB:=Lib.hid (HB.out.trans (hb.mono HL.out))
   replace HL:=Lib.hid (Nat.le_trans HL.out hb.size)
   replace HRB:=Lib.hid (Nat.le_trans HRB.out hb.size)
   replace HA:=Lib.hid (HA.out.below hb)
   replace HD:=Lib.hid (HD.out.below hb)
   replace FN:=Lib.hid (FN.out.below hb)
   replace FR:=Lib.hid (FR.out.below hb)
   replace HI:=Lib.hid (HI.out.below hb)
   replace HLK:=Lib.hid (HLK.out.below hb)
   clear hb
   have HXL:=Lib.hid (show B+2≤w5.heap.size from HRBo.out)
   generalize w5.heap.size=XL at *
   generalize w5.alloc (.cells #[.int .i64 y.h,.int .i64 y.a,.int .i64 y.k,.string y.p,.int .i64 y.g,.int .i64 y.d] 34)=w6 at *
   obtain ⟨FNc0,FNc1,FNc2⟩:=FN.out.cells
   obtain ⟨FRc0,FRc1⟩:=FR.out.cells
   obtain ⟨FLc0,FLc1,FLc2,FLc3,FLc4,FLc5⟩:=FL.out.cells
   go_cut [75] from 65 (fun v wx=>v=.bool (decide (y.k=3∧at_ < trE l ⟨y.g,y.d⟩))∧Below w6.heap.size w6 wx)
   case first =>
    by_cases k3:y.k=3
    ·have t3:(y.k == 3)=true:=by simp [k3]
     have htr:=sc_trip HY1.out (Or.inr k3)
     have K3:=Lib.hid k3;clear k3
     go_wp2_with fail
     refine (HEN.out _ htr w6 HA.out HD.out).mono ?_;rintro e wz ⟨rfl,hbz⟩
     by_cases hS:at_ < trE l ⟨y.g,y.d⟩
     ·have hSd:decide (at_ < trE l ⟨y.g,y.d⟩)=true:=decide_eq_true (by omega)
      go_wp2
      go_meet
      exact ⟨congrArg Value.bool (decide_eq_true ⟨K3.out,hS⟩).symm,hbz⟩
     ·have hSd:decide (at_ < trE l ⟨y.g,y.d⟩)=false:=decide_eq_false (by omega)
      go_wp2
      go_meet
      exact ⟨congrArg Value.bool (decide_eq_false (fun hh=>by have:=hh.2;omega)).symm,hbz⟩
    ·have t3:(y.k == 3)=false:=by simp [k3]
     go_wp2
     go_meet
     exact ⟨congrArg Value.bool (decide_eq_false (fun hh=>k3 hh.1)).symm,Below.refl _ _⟩
   case rest =>
    obtain ⟨rfl,hb⟩:=hcut
    generalize wc=w7 at *
    clear FNc0 FNc1 FNc2 FRc0 FRc1 FLc0 FLc1 FLc2 FLc3 FLc4 FLc5
    replace HB:=Lib.hid (HB.out.trans (hb.mono HL.out))
    replace HL:=Lib.hid (Nat.le_trans HL.out hb.size)
    replace HRB:=Lib.hid (Nat.le_trans HRB.out hb.size)
    replace HA:=Lib.hid (HA.out.below hb)
    replace HD:=Lib.hid (HD.out.below hb)
    replace FN:=Lib.hid (FN.out.below hb)
    replace FR:=Lib.hid (FR.out.below hb)
    replace HI:=Lib.hid (HI.out.below hb)
    replace HLK:=Lib.hid (HLK.out.below hb)
    replace FL:=Lib.hid (FL.out.below hb)
    clear hb
    by_cases hld:y.k=3∧at_ < trE l ⟨y.g,y.d⟩
    ·rw [decide_eq_true hld]
     have HV:=Lib.hid (HVL.out HND.out hld.1 hld.2)
     have htr:=sc_trip HY1.out (Or.inr hld.1)
     obtain ⟨FNc0,FNc1,FNc2⟩:=FN.out.cells
     obtain ⟨FRc0,FRc1⟩:=FR.out.cells
     obtain ⟨FLc0,FLc1,FLc2,FLc3,FLc4,FLc5⟩:=FL.out.cells
     go_wp2_with fail
     clear FNc0 FNc1 FNc2 FRc0 FRc1 FLc0 FLc1 FLc2 FLc3 FLc4 FLc5
     refine (HAL.out _ htr w7 HA.out HD.out).mono ?_;rintro e wv ⟨⟨v1,v2,rfl,o1,o2⟩,hb⟩
     replace o1:=own_mono o1 (show B+2≤w7.heap.size from HRB.out);replace o2:=OwnK.mono o2 (show B+2≤w7.heap.size from HRB.out)
     replace HB:=Lib.hid (HB.out.trans (hb.mono HL.out))
     replace HL:=Lib.hid (Nat.le_trans HL.out hb.size)
     replace HRB:=Lib.hid (Nat.le_trans HRB.out hb.size)
     replace HA:=Lib.hid (HA.out.below hb)
     replace HD:=Lib.hid (HD.out.below hb)
     replace FN:=Lib.hid (FN.out.below hb)
     replace FR:=Lib.hid (FR.out.below hb)
     replace HI:=Lib.hid (HI.out.below hb)
     replace HLK:=Lib.hid (HLK.out.below hb)
     replace FL:=Lib.hid (FL.out.below hb)
     clear hb
     rw [← HV.out.1,← HPP.out] at o1
     rw [← HV.out.2,← HRR.out] at o2
     obtain ⟨A1,n1,rfl⟩:=row_opens o1
     obtain ⟨A2,n2,rfl⟩:=row_opens o2
     obtain ⟨FNc0,FNc1,FNc2⟩:=FN.out.cells
     obtain ⟨FRc0,FRc1⟩:=FR.out.cells
     obtain ⟨FLc0,FLc1,FLc2,FLc3,FLc4,FLc5⟩:=FL.out.cells
     obtain ⟨r0,r1⟩:=FR.out.free
     have hrl:=FR.out.lt
     go_wp2
     obtain ⟨z,q1,q2,q3⟩:=bel_stored FR.out o1 o2 HB.out (by omega) (by omega)
     obtain ⟨y0,y1⟩:=z.cells
     refine bodyPost_ret (v:=.agg #[.slice A1 PP.length n1,.slice A2 RR.length n2]) (by simp [results,Tryz.results101,go_sem,y0,y1]) rfl ⟨⟨_,_,rfl,q1,q2⟩,q3⟩
    rw [decide_eq_false hld]
    have HV:=Lib.hid (HVN.out k4 HDR.out hld)
    clear hld
    obtain ⟨FNc0,FNc1,FNc2⟩:=FN.out.cells
    obtain ⟨FRc0,FRc1⟩:=FR.out.cells
    obtain ⟨FLc0,FLc1,FLc2,FLc3,FLc4,FLc5⟩:=FL.out.cells
    go_upto_region 14 with (fail)
    clear FNc0 FNc1 FNc2 FRc0 FRc1 FLc0 FLc1 FLc2 FLc3 FLc4 FLc5
    obtain ⟨FNc0,FNc1,FNc2⟩:=FN.out.cells
    obtain ⟨FRc0,FRc1⟩:=FR.out.cells
    obtain ⟨FLc0,FLc1,FLc2,FLc3,FLc4,FLc5⟩:=FL.out.cells
    have hnl2:=FN.out.lt;have hxl:=FL.out.lt
    obtain ⟨WW,hWW⟩:∃ WW:World,WW=w7:=⟨_,rfl⟩
    subst hWW
    have HV0:=Lib.hid ((Below.refl WW.heap.size WW).drew)
    refine wp_region_held_drew (S:=fun w'=>w'.cell? ⟨B,0,none⟩=some (.slice A l.length ca)∧w'.cell? ⟨B,1,none⟩=some (.slice D zs.length cd)∧w'.cell? ⟨B,2,none⟩=some (.int .i64 x)∧w'.cell? ⟨XL,0,none⟩=some (.int .i64 y.h)∧w'.cell? ⟨XL,1,none⟩=some (.int .i64 y.a)∧w'.cell? ⟨XL,2,none⟩=some (.int .i64 y.k)∧w'.cell? ⟨XL,3,none⟩=some (.string y.p)∧w'.cell? ⟨XL,4,none⟩=some (.int .i64 y.g)∧w'.cell? ⟨XL,5,none⟩=some (.int .i64 y.d)) (by kernel_rfl) ?_ (fun hHeld=>?_)
    ·(try dsimp only);go_keep
    try dsimp only
    try simp only [Act.put]
    try simp only [List.setIfInBounds_toArray]
    try simp only [List.set_cons_zero,List.set_cons_succ]
    refine wpAnyH_take (i:=0) (oi:=_) (v:=?vq0n) rfl (by kernel_rfl) (by kernel_rfl) (by kernel_rfl) (fun _ _ _ h=>h) (Or.inl ⟨by rfl,?hyq0n⟩) (by assumption) ?restq0n
    case hyq0n=>(intro w hSw;(try dsimp only at hSw);go_simp <;> try with_reducible rfl)
    try dsimp only
    try simp only [List.getElem_toArray,List.getElem_cons_zero]
    try simp only [Act.put]
    try simp only [List.setIfInBounds_toArray]
    try simp only [List.set_cons_zero,List.set_cons_succ]
    refine wpAnyH_take (i:=1) (oi:=_) (v:=?vq1n) rfl (by kernel_rfl) (by kernel_rfl) (by kernel_rfl) (fun _ _ _ h=>h) (Or.inl ⟨by rfl,?hyq1n⟩) (by assumption) ?restq1n
    case hyq1n=>(intro w hSw;(try dsimp only at hSw);go_simp <;> try with_reducible rfl)
    try dsimp only
    try simp only [List.getElem_toArray,List.getElem_cons_succ,List.getElem_cons_zero]
    try simp only [Act.put]
    try simp only [List.setIfInBounds_toArray]
    try simp only [List.set_cons_zero,List.set_cons_succ]
    refine wpAnyH_take (i:=2) (oi:=_) (v:=?vq2n) rfl (by kernel_rfl) (by kernel_rfl) (by kernel_rfl) (fun _ _ _ h=>h) (Or.inl ⟨by rfl,?hyq2n⟩) (by assumption) ?restq2n
    case hyq2n=>(intro w hSw;(try dsimp only at hSw);go_simp <;> try with_reducible rfl)
    try dsimp only
    try simp only [List.getElem_toArray,List.getElem_cons_succ,List.getElem_cons_zero]
    try simp only [Act.put]
    try simp only [List.setIfInBounds_toArray]
    try simp only [List.set_cons_zero,List.set_cons_succ]
    refine wpAnyH_take (i:=4) (oi:=_) (v:=?vq4n) rfl (by kernel_rfl) (by kernel_rfl) (by kernel_rfl) (fun _ _ _ h=>h) (Or.inl ⟨by rfl,?hyq4n⟩) (by assumption) ?restq4n
    case hyq4n=>(intro w hSw;(try dsimp only at hSw);go_simp <;> try with_reducible rfl)
    try dsimp only
    try simp only [List.getElem_toArray,List.getElem_cons_succ,List.getElem_cons_zero]
    try simp only [Act.put]
    try simp only [List.setIfInBounds_toArray]
    try simp only [List.set_cons_zero,List.set_cons_succ]
    refine wpAnyH_take (i:=5) (oi:=_) (v:=?vq5n) rfl (by kernel_rfl) (by kernel_rfl) (by kernel_rfl) (fun _ _ _ h=>h) (Or.inl ⟨by rfl,?hyq5n⟩) (by assumption) ?restq5n
    case hyq5n=>(intro w hSw;(try dsimp only at hSw);go_simp <;> try with_reducible rfl)
    try dsimp only
    try simp only [List.getElem_toArray,List.getElem_cons_succ,List.getElem_cons_zero]
    try simp only [Act.put]
    try simp only [List.setIfInBounds_toArray]
    try simp only [List.set_cons_zero,List.set_cons_succ]
    clear FNc0 FNc1 FNc2 FRc0 FRc1 FLc0 FLc1 FLc2 FLc3 FLc4 FLc5
    clear hHeld
    generalize WW.drew=V0 at *
    refine wpAnyH_ready (rs:=[3]) (by kernel_rfl) (by simp) ?_
    refine AllReadyH.cons (o:=_) rfl (fun K hK=>?_) AllReadyH.nil
    go_simp
    go_at_call 130
    refine (HBH.out y V0 (HA.out.below HV0.out) (HD.out.below HV0.out)).mono ?_;rintro e V1 ⟨rfl,hu⟩
    have HV1:=Lib.hid (HV0.out.trans (hu.mono HV0.out.size))
    clear hu
    obtain ⟨FNc0,FNc1,FNc2⟩:=(FN.out.below HV1.out).cells
    obtain ⟨FLc0,FLc1,FLc2,FLc3,FLc4,FLc5⟩:=(FL.out.below HV1.out).cells
    refine hK.out _ _ ?_ (fun hHeld=>?_)
    ·(try dsimp only);go_keep
    clear hK K
    clear hHeld FNc0 FNc1 FNc2 FLc0 FLc1 FLc2 FLc3 FLc4 FLc5
    try dsimp only
    try simp only [List.getElem_toArray,List.getElem_cons_succ,List.getElem_cons_zero]
    try simp only [Act.put]
    try simp only [List.setIfInBounds_toArray]
    try simp only [List.set_cons_zero,List.set_cons_succ]
    refine wpAnyH_ready (rs:=[6]) (by kernel_rfl) (by simp) ?_
    refine AllReadyH.cons (o:=_) rfl (fun K hK=>?_) AllReadyH.nil
    go_simp
    go_at_call 169
    refine (HAN.out y z HY1.out HYP.out X Y V1 (HA.out.below HV1.out) (HD.out.below HV1.out) (HLK.out.below HV1.out)).mono ?_;rintro e V2 ⟨⟨v1,v2,rfl,o1,o2⟩,hu⟩
    have HV2:=Lib.hid (HV1.out.trans (hu.mono HV1.out.size))
    replace o1:=own_mono o1 (show B+2≤V1.heap.size from Nat.le_trans HRB.out HV1.out.size);replace o2:=OwnK.mono o2 (show B+2≤V1.heap.size from Nat.le_trans HRB.out HV1.out.size)
    clear hu
    rw [← HV.out.1,← HPP.out] at o1
    rw [← HV.out.2,← HRR.out] at o2
    obtain ⟨A1,n1,rfl⟩:=row_opens o1
    obtain ⟨A2,n2,rfl⟩:=row_opens o2
    obtain ⟨FNc0,FNc1,FNc2⟩:=(FN.out.below HV2.out).cells
    obtain ⟨FLc0,FLc1,FLc2,FLc3,FLc4,FLc5⟩:=(FL.out.below HV2.out).cells
    refine hK.out _ _ ?_ (fun hHeld=>?_)
    ·(try dsimp only);go_keep
    clear hK K
    clear hHeld FNc0 FNc1 FNc2 FLc0 FLc1 FLc2 FLc3 FLc4 FLc5
    try dsimp only
    try simp only [List.getElem_toArray,List.getElem_cons_succ,List.getElem_cons_zero]
    try simp only [Act.put]
    try simp only [List.setIfInBounds_toArray]
    try simp only [List.set_cons_zero,List.set_cons_succ]
    refine wpAnyH_ready (rs:=[7]) (by kernel_rfl) (by simp) ?_
    refine AllReadyH.cons (o:=_) rfl (fun K hK=>?_) AllReadyH.nil
    have FRV:=FR.out.below HV2.out
    obtain ⟨x0,x1⟩:=FRV.cells
    obtain ⟨r0,r1⟩:=FRV.free
    go_simp
    clear x0 x1 r0 r1
    have HBV:=HB.out.trans (HV2.out.mono HL.out)
    have hgz:=only_trans (only_set V2 (B+1) 0 (.slice A1 PP.length n1)) (only_set _ (B+1) 1 (.slice A2 RR.length n2))
    obtain ⟨FNc0,FNc1,FNc2⟩:=((FN.out.below HV2.out).apart hgz (fun e=>by have e2:B=B+1:=Option.some.inj e;omega)).cells
    obtain ⟨FLc0,FLc1,FLc2,FLc3,FLc4,FLc5⟩:=((FL.out.below HV2.out).apart hgz (fun e=>by have e2:XL=B+1:=Option.some.inj e;have:=HXL.out;omega)).cells
    obtain ⟨zz,q1,q2,q3⟩:=bel_stored FRV o1 o2 HBV (by omega) (by omega)
    have HQ:=Lib.hid (And.intro zz (And.intro q1 (And.intro q2 q3)))
    clear zz q1 q2 q3 o1 o2 FRV HBV hgz
    refine hK.out _ _ ?_ (fun hHeld=>?_)
    ·(try dsimp only);go_keep
    clear hK K
    clear hHeld FNc0 FNc1 FNc2 FLc0 FLc1 FLc2 FLc3 FLc4 FLc5
    try dsimp only
    try simp only [List.getElem_toArray,List.getElem_cons_succ,List.getElem_cons_zero]
    try simp only [Act.put]
    try simp only [List.setIfInBounds_toArray]
    try simp only [List.set_cons_zero,List.set_cons_succ]
    refine wpAnyH_done (by kernel_rfl) ?_ _
    try dsimp only [Act.put,Oper.dst]
    try dsimp only
    try simp only [List.getElem_toArray,List.getElem_cons_succ,List.getElem_cons_zero]
    try simp only [Act.put]
    try simp only [List.setIfInBounds_toArray]
    try simp only [List.set_cons_zero,List.set_cons_succ]
    obtain ⟨y0,y1⟩:=HQ.out.1.cells
    go_wp2
    refine bodyPost_ret (v:=.agg #[.slice A1 PP.length n1,.slice A2 RR.length n2]) (by simp [results,Tryz.results101,go_sem,y0,y1]) rfl ⟨⟨_,_,rfl,HQ.out.2.1,HQ.out.2.2.1⟩,HQ.out.2.2.2⟩
 ·have HND:=Lib.hid (show ∀ hF:n+1 < C.length,¬ ((C[n+1]).k=2∧trS l ⟨(C[n+1]).g,(C[n+1]).d⟩≤at_) from fun h=>absurd h (by rw [← HN1.out];exact hFl))
  have hfl:¬ (F:Int) < (C.length:Int):=by omega
  clear HVD HVN
  obtain ⟨G1,eq1,hG1,c0,c1,c2,c3,c4,c5⟩:=HI.out.sc n hnC
  cases eq1
  rw [← HYE.out] at c0 c1 c2 c3 c4 c5
  obtain ⟨FNc0,FNc1,FNc2⟩:=FN.out.cells
  obtain ⟨FRc0,FRc1⟩:=FR.out.cells
  go_upto_region 12 with (fail)
  clear FNc0 FNc1 FNc2 FRc0 FRc1
  clear c0 c1 c2 c3 c4 c5 hG1
  have FL:=Lib.hid (BoxS.new (T:=34) (v0:=.int .i64 y.h) (v1:=.int .i64 y.a) (v2:=.int .i64 y.k) (v3:=.string y.p) (v4:=.int .i64 y.g) (v5:=.int .i64 y.d) w2)
  have hb:=(Below.refl w2.heap.size w2).alloc (Nat.le_refl _) (.cells #[.int .i64 y.h,.int .i64 y.a,.int .i64 y.k,.string y.p,.int .i64 y.g,.int .i64 y.d] 34)
  have HRBo:=Lib.hid HRB.out
  replace HB:=Lib.hid (HB.out.trans (hb.mono HL.out))
  replace HL:=Lib.hid (Nat.le_trans HL.out hb.size)
  replace HRB:=Lib.hid (Nat.le_trans HRB.out hb.size)
  replace HA:=Lib.hid (HA.out.below hb)
  replace HD:=Lib.hid (HD.out.below hb)
  replace FN:=Lib.hid (FN.out.below hb)
  replace FR:=Lib.hid (FR.out.below hb)
  replace HI:=Lib.hid (HI.out.below hb)
  clear hb
  have HXL:=Lib.hid (show B+2≤w2.heap.size from HRBo.out)
  generalize w2.heap.size=XL at *
  generalize w2.alloc (.cells #[.int .i64 y.h,.int .i64 y.a,.int .i64 y.k,.string y.p,.int .i64 y.g,.int .i64 y.d] 34)=w3 at *
  obtain ⟨FNc0,FNc1,FNc2⟩:=FN.out.cells
  obtain ⟨FRc0,FRc1⟩:=FR.out.cells
  obtain ⟨FLc0,FLc1,FLc2,FLc3,FLc4,FLc5⟩:=FL.out.cells
  go_cut [75] from 65 (fun v wx=>v=.bool (decide (y.k=3∧at_ < trE l ⟨y.g,y.d⟩))∧Below w3.heap.size w3 wx)
  case first =>
   by_cases k3:y.k=3
   ·have t3:(y.k == 3)=true:=by simp [k3]
    have htr:=sc_trip HY1.out (Or.inr k3)
    have K3:=Lib.hid k3;clear k3
    go_wp2_with fail
    refine (HEN.out _ htr w3 HA.out HD.out).mono ?_;rintro e wz ⟨rfl,hbz⟩
    by_cases hS:at_ < trE l ⟨y.g,y.d⟩
    ·have hSd:decide (at_ < trE l ⟨y.g,y.d⟩)=true:=decide_eq_true (by omega)
     go_wp2
     go_meet
     exact ⟨congrArg Value.bool (decide_eq_true ⟨K3.out,hS⟩).symm,hbz⟩
    ·have hSd:decide (at_ < trE l ⟨y.g,y.d⟩)=false:=decide_eq_false (by omega)
     go_wp2
     go_meet
     exact ⟨congrArg Value.bool (decide_eq_false (fun hh=>by have:=hh.2;omega)).symm,hbz⟩
   ·have t3:(y.k == 3)=false:=by simp [k3]
    go_wp2
    go_meet
    exact ⟨congrArg Value.bool (decide_eq_false (fun hh=>k3 hh.1)).symm,Below.refl _ _⟩
  case rest =>
   obtain ⟨rfl,hb⟩:=hcut
   generalize wc=w4 at *
   clear FNc0 FNc1 FNc2 FRc0 FRc1 FLc0 FLc1 FLc2 FLc3 FLc4 FLc5
   replace HB:=Lib.hid (HB.out.trans (hb.mono HL.out))
   replace HL:=Lib.hid (Nat.le_trans HL.out hb.size)
   replace HRB:=Lib.hid (Nat.le_trans HRB.out hb.size)
   replace HA:=Lib.hid (HA.out.below hb)
   replace HD:=Lib.hid (HD.out.below hb)
   replace FN:=Lib.hid (FN.out.below hb)
   replace FR:=Lib.hid (FR.out.below hb)
   replace HI:=Lib.hid (HI.out.below hb)
   replace FL:=Lib.hid (FL.out.below hb)
   clear hb
   by_cases hld:y.k=3∧at_ < trE l ⟨y.g,y.d⟩
   ·rw [decide_eq_true hld]
    have HV:=Lib.hid (HVL.out HND.out hld.1 hld.2)
    have htr:=sc_trip HY1.out (Or.inr hld.1)
    obtain ⟨FNc0,FNc1,FNc2⟩:=FN.out.cells
    obtain ⟨FRc0,FRc1⟩:=FR.out.cells
    obtain ⟨FLc0,FLc1,FLc2,FLc3,FLc4,FLc5⟩:=FL.out.cells
    go_wp2_with fail
    clear FNc0 FNc1 FNc2 FRc0 FRc1 FLc0 FLc1 FLc2 FLc3 FLc4 FLc5
    refine (HAL.out _ htr w4 HA.out HD.out).mono ?_;rintro e wv ⟨⟨v1,v2,rfl,o1,o2⟩,hb⟩
    replace o1:=own_mono o1 (show B+2≤w4.heap.size from HRB.out);replace o2:=OwnK.mono o2 (show B+2≤w4.heap.size from HRB.out)
    replace HB:=Lib.hid (HB.out.trans (hb.mono HL.out))
    replace HL:=Lib.hid (Nat.le_trans HL.out hb.size)
    replace HRB:=Lib.hid (Nat.le_trans HRB.out hb.size)
    replace HA:=Lib.hid (HA.out.below hb)
    replace HD:=Lib.hid (HD.out.below hb)
    replace FN:=Lib.hid (FN.out.below hb)
    replace FR:=Lib.hid (FR.out.below hb)
    replace HI:=Lib.hid (HI.out.below hb)
    replace FL:=Lib.hid (FL.out.below hb)
    clear hb
    rw [← HV.out.1,← HPP.out] at o1
    rw [← HV.out.2,← HRR.out] at o2
    obtain ⟨A1,n1,rfl⟩:=row_opens o1
    obtain ⟨A2,n2,rfl⟩:=row_opens o2
    obtain ⟨FNc0,FNc1,FNc2⟩:=FN.out.cells
    obtain ⟨FRc0,FRc1⟩:=FR.out.cells
    obtain ⟨FLc0,FLc1,FLc2,FLc3,FLc4,FLc5⟩:=FL.out.cells
    obtain ⟨r0,r1⟩:=FR.out.free
    have hrl:=FR.out.lt
    go_wp2
    obtain ⟨z,q1,q2,q3⟩:=bel_stored FR.out o1 o2 HB.out (by omega) (by omega)
    obtain ⟨y0,y1⟩:=z.cells
    refine bodyPost_ret (v:=.agg #[.slice A1 PP.length n1,.slice A2 RR.length n2]) (by simp [results,Tryz.results101,go_sem,y0,y1]) rfl ⟨⟨_,_,rfl,q1,q2⟩,q3⟩
   rw [decide_eq_false hld]
   have HV:=Lib.hid (HVE.out (by rw [← HN1.out];exact hFl) k4 hld)
   clear hld
   obtain ⟨FNc0,FNc1,FNc2⟩:=FN.out.cells
   obtain ⟨FRc0,FRc1⟩:=FR.out.cells
   obtain ⟨FLc0,FLc1,FLc2,FLc3,FLc4,FLc5⟩:=FL.out.cells
   go_upto_region 14 with (fail)
   clear FNc0 FNc1 FNc2 FRc0 FRc1 FLc0 FLc1 FLc2 FLc3 FLc4 FLc5
   obtain ⟨FNc0,FNc1,FNc2⟩:=FN.out.cells
   obtain ⟨FRc0,FRc1⟩:=FR.out.cells
   obtain ⟨FLc0,FLc1,FLc2,FLc3,FLc4,FLc5⟩:=FL.out.cells
   have hnl2:=FN.out.lt;have hxl:=FL.out.lt
   obtain ⟨WW,hWW⟩:∃ WW:World,WW=w4:=⟨_,rfl⟩
   subst hWW
   have HV0:=Lib.hid ((Below.refl WW.heap.size WW).drew)
   refine wp_region_held_drew (S:=fun w'=>w'.cell? ⟨B,0,none⟩=some (.slice A l.length ca)∧w'.cell? ⟨B,1,none⟩=some (.slice D zs.length cd)∧w'.cell? ⟨B,2,none⟩=some (.int .i64 x)∧w'.cell? ⟨XL,0,none⟩=some (.int .i64 y.h)∧w'.cell? ⟨XL,1,none⟩=some (.int .i64 y.a)∧w'.cell? ⟨XL,2,none⟩=some (.int .i64 y.k)∧w'.cell? ⟨XL,3,none⟩=some (.string y.p)∧w'.cell? ⟨XL,4,none⟩=some (.int .i64 y.g)∧w'.cell? ⟨XL,5,none⟩=some (.int .i64 y.d)) (by kernel_rfl) ?_ (fun hHeld=>?_)
   ·(try dsimp only);go_keep
   try dsimp only
   try simp only [Act.put]
   try simp only [List.setIfInBounds_toArray]
   try simp only [List.set_cons_zero,List.set_cons_succ]
   refine wpAnyH_take (i:=0) (oi:=_) (v:=?vq0e) rfl (by kernel_rfl) (by kernel_rfl) (by kernel_rfl) (fun _ _ _ h=>h) (Or.inl ⟨by rfl,?hyq0e⟩) (by assumption) ?restq0e
   case hyq0e=>(intro w hSw;(try dsimp only at hSw);go_simp <;> try with_reducible rfl)
   try dsimp only
   try simp only [List.getElem_toArray,List.getElem_cons_zero]
   try simp only [Act.put]
   try simp only [List.setIfInBounds_toArray]
   try simp only [List.set_cons_zero,List.set_cons_succ]
   refine wpAnyH_take (i:=1) (oi:=_) (v:=?vq1e) rfl (by kernel_rfl) (by kernel_rfl) (by kernel_rfl) (fun _ _ _ h=>h) (Or.inl ⟨by rfl,?hyq1e⟩) (by assumption) ?restq1e
   case hyq1e=>(intro w hSw;(try dsimp only at hSw);go_simp <;> try with_reducible rfl)
   try dsimp only
   try simp only [List.getElem_toArray,List.getElem_cons_succ,List.getElem_cons_zero]
   try simp only [Act.put]
   try simp only [List.setIfInBounds_toArray]
   try simp only [List.set_cons_zero,List.set_cons_succ]
   refine wpAnyH_take (i:=2) (oi:=_) (v:=?vq2e) rfl (by kernel_rfl) (by kernel_rfl) (by kernel_rfl) (fun _ _ _ h=>h) (Or.inl ⟨by rfl,?hyq2e⟩) (by assumption) ?restq2e
   case hyq2e=>(intro w hSw;(try dsimp only at hSw);go_simp <;> try with_reducible rfl)
   try dsimp only
   try simp only [List.getElem_toArray,List.getElem_cons_succ,List.getElem_cons_zero]
   try simp only [Act.put]
   try simp only [List.setIfInBounds_toArray]
   try simp only [List.set_cons_zero,List.set_cons_succ]
   refine wpAnyH_take (i:=4) (oi:=_) (v:=?vq4e) rfl (by kernel_rfl) (by kernel_rfl) (by kernel_rfl) (fun _ _ _ h=>h) (Or.inl ⟨by rfl,?hyq4e⟩) (by assumption) ?restq4e
   case hyq4e=>(intro w hSw;(try dsimp only at hSw);go_simp <;> try with_reducible rfl)
   try dsimp only
   try simp only [List.getElem_toArray,List.getElem_cons_succ,List.getElem_cons_zero]
   try simp only [Act.put]
   try simp only [List.setIfInBounds_toArray]
   try simp only [List.set_cons_zero,List.set_cons_succ]
   refine wpAnyH_take (i:=5) (oi:=_) (v:=?vq5e) rfl (by kernel_rfl) (by kernel_rfl) (by kernel_rfl) (fun _ _ _ h=>h) (Or.inl ⟨by rfl,?hyq5e⟩) (by assumption) ?restq5e
   case hyq5e=>(intro w hSw;(try dsimp only at hSw);go_simp <;> try with_reducible rfl)
   try dsimp only
   try simp only [List.getElem_toArray,List.getElem_cons_succ,List.getElem_cons_zero]
   try simp only [Act.put]
   try simp only [List.setIfInBounds_toArray]
   try simp only [List.set_cons_zero,List.set_cons_succ]
   clear FNc0 FNc1 FNc2 FRc0 FRc1 FLc0 FLc1 FLc2 FLc3 FLc4 FLc5
   clear hHeld
   generalize WW.drew=V0 at *
   refine wpAnyH_ready (rs:=[3]) (by kernel_rfl) (by simp) ?_
   refine AllReadyH.cons (o:=_) rfl (fun K hK=>?_) AllReadyH.nil
   go_simp
   go_at_call 130
   refine (HBH.out y V0 (HA.out.below HV0.out) (HD.out.below HV0.out)).mono ?_;rintro e V1 ⟨rfl,hu⟩
   have HV1:=Lib.hid (HV0.out.trans (hu.mono HV0.out.size))
   clear hu
   obtain ⟨FNc0,FNc1,FNc2⟩:=(FN.out.below HV1.out).cells
   obtain ⟨FLc0,FLc1,FLc2,FLc3,FLc4,FLc5⟩:=(FL.out.below HV1.out).cells
   refine hK.out _ _ ?_ (fun hHeld=>?_)
   ·(try dsimp only);go_keep
   clear hK K
   clear hHeld FNc0 FNc1 FNc2 FLc0 FLc1 FLc2 FLc3 FLc4 FLc5
   try dsimp only
   try simp only [List.getElem_toArray,List.getElem_cons_succ,List.getElem_cons_zero]
   try simp only [Act.put]
   try simp only [List.setIfInBounds_toArray]
   try simp only [List.set_cons_zero,List.set_cons_succ]
   refine wpAnyH_ready (rs:=[6]) (by kernel_rfl) (by simp) ?_
   refine AllReadyH.cons (o:=_) rfl (fun K hK=>?_) AllReadyH.nil
   go_simp
   go_at_call 169
   refine (HAE.out y HY1.out HYP.out V1 (HA.out.below HV1.out) (HD.out.below HV1.out)).mono ?_;rintro e V2 ⟨⟨v1,v2,rfl,o1,o2⟩,hu⟩
   have HV2:=Lib.hid (HV1.out.trans (hu.mono HV1.out.size))
   replace o1:=own_mono o1 (show B+2≤V1.heap.size from Nat.le_trans HRB.out HV1.out.size);replace o2:=OwnK.mono o2 (show B+2≤V1.heap.size from Nat.le_trans HRB.out HV1.out.size)
   clear hu
   rw [← HV.out.1,← HPP.out] at o1
   rw [← HV.out.2,← HRR.out] at o2
   obtain ⟨A1,n1,rfl⟩:=row_opens o1
   obtain ⟨A2,n2,rfl⟩:=row_opens o2
   obtain ⟨FNc0,FNc1,FNc2⟩:=(FN.out.below HV2.out).cells
   obtain ⟨FLc0,FLc1,FLc2,FLc3,FLc4,FLc5⟩:=(FL.out.below HV2.out).cells
   refine hK.out _ _ ?_ (fun hHeld=>?_)
   ·(try dsimp only);go_keep
   clear hK K
   clear hHeld FNc0 FNc1 FNc2 FLc0 FLc1 FLc2 FLc3 FLc4 FLc5
   try dsimp only
   try simp only [List.getElem_toArray,List.getElem_cons_succ,List.getElem_cons_zero]
   try simp only [Act.put]
   try simp only [List.setIfInBounds_toArray]
   try simp only [List.set_cons_zero,List.set_cons_succ]
   refine wpAnyH_ready (rs:=[7]) (by kernel_rfl) (by simp) ?_
   refine AllReadyH.cons (o:=_) rfl (fun K hK=>?_) AllReadyH.nil
   have FRV:=FR.out.below HV2.out
   obtain ⟨x0,x1⟩:=FRV.cells
   obtain ⟨r0,r1⟩:=FRV.free
   go_simp
   clear x0 x1 r0 r1
   have HBV:=HB.out.trans (HV2.out.mono HL.out)
   have hgz:=only_trans (only_set V2 (B+1) 0 (.slice A1 PP.length n1)) (only_set _ (B+1) 1 (.slice A2 RR.length n2))
   obtain ⟨FNc0,FNc1,FNc2⟩:=((FN.out.below HV2.out).apart hgz (fun e=>by have e2:B=B+1:=Option.some.inj e;omega)).cells
   obtain ⟨FLc0,FLc1,FLc2,FLc3,FLc4,FLc5⟩:=((FL.out.below HV2.out).apart hgz (fun e=>by have e2:XL=B+1:=Option.some.inj e;have:=HXL.out;omega)).cells
   obtain ⟨zz,q1,q2,q3⟩:=bel_stored FRV o1 o2 HBV (by omega) (by omega)
   have HQ:=Lib.hid (And.intro zz (And.intro q1 (And.intro q2 q3)))
   clear zz q1 q2 q3 o1 o2 FRV HBV hgz
   refine hK.out _ _ ?_ (fun hHeld=>?_)
   ·(try dsimp only);go_keep
   clear hK K
   clear hHeld FNc0 FNc1 FNc2 FLc0 FLc1 FLc2 FLc3 FLc4 FLc5
   try dsimp only
   try simp only [List.getElem_toArray,List.getElem_cons_succ,List.getElem_cons_zero]
   try simp only [Act.put]
   try simp only [List.setIfInBounds_toArray]
   try simp only [List.set_cons_zero,List.set_cons_succ]
   refine wpAnyH_done (by kernel_rfl) ?_ _
   try dsimp only [Act.put,Oper.dst]
   try dsimp only
   try simp only [List.getElem_toArray,List.getElem_cons_succ,List.getElem_cons_zero]
   try simp only [Act.put]
   try simp only [List.setIfInBounds_toArray]
   try simp only [List.set_cons_zero,List.set_cons_succ]
   obtain ⟨y0,y1⟩:=HQ.out.1.cells
   go_wp2
   refine bodyPost_ret (v:=.agg #[.slice A1 PP.length n1,.slice A2 RR.length n2]) (by simp [results,Tryz.results101,go_sem,y0,y1]) rfl ⟨⟨_,_,rfl,HQ.out.2.1,HQ.out.2.2.1⟩,HQ.out.2.2.2⟩
end Go.Proofs.YtinijleelhbpoaaGreat

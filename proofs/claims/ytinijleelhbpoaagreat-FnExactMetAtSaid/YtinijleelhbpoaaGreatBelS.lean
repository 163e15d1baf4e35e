/- The contracts of spec.l9Meets, MayBeAt and MayRide. Written by mk/bels.py. -/
import Derived.Test.YtinijleelhbpoaaGreatBelM
import Derived.Test.YtinijleelhbpoaaGreatBelR
namespace Go.Proofs.YtinijleelhbpoaaGreat
open Go.RowKit
theorem str_eqb {p q:ByteArray}:(p.toList == q.toList)=decide (p=q):=by
 by_cases e:p=q
 ·subst e;simp
 ·rw [decide_eq_false e,beq_eq_false_iff_ne]
  intro h
  refine e ?_
  rw [ByteArray.toList_eq,ByteArray.toList_eq] at h
  obtain ⟨⟨a⟩⟩:=p
  obtain ⟨⟨b⟩⟩:=q
  simp only at h
  rw [h]
set_option maxRecDepth 100000 in
set_option maxHeartbeats 8000000 in
theorem meets_spec (P:ByteArray) (T:Int) (h a k:Int) (p:ByteArray) (g d:Int) (more:Bool) (A:Option Addr) (ca:Nat) (l:List Lg) (D:Option Addr) (cd:Nat) (zs:List Int) (x:Int) (w:World) (hA:InK 6 lgC w A l) (hD:IntsIn w D zs) (hs:∀ z ∈ l,z.f.size≤maxLen∧z.t.size≤maxLen) (hn:l.length≤1048576) (hm:zs.length≤1048576) :
  Calls Tryz.prog 113 #[.agg #[.slice A l.length ca,.slice D zs.length cd,.int .i64 x],.agg #[.string P,.int .i64 T],.agg #[.int .i64 h,.int .i64 a,.int .i64 k,.string p,.int .i64 g,.int .i64 d],.bool more] w fun e w'=>e=.returned (.bool (meetB l zs x P T ⟨h,a,k,p,g,d⟩ more))∧Below w.heap.size w w':=by
 have HBF:=Lib.hid (fun W (h1:InK 6 lgC W A l) (h2:IntsIn W D zs)=>before_spec h a k p g d A ca l D cd zs x W h1 h2 hs hn hm)
 have HRE:=Lib.hid (fun W (h1:InK 6 lgC W A l) (h2:IntsIn W D zs)=>reach_spec P T (befP l zs x ⟨h,a,k,p,g,d⟩) A ca l D cd zs x W h1 h2 hs hn hm)
 have HV:=Lib.hid (show meetB l zs x P T ⟨h,a,k,p,g,d⟩ more=(!more || (decide (0≤reachB l zs x P T (befP l zs x ⟨h,a,k,p,g,d⟩)) && decide (reachB l zs x P T (befP l zs x ⟨h,a,k,p,g,d⟩)≤befA l zs x ⟨h,a,k,p,g,d⟩))) from rfl)
 clear hs
 generalize meetB l zs x P T ⟨h,a,k,p,g,d⟩ more=V at *
 generalize reachB l zs x P T (befP l zs x ⟨h,a,k,p,g,d⟩)=R at *
 generalize befP l zs x ⟨h,a,k,p,g,d⟩=FP at *
 generalize befA l zs x ⟨h,a,k,p,g,d⟩=FT at *
 cases more with
 | false =>
  clear HBF HRE
  have H3:=three w (.cells #[.slice A l.length ca,.slice D zs.length cd,.int .i64 x] 27) (.cells #[.string P,.int .i64 T] 127) (.cells #[.int .i64 h,.int .i64 a,.int .i64 k,.string p,.int .i64 g,.int .i64 d] 34)
  have FN:=Lib.hid (show Box3 27 _ (w.heap.size) _ _ _ from H3.1)
  have FS:=Lib.hid (show Box2 127 _ (w.heap.size+1) _ _ from H3.2.1)
  have FC:=Lib.hid (show BoxS 34 _ (w.heap.size+2) _ _ _ _ _ _ from H3.2.2.1)
  have hb0:=H3.2.2.2.1
  have HL:=Lib.hid hb0.size
  clear H3
  have HA:=Lib.hid (hA.below hb0)
  have HD:=Lib.hid (hD.below hb0)
  have HB:=Lib.hid hb0
  clear hb0 hA hD
  generalize hB:w.heap.size=B at *
  have HBE:=Lib.hid hB
  go_enter Tryz.func113,Tryz.ntmps113
  go_wp2_with fail
  clear hB
  generalize (((w.alloc (.cells #[.slice A l.length ca,.slice D zs.length cd,.int .i64 x] 27)).alloc (.cells #[.string P,.int .i64 T] 127)).alloc (.cells #[.int .i64 h,.int .i64 a,.int .i64 k,.string p,.int .i64 g,.int .i64 d] 34))=w0 at *
  obtain ⟨FNc0,FNc1,FNc2⟩:=FN.out.cells
  obtain ⟨FSc0,FSc1⟩:=FS.out.cells
  obtain ⟨FCc0,FCc1,FCc2,FCc3,FCc4,FCc5⟩:=FC.out.cells
  go_wp2
  go_ret
  exact ⟨ret_bool HV.out.symm,HB.out⟩
 | true =>
  have H3:=three w (.cells #[.slice A l.length ca,.slice D zs.length cd,.int .i64 x] 27) (.cells #[.string P,.int .i64 T] 127) (.cells #[.int .i64 h,.int .i64 a,.int .i64 k,.string p,.int .i64 g,.int .i64 d] 34)
  have FN:=Lib.hid (show Box3 27 _ (w.heap.size) _ _ _ from H3.1)
  have FS:=Lib.hid (show Box2 127 _ (w.heap.size+1) _ _ from H3.2.1)
  have FC:=Lib.hid (show BoxS 34 _ (w.heap.size+2) _ _ _ _ _ _ from H3.2.2.1)
  have hb0:=H3.2.2.2.1
  have HL:=Lib.hid hb0.size
  clear H3
  have HA:=Lib.hid (hA.below hb0)
  have HD:=Lib.hid (hD.below hb0)
  have HB:=Lib.hid hb0
  clear hb0 hA hD
  generalize hB:w.heap.size=B at *
  have HBE:=Lib.hid hB
  go_enter Tryz.func113,Tryz.ntmps113
  go_wp2_with fail
  clear hB
  generalize (((w.alloc (.cells #[.slice A l.length ca,.slice D zs.length cd,.int .i64 x] 27)).alloc (.cells #[.string P,.int .i64 T] 127)).alloc (.cells #[.int .i64 h,.int .i64 a,.int .i64 k,.string p,.int .i64 g,.int .i64 d] 34))=w0 at *
  refine (HBF.out w0 HA.out HD.out).mono ?_;rintro e w1 ⟨rfl,hb⟩
  replace HB:=Lib.hid (HB.out.trans (hb.mono HL.out))
  replace HL:=Lib.hid (Nat.le_trans HL.out hb.size)
  replace HA:=Lib.hid (HA.out.below hb)
  replace HD:=Lib.hid (HD.out.below hb)
  replace FN:=Lib.hid (FN.out.below hb)
  replace FS:=Lib.hid (FS.out.below hb)
  replace FC:=Lib.hid (FC.out.below hb)
  clear hb
  have FY:=Lib.hid (Box2.new (T:=127) (v0:=.string FP) (v1:=.int .i64 FT) w1)
  have hb:=(Below.refl w1.heap.size w1).alloc (Nat.le_refl _) (.cells #[.string FP,.int .i64 FT] 127)
  replace HB:=Lib.hid (HB.out.trans (hb.mono HL.out))
  replace HL:=Lib.hid (Nat.le_trans HL.out hb.size)
  replace HA:=Lib.hid (HA.out.below hb)
  replace HD:=Lib.hid (HD.out.below hb)
  replace FN:=Lib.hid (FN.out.below hb)
  replace FS:=Lib.hid (FS.out.below hb)
  replace FC:=Lib.hid (FC.out.below hb)
  clear hb
  obtain ⟨FNc0,FNc1,FNc2⟩:=FN.out.cells
  obtain ⟨FSc0,FSc1⟩:=FS.out.cells
  obtain ⟨FCc0,FCc1,FCc2,FCc3,FCc4,FCc5⟩:=FC.out.cells
  obtain ⟨FYc0,FYc1⟩:=FY.out.cells
  go_wp2_with fail
  clear FNc0 FNc1 FNc2 FSc0 FSc1 FCc0 FCc1 FCc2 FCc3 FCc4 FCc5 FYc0 FYc1
  generalize w1.heap.size=XFY at *
  generalize w1.alloc (.cells #[.string FP,.int .i64 FT] 127)=w2 at *
  refine (HRE.out w2 HA.out HD.out).mono ?_;rintro e w3 ⟨rfl,hb⟩
  replace HB:=Lib.hid (HB.out.trans (hb.mono HL.out))
  replace HL:=Lib.hid (Nat.le_trans HL.out hb.size)
  replace HA:=Lib.hid (HA.out.below hb)
  replace HD:=Lib.hid (HD.out.below hb)
  replace FN:=Lib.hid (FN.out.below hb)
  replace FS:=Lib.hid (FS.out.below hb)
  replace FC:=Lib.hid (FC.out.below hb)
  replace FY:=Lib.hid (FY.out.below hb)
  clear hb
  by_cases h0:0≤R
  ·have HVF:=Lib.hid (HV.out.trans (show _=decide (R≤FT) by rw [decide_eq_true h0];rfl))
   obtain ⟨FNc0,FNc1,FNc2⟩:=FN.out.cells
   obtain ⟨FSc0,FSc1⟩:=FS.out.cells
   obtain ⟨FCc0,FCc1,FCc2,FCc3,FCc4,FCc5⟩:=FC.out.cells
   obtain ⟨FYc0,FYc1⟩:=FY.out.cells
   go_wp2
   go_ret
   exact ⟨ret_bool HVF.out.symm,HB.out⟩
  ·have HVF:=Lib.hid (HV.out.trans (show _=false by rw [decide_eq_false h0];rfl))
   obtain ⟨FNc0,FNc1,FNc2⟩:=FN.out.cells
   obtain ⟨FSc0,FSc1⟩:=FS.out.cells
   obtain ⟨FCc0,FCc1,FCc2,FCc3,FCc4,FCc5⟩:=FC.out.cells
   obtain ⟨FYc0,FYc1⟩:=FY.out.cells
   go_wp2
   go_ret
   exact ⟨ret_bool HVF.out.symm,HB.out⟩
set_option maxRecDepth 100000 in
set_option maxHeartbeats 8000000 in
theorem may_at_spec (A:Option Addr) (ca:Nat) (l:List Lg) (D:Option Addr) (cd:Nat) (zs:List Int) (x:Int) (E:Option Addr) (ce:Nat) (ls:List Sc) (th at_:Int) (p:ByteArray) (w:World) (hA:InK 6 lgC w A l) (hD:IntsIn w D zs) (hs:∀ z ∈ l,z.f.size≤maxLen∧z.t.size≤maxLen) (hn:l.length≤1048576) (hm:zs.length≤1048576) (hE:InK 6 scC w E ls) (hk:ls.length≤1048576) (hce:ls.length≤ce) :
  Calls Tryz.prog 48 #[.agg #[.slice A l.length ca,.slice D zs.length cd,.int .i64 x],.slice E ls.length ce,.int .i64 th,.int .i64 at_,.string p] w fun e w'=>e=.returned (.bool (atC l zs x (clB l zs x ls th) at_ p))∧Below w.heap.size w w':=by
 have HLS:=Lib.hid (fun W (h1:InK 6 lgC W A l) (h2:IntsIn W D zs) (h3:InK 6 scC W E ls)=>lss_spec A ca l D cd zs x E ce ls th at_ W h1 h2 hs hn hm h3 hk hce)
 have HNX:=Lib.hid (fun W (h1:InK 6 lgC W A l) (h2:IntsIn W D zs) (h3:InK 6 scC W E ls)=>nxs_spec A ca l D cd zs x E ce ls th at_ W h1 h2 hs hn hm h3 hk hce)
 have HST:=Lib.hid (fun t (htr:trB l zs x t=true) W (h1:InK 6 lgC W A l) (h2:IntsIn W D zs)=>start_tp_spec t htr A ca D cd W h1 h2 hn)
 have HEN:=Lib.hid (fun t (htr:trB l zs x t=true) W (h1:InK 6 lgC W A l) (h2:IntsIn W D zs)=>end_tp_spec t htr A ca D cd W h1 h2 hn)
 have HVA:=Lib.hid (show lsOk (clB l zs x ls th) at_=true→scB l zs x (lsT (clB l zs x ls th) at_)=true from fun h=>by obtain ⟨n,hn,_,e,_⟩:=ls_get h;rw [e];exact clB_mem (List.getElem_mem hn))
 have HVB:=Lib.hid (show nxOk (clB l zs x ls th) at_=true→scB l zs x (nxT (clB l zs x ls th) at_)=true from fun h=>by obtain ⟨hn,e,_⟩:=nx_get h;rw [e];exact clB_mem (List.getElem_mem hn))
 have HBH:=Lib.hid (fun (r:Sc) W (h1:InK 6 lgC W A l) (h2:IntsIn W D zs)=>behind_spec r.h r.a r.k r.p r.g r.d A ca l D cd zs x W h1 h2 hs hn hm)
 have HRE:=Lib.hid (fun P T q W (h1:InK 6 lgC W A l) (h2:IntsIn W D zs)=>reach_spec P T q A ca l D cd zs x W h1 h2 hs hn hm)
 have HME:=Lib.hid (fun P T (r:Sc) more W (h1:InK 6 lgC W A l) (h2:IntsIn W D zs)=>meets_spec P T r.h r.a r.k r.p r.g r.d more A ca l D cd zs x W h1 h2 hs hn hm)
 have HPL:=Lib.hid (fun W (h1:InK 6 lgC W A l)=>places_spec A ca l D cd zs.length x W h1 hn)
 have hpl4:(placesB l).length≤4000000:=by have:=placesB_len l;omega
 have hV:atC l zs x (clB l zs x ls th) at_ p=mayAt l zs x (lsT (clB l zs x ls th) at_) (lsOk (clB l zs x ls th) at_) (nxT (clB l zs x ls th) at_) (nxOk (clB l zs x ls th) at_) at_ p:=rfl
 clear hs hk hce
 generalize atC l zs x (clB l zs x ls th) at_ p=V at *
 generalize lsT (clB l zs x ls th) at_=a at *
 generalize lsOk (clB l zs x ls th) at_=ok at *
 generalize nxT (clB l zs x ls th) at_=b at *
 generalize nxOk (clB l zs x ls th) at_=more at *
 unfold mayAt at hV
 have HV:=Lib.hid hV
 clear hV
 have FN:=Lib.hid (Box3.new (T:=27) (v0:=.slice A l.length ca) (v1:=.slice D zs.length cd) (v2:=.int .i64 x) w)
 have hb0:=(Below.refl w.heap.size w).alloc (Nat.le_refl _) (.cells #[.slice A l.length ca,.slice D zs.length cd,.int .i64 x] 27)
 have HL:=Lib.hid hb0.size
 have HA:=Lib.hid (hA.below hb0)
 have HD:=Lib.hid (hD.below hb0)
 have HE:=Lib.hid (hE.below hb0)
 have HB:=Lib.hid hb0
 clear hb0 hA hD hE
 generalize hB:w.heap.size=B at *
 have HBE:=Lib.hid hB
 go_enter Tryz.func48,Tryz.ntmps48
 go_wp2_with fail
 clear hB
 generalize (w.alloc (.cells #[.slice A l.length ca,.slice D zs.length cd,.int .i64 x] 27))=w0 at *
 refine (HLS.out w0 HA.out HD.out HE.out).mono ?_;rintro e w1 ⟨rfl,hb⟩
 replace HB:=Lib.hid (HB.out.trans (hb.mono HL.out))
 replace HL:=Lib.hid (Nat.le_trans HL.out hb.size)
 replace HA:=Lib.hid (HA.out.below hb)
 replace HD:=Lib.hid (HD.out.below hb)
 replace HE:=Lib.hid (HE.out.below hb)
 replace FN:=Lib.hid (FN.out.below hb)
 clear hb
 have FA:=Lib.hid (BoxS.new (T:=34) (v0:=.int .i64 a.h) (v1:=.int .i64 a.a) (v2:=.int .i64 a.k) (v3:=.string a.p) (v4:=.int .i64 a.g) (v5:=.int .i64 a.d) w1)
 have hb:=(Below.refl w1.heap.size w1).alloc (Nat.le_refl _) (.cells #[.int .i64 a.h,.int .i64 a.a,.int .i64 a.k,.string a.p,.int .i64 a.g,.int .i64 a.d] 34)
 replace HB:=Lib.hid (HB.out.trans (hb.mono HL.out))
 replace HL:=Lib.hid (Nat.le_trans HL.out hb.size)
 replace HA:=Lib.hid (HA.out.below hb)
 replace HD:=Lib.hid (HD.out.below hb)
 replace HE:=Lib.hid (HE.out.below hb)
 replace FN:=Lib.hid (FN.out.below hb)
 clear hb
 obtain ⟨FNc0,FNc1,FNc2⟩:=FN.out.cells
 obtain ⟨FAc0,FAc1,FAc2,FAc3,FAc4,FAc5⟩:=FA.out.cells
 go_wp2_with fail
 clear FNc0 FNc1 FNc2 FAc0 FAc1 FAc2 FAc3 FAc4 FAc5
 generalize w1.heap.size=XFA at *
 generalize w1.alloc (.cells #[.int .i64 a.h,.int .i64 a.a,.int .i64 a.k,.string a.p,.int .i64 a.g,.int .i64 a.d] 34)=w2 at *
 refine (HNX.out w2 HA.out HD.out HE.out).mono ?_;rintro e w3 ⟨rfl,hb⟩
 replace HB:=Lib.hid (HB.out.trans (hb.mono HL.out))
 replace HL:=Lib.hid (Nat.le_trans HL.out hb.size)
 replace HA:=Lib.hid (HA.out.below hb)
 replace HD:=Lib.hid (HD.out.below hb)
 replace HE:=Lib.hid (HE.out.below hb)
 replace FN:=Lib.hid (FN.out.below hb)
 replace FA:=Lib.hid (FA.out.below hb)
 clear hb
 have FB:=Lib.hid (BoxS.new (T:=34) (v0:=.int .i64 b.h) (v1:=.int .i64 b.a) (v2:=.int .i64 b.k) (v3:=.string b.p) (v4:=.int .i64 b.g) (v5:=.int .i64 b.d) w3)
 have hb:=(Below.refl w3.heap.size w3).alloc (Nat.le_refl _) (.cells #[.int .i64 b.h,.int .i64 b.a,.int .i64 b.k,.string b.p,.int .i64 b.g,.int .i64 b.d] 34)
 replace HB:=Lib.hid (HB.out.trans (hb.mono HL.out))
 replace HL:=Lib.hid (Nat.le_trans HL.out hb.size)
 replace HA:=Lib.hid (HA.out.below hb)
 replace HD:=Lib.hid (HD.out.below hb)
 replace HE:=Lib.hid (HE.out.below hb)
 replace FN:=Lib.hid (FN.out.below hb)
 replace FA:=Lib.hid (FA.out.below hb)
 clear hb
 clear HLS HNX
 clear HE
 cases ok with
 | false =>
  have HVF:=Lib.hid (HV.out.trans (if_pos (Or.inl rfl)))
  clear HV
  obtain ⟨FNc0,FNc1,FNc2⟩:=FN.out.cells
  obtain ⟨FAc0,FAc1,FAc2,FAc3,FAc4,FAc5⟩:=FA.out.cells
  obtain ⟨FBc0,FBc1,FBc2,FBc3,FBc4,FBc5⟩:=FB.out.cells
  go_wp2
  generalize w3.heap.size=XFB at *
  generalize w3.alloc (.cells #[.int .i64 b.h,.int .i64 b.a,.int .i64 b.k,.string b.p,.int .i64 b.g,.int .i64 b.d] 34)=w4 at *
  go_ret
  exact ⟨ret_bool HVF.out.symm,HB.out⟩
 | true =>
  have HVA1:=Lib.hid (HVA.out rfl);clear HVA
  by_cases k4:a.k=4
  ·have t4:(a.k == 4)=true:=by simp [k4]
   have HVF:=Lib.hid (HV.out.trans (if_pos (Or.inr (Or.inl k4))))
   clear HV
   obtain ⟨FNc0,FNc1,FNc2⟩:=FN.out.cells
   obtain ⟨FAc0,FAc1,FAc2,FAc3,FAc4,FAc5⟩:=FA.out.cells
   obtain ⟨FBc0,FBc1,FBc2,FBc3,FBc4,FBc5⟩:=FB.out.cells
   go_wp2
   generalize w3.heap.size=XFB at *
   generalize w3.alloc (.cells #[.int .i64 b.h,.int .i64 b.a,.int .i64 b.k,.string b.p,.int .i64 b.g,.int .i64 b.d] 34)=w4 at *
   go_ret
   exact ⟨ret_bool HVF.out.symm,HB.out⟩
  have t4:(a.k == 4)=false:=by simp [k4]
  obtain ⟨FNc0,FNc1,FNc2⟩:=FN.out.cells
  obtain ⟨FAc0,FAc1,FAc2,FAc3,FAc4,FAc5⟩:=FA.out.cells
  obtain ⟨FBc0,FBc1,FBc2,FBc3,FBc4,FBc5⟩:=FB.out.cells
  go_wp2_with fail
  clear FNc0 FNc1 FNc2 FAc0 FAc1 FAc2 FAc3 FAc4 FAc5 FBc0 FBc1 FBc2 FBc3 FBc4 FBc5
  generalize w3.heap.size=XFB at *
  generalize w3.alloc (.cells #[.int .i64 b.h,.int .i64 b.a,.int .i64 b.k,.string b.p,.int .i64 b.g,.int .i64 b.d] 34)=w4 at *
  refine (HPL.out w4 HA.out).mono ?_;rintro e w5 ⟨⟨v,rfl,ho⟩,hb⟩
  replace HB:=Lib.hid (HB.out.trans (hb.mono HL.out))
  replace HL:=Lib.hid (Nat.le_trans HL.out hb.size)
  replace HA:=Lib.hid (HA.out.below hb)
  replace HD:=Lib.hid (HD.out.below hb)
  replace FN:=Lib.hid (FN.out.below hb)
  replace FA:=Lib.hid (FA.out.below hb)
  replace FB:=Lib.hid (FB.out.below hb)
  clear hb
  obtain ⟨PA,cp,rfl,hP⟩:=own_strs ho
  have HIX:=Lib.hid (index_spec PA cp (placesB l) p w5 hP hpl4)
  clear ho hP
  generalize idxI (placesB l) p=J at *
  obtain ⟨FNc0,FNc1,FNc2⟩:=FN.out.cells
  obtain ⟨FAc0,FAc1,FAc2,FAc3,FAc4,FAc5⟩:=FA.out.cells
  obtain ⟨FBc0,FBc1,FBc2,FBc3,FBc4,FBc5⟩:=FB.out.cells
  go_wp2_with fail
  clear FNc0 FNc1 FNc2 FAc0 FAc1 FAc2 FAc3 FAc4 FAc5 FBc0 FBc1 FBc2 FBc3 FBc4 FBc5
  refine HIX.out.mono ?_;rintro e w9 ⟨rfl,rfl⟩
  clear HIX
  by_cases hJ:J < 0
  ·have HVF:=Lib.hid (HV.out.trans (if_pos (Or.inr (Or.inr hJ))))
   clear HV
   obtain ⟨FNc0,FNc1,FNc2⟩:=FN.out.cells
   obtain ⟨FAc0,FAc1,FAc2,FAc3,FAc4,FAc5⟩:=FA.out.cells
   obtain ⟨FBc0,FBc1,FBc2,FBc3,FBc4,FBc5⟩:=FB.out.cells
   go_wp2
   go_ret
   exact ⟨ret_bool HVF.out.symm,HB.out⟩
  replace HV:=Lib.hid (HV.out.trans (if_neg (fun h=>h.elim (fun h=>by cases h) (fun h=>h.elim k4 (fun h=>by omega)))))
  have hJd:decide (J < 0)=false:=decide_eq_false (by omega)
  obtain ⟨FNc0,FNc1,FNc2⟩:=FN.out.cells
  obtain ⟨FAc0,FAc1,FAc2,FAc3,FAc4,FAc5⟩:=FA.out.cells
  obtain ⟨FBc0,FBc1,FBc2,FBc3,FBc4,FBc5⟩:=FB.out.cells
  go_upto_region 5 with (fail)
  clear FNc0 FNc1 FNc2 FAc0 FAc1 FAc2 FAc3 FAc4 FAc5 FBc0 FBc1 FBc2 FBc3 FBc4 FBc5
  obtain ⟨FNc0,FNc1,FNc2⟩:=FN.out.cells
  obtain ⟨FAc0,FAc1,FAc2,FAc3,FAc4,FAc5⟩:=FA.out.cells
  obtain ⟨FBc0,FBc1,FBc2,FBc3,FBc4,FBc5⟩:=FB.out.cells
  go_cut [59] from 46 (fun v wx=>v=.bool (decide (more=true∧b.k=2∧trS l ⟨b.g,b.d⟩≤at_))∧Below w9.heap.size w9 wx)
  case first =>
   cases more with
   | false =>
    go_wp2
    go_meet
    exact ⟨congrArg Value.bool (decide_eq_false (fun hh=>by first | cases hh.1 | exact hh.1)).symm,Below.refl _ _⟩
   | true =>
    by_cases k2:b.k=2
    ·have t2:(b.k == 2)=true:=by simp [k2]
     have htr:=sc_trip (HVB.out rfl) (Or.inl k2)
     have K2:=Lib.hid k2;clear k2
     go_wp2_with fail
     refine (HST.out _ htr w9 HA.out HD.out).mono ?_;rintro e wz ⟨rfl,hbz⟩
     by_cases hS:trS l ⟨b.g,b.d⟩≤at_
     ·have hSd:decide (trS l ⟨b.g,b.d⟩≤at_)=true:=decide_eq_true (by omega)
      go_wp2
      go_meet
      exact ⟨congrArg Value.bool (decide_eq_true (by first | exact ⟨rfl,K2.out,hS⟩ | exact ⟨trivial,K2.out,hS⟩)).symm,hbz⟩
     ·have hSd:decide (trS l ⟨b.g,b.d⟩≤at_)=false:=decide_eq_false (by omega)
      go_wp2
      go_meet
      exact ⟨congrArg Value.bool (decide_eq_false (fun hh=>by have:=hh.2.2;omega)).symm,hbz⟩
    ·have t2:(b.k == 2)=false:=by simp [k2]
     go_wp2
     go_meet
     exact ⟨congrArg Value.bool (decide_eq_false (fun hh=>k2 hh.2.1)).symm,Below.refl _ _⟩
  case rest =>
   obtain ⟨rfl,hb⟩:=hcut
   generalize wc=w6 at *
   clear FNc0 FNc1 FNc2 FAc0 FAc1 FAc2 FAc3 FAc4 FAc5 FBc0 FBc1 FBc2 FBc3 FBc4 FBc5
   replace HB:=Lib.hid (HB.out.trans (hb.mono HL.out))
   replace HL:=Lib.hid (Nat.le_trans HL.out hb.size)
   replace HA:=Lib.hid (HA.out.below hb)
   replace HD:=Lib.hid (HD.out.below hb)
   replace FN:=Lib.hid (FN.out.below hb)
   replace FA:=Lib.hid (FA.out.below hb)
   replace FB:=Lib.hid (FB.out.below hb)
   clear hb
   by_cases hdr:more=true∧b.k=2∧trS l ⟨b.g,b.d⟩≤at_
   ·rw [decide_eq_true hdr]
    replace HV:=Lib.hid (HV.out.trans (if_pos hdr))
    have htr:=sc_trip (HVB.out hdr.1) (Or.inl hdr.2.1)
    clear hdr HVB HVA1 k4 t4 hJ hJd
    obtain ⟨FNc0,FNc1,FNc2⟩:=FN.out.cells
    obtain ⟨FAc0,FAc1,FAc2,FAc3,FAc4,FAc5⟩:=FA.out.cells
    obtain ⟨FBc0,FBc1,FBc2,FBc3,FBc4,FBc5⟩:=FB.out.cells
    go_wp2_with fail
    clear FNc0 FNc1 FNc2 FAc0 FAc1 FAc2 FAc3 FAc4 FAc5 FBc0 FBc1 FBc2 FBc3 FBc4 FBc5
    refine (HEN.out _ htr w6 HA.out HD.out).mono ?_;rintro e w7 ⟨rfl,hb⟩
    replace HB:=Lib.hid (HB.out.trans (hb.mono HL.out))
    replace HL:=Lib.hid (Nat.le_trans HL.out hb.size)
    replace HA:=Lib.hid (HA.out.below hb)
    replace HD:=Lib.hid (HD.out.below hb)
    replace FN:=Lib.hid (FN.out.below hb)
    replace FA:=Lib.hid (FA.out.below hb)
    replace FB:=Lib.hid (FB.out.below hb)
    clear hb
    obtain ⟨_,_,k0,hg0,hkl,hlg,_⟩:=trB_of htr
    dsimp only at hg0 hlg
    replace HV:=Lib.hid (HV.out.trans (by rw [hlg]))
    obtain ⟨G0,eq0,hG0,c0,c1,c2,c3,c4,c5⟩:=HA.out.lg k0 hkl
    subst eq0
    obtain ⟨bh,ba,bk,bp,bg,bd⟩:=b
    dsimp only at *
    subst hg0
    generalize trE l ⟨(k0:Int),bd⟩=R at *
    generalize l[k0]=y at *
    have hki:(k0:Int) < (l.length:Int):=by omega
    have hkz:¬ (k0:Int) < 0:=by omega
    have hse:=str_eqb (p:=p) (q:=y.t)
    clear hlg htr
    by_cases hR:R≤at_
    ·have HVF:=Lib.hid (HV.out.trans (show _=(p.toList == y.t.toList) by rw [decide_eq_true hR,hse];rfl))
     clear HV hse
     obtain ⟨FNc0,FNc1,FNc2⟩:=FN.out.cells
     obtain ⟨FAc0,FAc1,FAc2,FAc3,FAc4,FAc5⟩:=FA.out.cells
     obtain ⟨FBc0,FBc1,FBc2,FBc3,FBc4,FBc5⟩:=FB.out.cells
     go_wp2
     go_ret
     exact ⟨ret_bool HVF.out.symm,HB.out⟩
    ·have HVF:=Lib.hid (HV.out.trans (show _=false by rw [decide_eq_false hR];rfl))
     clear HV hse
     obtain ⟨FNc0,FNc1,FNc2⟩:=FN.out.cells
     obtain ⟨FAc0,FAc1,FAc2,FAc3,FAc4,FAc5⟩:=FA.out.cells
     obtain ⟨FBc0,FBc1,FBc2,FBc3,FBc4,FBc5⟩:=FB.out.cells
     go_wp2
     go_ret
     exact ⟨ret_bool HVF.out.symm,HB.out⟩
   rw [decide_eq_false hdr]
   replace HV:=Lib.hid (HV.out.trans (if_neg hdr))
   clear hdr HVB
   obtain ⟨FNc0,FNc1,FNc2⟩:=FN.out.cells
   obtain ⟨FAc0,FAc1,FAc2,FAc3,FAc4,FAc5⟩:=FA.out.cells
   obtain ⟨FBc0,FBc1,FBc2,FBc3,FBc4,FBc5⟩:=FB.out.cells
   go_upto_region 7 with (fail)
   clear FNc0 FNc1 FNc2 FAc0 FAc1 FAc2 FAc3 FAc4 FAc5 FBc0 FBc1 FBc2 FBc3 FBc4 FBc5
   obtain ⟨FNc0,FNc1,FNc2⟩:=FN.out.cells
   obtain ⟨FAc0,FAc1,FAc2,FAc3,FAc4,FAc5⟩:=FA.out.cells
   obtain ⟨FBc0,FBc1,FBc2,FBc3,FBc4,FBc5⟩:=FB.out.cells
   go_cut [88] from 78 (fun v wx=>v=.bool (decide (a.k=3∧at_ < trE l ⟨a.g,a.d⟩))∧Below w6.heap.size w6 wx)
   case first =>
    by_cases k3:a.k=3
    ·have t3:(a.k == 3)=true:=by simp [k3]
     have htr:=sc_trip HVA1.out (Or.inr k3)
     have K3:=Lib.hid k3;clear k3
     go_wp2_with fail
     refine (HEN.out _ htr w6 HA.out HD.out).mono ?_;rintro e wz ⟨rfl,hbz⟩
     by_cases hS:at_ < trE l ⟨a.g,a.d⟩
     ·have hSd:decide (at_ < trE l ⟨a.g,a.d⟩)=true:=decide_eq_true (by omega)
      go_wp2
      go_meet
      exact ⟨congrArg Value.bool (decide_eq_true ⟨K3.out,hS⟩).symm,hbz⟩
     ·have hSd:decide (at_ < trE l ⟨a.g,a.d⟩)=false:=decide_eq_false (by omega)
      go_wp2
      go_meet
      exact ⟨congrArg Value.bool (decide_eq_false (fun hh=>by have:=hh.2;omega)).symm,hbz⟩
    ·have t3:(a.k == 3)=false:=by simp [k3]
     go_wp2
     go_meet
     exact ⟨congrArg Value.bool (decide_eq_false (fun hh=>k3 hh.1)).symm,Below.refl _ _⟩
   case rest =>
    obtain ⟨rfl,hb⟩:=hcut
    generalize wc=w7 at *
    clear FNc0 FNc1 FNc2 FAc0 FAc1 FAc2 FAc3 FAc4 FAc5 FBc0 FBc1 FBc2 FBc3 FBc4 FBc5
    replace HB:=Lib.hid (HB.out.trans (hb.mono HL.out))
    replace HL:=Lib.hid (Nat.le_trans HL.out hb.size)
    replace HA:=Lib.hid (HA.out.below hb)
    replace HD:=Lib.hid (HD.out.below hb)
    replace FN:=Lib.hid (FN.out.below hb)
    replace FA:=Lib.hid (FA.out.below hb)
    replace FB:=Lib.hid (FB.out.below hb)
    clear hb
    by_cases hld:a.k=3∧at_ < trE l ⟨a.g,a.d⟩
    ·rw [decide_eq_true hld]
     replace HV:=Lib.hid (HV.out.trans (if_pos hld))
     have htr:=sc_trip HVA1.out (Or.inr hld.1)
     clear hld HVA1 k4 t4 hJ hJd
     obtain ⟨FNc0,FNc1,FNc2⟩:=FN.out.cells
     obtain ⟨FAc0,FAc1,FAc2,FAc3,FAc4,FAc5⟩:=FA.out.cells
     obtain ⟨FBc0,FBc1,FBc2,FBc3,FBc4,FBc5⟩:=FB.out.cells
     go_wp2_with fail
     clear FNc0 FNc1 FNc2 FAc0 FAc1 FAc2 FAc3 FAc4 FAc5 FBc0 FBc1 FBc2 FBc3 FBc4 FBc5
     refine (HST.out _ htr w7 HA.out HD.out).mono ?_;rintro e w8 ⟨rfl,hb⟩
     replace HB:=Lib.hid (HB.out.trans (hb.mono HL.out))
     replace HL:=Lib.hid (Nat.le_trans HL.out hb.size)
     replace HA:=Lib.hid (HA.out.below hb)
     replace HD:=Lib.hid (HD.out.below hb)
     replace FN:=Lib.hid (FN.out.below hb)
     replace FA:=Lib.hid (FA.out.below hb)
     replace FB:=Lib.hid (FB.out.below hb)
     clear hb
     obtain ⟨_,_,k0,hg0,hkl,hlg,_⟩:=trB_of htr
     dsimp only at hg0 hlg
     replace HV:=Lib.hid (HV.out.trans (by rw [hlg]))
     obtain ⟨G0,eq0,hG0,c0,c1,c2,c3,c4,c5⟩:=HA.out.lg k0 hkl
     subst eq0
     obtain ⟨ah,aa,ak,ap,ag,ad⟩:=a
     dsimp only at *
     subst hg0
     generalize trS l ⟨(k0:Int),ad⟩=R at *
     generalize l[k0]=y at *
     have hki:(k0:Int) < (l.length:Int):=by omega
     have hkz:¬ (k0:Int) < 0:=by omega
     have hse:=str_eqb (p:=p) (q:=y.f)
     clear hlg htr
     by_cases hR:at_ < R
     ·have HVF:=Lib.hid (HV.out.trans (show _=(p.toList == y.f.toList) by rw [decide_eq_true hR,hse];rfl))
      clear HV hse
      obtain ⟨FNc0,FNc1,FNc2⟩:=FN.out.cells
      obtain ⟨FAc0,FAc1,FAc2,FAc3,FAc4,FAc5⟩:=FA.out.cells
      obtain ⟨FBc0,FBc1,FBc2,FBc3,FBc4,FBc5⟩:=FB.out.cells
      go_wp2
      go_ret
      exact ⟨ret_bool HVF.out.symm,HB.out⟩
     ·have HVF:=Lib.hid (HV.out.trans (show _=false by rw [decide_eq_false hR];rfl))
      clear HV hse
      obtain ⟨FNc0,FNc1,FNc2⟩:=FN.out.cells
      obtain ⟨FAc0,FAc1,FAc2,FAc3,FAc4,FAc5⟩:=FA.out.cells
      obtain ⟨FBc0,FBc1,FBc2,FBc3,FBc4,FBc5⟩:=FB.out.cells
      go_wp2
      go_ret
      exact ⟨ret_bool HVF.out.symm,HB.out⟩
    rw [decide_eq_false hld]
    replace HV:=Lib.hid (HV.out.trans (if_neg hld))
    clear hld
    obtain ⟨FNc0,FNc1,FNc2⟩:=FN.out.cells
    obtain ⟨FAc0,FAc1,FAc2,FAc3,FAc4,FAc5⟩:=FA.out.cells
    obtain ⟨FBc0,FBc1,FBc2,FBc3,FBc4,FBc5⟩:=FB.out.cells
    go_wp2_with fail
    clear FNc0 FNc1 FNc2 FAc0 FAc1 FAc2 FAc3 FAc4 FAc5 FBc0 FBc1 FBc2 FBc3 FBc4 FBc5
    obtain ⟨FNc0,FNc1,FNc2⟩:=FN.out.cells
    obtain ⟨FAc0,FAc1,FAc2,FAc3,FAc4,FAc5⟩:=FA.out.cells
    obtain ⟨FBc0,FBc1,FBc2,FBc3,FBc4,FBc5⟩:=FB.out.cells
    have FNlt:=FN.out.lt
    have FNf0:=far_cell FNlt FNc0;have FNf1:=far_cell FNlt FNc1;have FNf2:=far_cell FNlt FNc2
    have FAlt:=FA.out.lt
    have FAf0:=far_cell FAlt FAc0;have FAf1:=far_cell FAlt FAc1;have FAf2:=far_cell FAlt FAc2;have FAf3:=far_cell FAlt FAc3;have FAf4:=far_cell FAlt FAc4;have FAf5:=far_cell FAlt FAc5
    have FBlt:=FB.out.lt
    have FBf0:=far_cell FBlt FBc0;have FBf1:=far_cell FBlt FBc1;have FBf2:=far_cell FBlt FBc2;have FBf3:=far_cell FBlt FBc3;have FBf4:=far_cell FBlt FBc4;have FBf5:=far_cell FBlt FBc5
    clear FNc0 FNc1 FNc2 FAc0 FAc1 FAc2 FAc3 FAc4 FAc5 FBc0 FBc1 FBc2 FBc3 FBc4 FBc5
    have HFAR0:=Lib.hid (fun x'=>HBH.out a (far w7 x') (HA.out.below (below_far w7 x')) (HD.out.below (below_far w7 x')))
    have HFAR1:=Lib.hid (fun x'=>HRE.out (behP l zs x a) (behA l zs x a) p (far w7 x') (HA.out.below (below_far w7 x')) (HD.out.below (below_far w7 x')))
    refine wp_region_far (by kernel_rfl) (by kernel_rfl) ?_
    repeat (any_goals (first | go_big_quiet_step ((first | (go_at_call 112;with_reducible exact call_far (HFAR0.out _)) | (go_at_call 111;with_reducible exact call_far (HFAR1.out _)))) | quiet_step ((first | (go_at_call 112;with_reducible exact call_far (HFAR0.out _)) | (go_at_call 111;with_reducible exact call_far (HFAR1.out _))))))
    refine wpQuiet_nil ?_;intro w8 hw
    have hb:Below w7.heap.size w7 w8:=by obtain ⟨u,rfl⟩:=hw;exact below_far w7 u
    clear hw FNf0 FNf1 FNf2 FAf0 FAf1 FAf2 FAf3 FAf4 FAf5 FBf0 FBf1 FBf2 FBf3 FBf4 FBf5 FNlt FAlt FBlt HFAR0 HFAR1
    replace HB:=Lib.hid (HB.out.trans (hb.mono HL.out))
    replace HL:=Lib.hid (Nat.le_trans HL.out hb.size)
    replace HA:=Lib.hid (HA.out.below hb)
    replace HD:=Lib.hid (HD.out.below hb)
    replace FN:=Lib.hid (FN.out.below hb)
    replace FA:=Lib.hid (FA.out.below hb)
    replace FB:=Lib.hid (FB.out.below hb)
    clear hb
    generalize reachB l zs x (behP l zs x a) (behA l zs x a) p=R at *
    by_cases h0:0≤R
    ·by_cases h1:R≤at_
     ·have HVF:=Lib.hid (HV.out.trans (show _=meetB l zs x p at_ b more by rw [decide_eq_true h0,decide_eq_true h1];rfl))
      clear HV
      obtain ⟨FNc0,FNc1,FNc2⟩:=FN.out.cells
      obtain ⟨FAc0,FAc1,FAc2,FAc3,FAc4,FAc5⟩:=FA.out.cells
      obtain ⟨FBc0,FBc1,FBc2,FBc3,FBc4,FBc5⟩:=FB.out.cells
      go_wp2_with fail
      clear FNc0 FNc1 FNc2 FAc0 FAc1 FAc2 FAc3 FAc4 FAc5 FBc0 FBc1 FBc2 FBc3 FBc4 FBc5
      refine (HME.out p at_ b more w8 HA.out HD.out).mono ?_;rintro e w9 ⟨rfl,hb⟩
      replace HB:=Lib.hid (HB.out.trans (hb.mono HL.out))
      replace HL:=Lib.hid (Nat.le_trans HL.out hb.size)
      replace HA:=Lib.hid (HA.out.below hb)
      replace HD:=Lib.hid (HD.out.below hb)
      replace FN:=Lib.hid (FN.out.below hb)
      replace FA:=Lib.hid (FA.out.below hb)
      replace FB:=Lib.hid (FB.out.below hb)
      clear hb
      obtain ⟨FNc0,FNc1,FNc2⟩:=FN.out.cells
      obtain ⟨FAc0,FAc1,FAc2,FAc3,FAc4,FAc5⟩:=FA.out.cells
      obtain ⟨FBc0,FBc1,FBc2,FBc3,FBc4,FBc5⟩:=FB.out.cells
      go_wp2
      go_ret
      exact ⟨ret_bool HVF.out.symm,HB.out⟩
     ·have HVF:=Lib.hid (HV.out.trans (show _=false by rw [decide_eq_true h0,decide_eq_false h1];rfl))
      clear HV
      obtain ⟨FNc0,FNc1,FNc2⟩:=FN.out.cells
      obtain ⟨FAc0,FAc1,FAc2,FAc3,FAc4,FAc5⟩:=FA.out.cells
      obtain ⟨FBc0,FBc1,FBc2,FBc3,FBc4,FBc5⟩:=FB.out.cells
      go_wp2
      go_ret
      exact ⟨ret_bool HVF.out.symm,HB.out⟩
    ·have HVF:=Lib.hid (HV.out.trans (show _=false by rw [decide_eq_false h0];rfl))
     clear HV
     obtain ⟨FNc0,FNc1,FNc2⟩:=FN.out.cells
     obtain ⟨FAc0,FAc1,FAc2,FAc3,FAc4,FAc5⟩:=FA.out.cells
     obtain ⟨FBc0,FBc1,FBc2,FBc3,FBc4,FBc5⟩:=FB.out.cells
     go_wp2
     go_ret
     exact ⟨ret_bool HVF.out.symm,HB.out⟩
set_option maxRecDepth 100000 in
set_option maxHeartbeats 8000000 in
theorem may_ride_spec (A:Option Addr) (ca:Nat) (l:List Lg) (D:Option Addr) (cd:Nat) (zs:List Int) (x:Int) (E:Option Addr) (ce:Nat) (ls:List Sc) (th at_:Int) (tg td:Int) (w:World) (hA:InK 6 lgC w A l) (hD:IntsIn w D zs) (hs:∀ z ∈ l,z.f.size≤maxLen∧z.t.size≤maxLen) (hn:l.length≤1048576) (hm:zs.length≤1048576) (hE:InK 6 scC w E ls) (hk:ls.length≤1048576) (hce:ls.length≤ce) :
  Calls Tryz.prog 54 #[.agg #[.slice A l.length ca,.slice D zs.length cd,.int .i64 x],.slice E ls.length ce,.int .i64 th,.int .i64 at_,.agg #[.int .i64 tg,.int .i64 td]] w fun e w'=>e=.returned (.bool (rideC l zs x (clB l zs x ls th) at_ ⟨tg,td⟩))∧Below w.heap.size w w':=by
 have HLS:=Lib.hid (fun W (h1:InK 6 lgC W A l) (h2:IntsIn W D zs) (h3:InK 6 scC W E ls)=>lss_spec A ca l D cd zs x E ce ls th at_ W h1 h2 hs hn hm h3 hk hce)
 have HNX:=Lib.hid (fun W (h1:InK 6 lgC W A l) (h2:IntsIn W D zs) (h3:InK 6 scC W E ls)=>nxs_spec A ca l D cd zs x E ce ls th at_ W h1 h2 hs hn hm h3 hk hce)
 have HST:=Lib.hid (fun t (htr:trB l zs x t=true) W (h1:InK 6 lgC W A l) (h2:IntsIn W D zs)=>start_tp_spec t htr A ca D cd W h1 h2 hn)
 have HEN:=Lib.hid (fun t (htr:trB l zs x t=true) W (h1:InK 6 lgC W A l) (h2:IntsIn W D zs)=>end_tp_spec t htr A ca D cd W h1 h2 hn)
 have HVA:=Lib.hid (show lsOk (clB l zs x ls th) at_=true→scB l zs x (lsT (clB l zs x ls th) at_)=true from fun h=>by obtain ⟨n,hn,_,e,_⟩:=ls_get h;rw [e];exact clB_mem (List.getElem_mem hn))
 have HVB:=Lib.hid (show nxOk (clB l zs x ls th) at_=true→scB l zs x (nxT (clB l zs x ls th) at_)=true from fun h=>by obtain ⟨hn,e,_⟩:=nx_get h;rw [e];exact clB_mem (List.getElem_mem hn))
 have HBH:=Lib.hid (fun (r:Sc) W (h1:InK 6 lgC W A l) (h2:IntsIn W D zs)=>behind_spec r.h r.a r.k r.p r.g r.d A ca l D cd zs x W h1 h2 hs hn hm)
 have HRE:=Lib.hid (fun P T q W (h1:InK 6 lgC W A l) (h2:IntsIn W D zs)=>reach_spec P T q A ca l D cd zs x W h1 h2 hs hn hm)
 have HME:=Lib.hid (fun P T (r:Sc) more W (h1:InK 6 lgC W A l) (h2:IntsIn W D zs)=>meets_spec P T r.h r.a r.k r.p r.g r.d more A ca l D cd zs x W h1 h2 hs hn hm)
 have HIT:=Lib.hid (fun W (h1:InK 6 lgC W A l) (h2:IntsIn W D zs)=>is_trip_spec tg td A ca l D cd zs x W h1 h2 hs hn hm)
 have hIT:ronB l zs x tg td=trB l zs x ⟨tg,td⟩:=rfl
 rw [hIT] at HIT
 clear hIT
 have hV:rideC l zs x (clB l zs x ls th) at_ ⟨tg,td⟩=mayRide l zs x (lsT (clB l zs x ls th) at_) (lsOk (clB l zs x ls th) at_) (nxT (clB l zs x ls th) at_) (nxOk (clB l zs x ls th) at_) at_ ⟨tg,td⟩:=rfl
 clear hs hk hce
 generalize rideC l zs x (clB l zs x ls th) at_ ⟨tg,td⟩=V at *
 generalize lsT (clB l zs x ls th) at_=a at *
 generalize lsOk (clB l zs x ls th) at_=ok at *
 generalize nxT (clB l zs x ls th) at_=b at *
 generalize nxOk (clB l zs x ls th) at_=more at *
 unfold mayRide at hV
 have HV:=Lib.hid hV
 clear hV
 have H3:=two w (.cells #[.slice A l.length ca,.slice D zs.length cd,.int .i64 x] 27) (.cells #[.int .i64 tg,.int .i64 td] 32)
 have FN:=Lib.hid (show Box3 27 _ (w.heap.size) _ _ _ from H3.1)
 have FT:=Lib.hid (show Box2 32 _ (w.heap.size+1) _ _ from H3.2.1)
 have hb0:=H3.2.2.1
 have HL:=Lib.hid hb0.size
 clear H3
 have HA:=Lib.hid (hA.below hb0)
 have HD:=Lib.hid (hD.below hb0)
 have HE:=Lib.hid (hE.below hb0)
 have HB:=Lib.hid hb0
 clear hb0 hA hD hE
 generalize hB:w.heap.size=B at *
 have HBE:=Lib.hid hB
 go_enter Tryz.func54,Tryz.ntmps54
 go_wp2_with fail
 clear hB
 generalize ((w.alloc (.cells #[.slice A l.length ca,.slice D zs.length cd,.int .i64 x] 27)).alloc (.cells #[.int .i64 tg,.int .i64 td] 32))=w0 at *
 refine (HIT.out w0 HA.out HD.out).mono ?_;rintro e w1 ⟨rfl,hb⟩
 replace HB:=Lib.hid (HB.out.trans (hb.mono HL.out))
 replace HL:=Lib.hid (Nat.le_trans HL.out hb.size)
 replace HA:=Lib.hid (HA.out.below hb)
 replace HD:=Lib.hid (HD.out.below hb)
 replace HE:=Lib.hid (HE.out.below hb)
 replace FN:=Lib.hid (FN.out.below hb)
 replace FT:=Lib.hid (FT.out.below hb)
 clear hb
 cases hT:trB l zs x ⟨tg,td⟩ with
 | false =>
  have HVF:=Lib.hid (HV.out.trans (if_pos (Or.inl hT)))
  clear HV
  obtain ⟨FNc0,FNc1,FNc2⟩:=FN.out.cells
  obtain ⟨FTc0,FTc1⟩:=FT.out.cells
  go_wp2
  go_ret
  exact ⟨ret_bool HVF.out.symm,HB.out⟩
 | true =>
  obtain ⟨FNc0,FNc1,FNc2⟩:=FN.out.cells
  obtain ⟨FTc0,FTc1⟩:=FT.out.cells
  go_wp2_with fail
  clear FNc0 FNc1 FNc2 FTc0 FTc1
  refine (HST.out ⟨tg,td⟩ hT w1 HA.out HD.out).mono ?_;rintro e w2 ⟨rfl,hb⟩
  replace HB:=Lib.hid (HB.out.trans (hb.mono HL.out))
  replace HL:=Lib.hid (Nat.le_trans HL.out hb.size)
  replace HA:=Lib.hid (HA.out.below hb)
  replace HD:=Lib.hid (HD.out.below hb)
  replace HE:=Lib.hid (HE.out.below hb)
  replace FN:=Lib.hid (FN.out.below hb)
  replace FT:=Lib.hid (FT.out.below hb)
  clear hb
  by_cases hS:at_ < trS l ⟨tg,td⟩
  ·have hSd:decide (at_ < trS l ⟨tg,td⟩)=true:=decide_eq_true (by omega)
   have HVF:=Lib.hid (HV.out.trans (if_pos (Or.inr (Or.inl hS))))
   clear HV
   obtain ⟨FNc0,FNc1,FNc2⟩:=FN.out.cells
   obtain ⟨FTc0,FTc1⟩:=FT.out.cells
   go_wp2
   go_ret
   exact ⟨ret_bool HVF.out.symm,HB.out⟩
  have hSd:decide (at_ < trS l ⟨tg,td⟩)=false:=decide_eq_false (by omega)
  obtain ⟨FNc0,FNc1,FNc2⟩:=FN.out.cells
  obtain ⟨FTc0,FTc1⟩:=FT.out.cells
  go_wp2_with fail
  clear FNc0 FNc1 FNc2 FTc0 FTc1
  refine (HEN.out ⟨tg,td⟩ hT w2 HA.out HD.out).mono ?_;rintro e w3 ⟨rfl,hb⟩
  replace HB:=Lib.hid (HB.out.trans (hb.mono HL.out))
  replace HL:=Lib.hid (Nat.le_trans HL.out hb.size)
  replace HA:=Lib.hid (HA.out.below hb)
  replace HD:=Lib.hid (HD.out.below hb)
  replace HE:=Lib.hid (HE.out.below hb)
  replace FN:=Lib.hid (FN.out.below hb)
  replace FT:=Lib.hid (FT.out.below hb)
  clear hb
  by_cases hE2:trE l ⟨tg,td⟩≤at_
  ·have hEd:decide (trE l ⟨tg,td⟩≤at_)=true:=decide_eq_true (by omega)
   have HVF:=Lib.hid (HV.out.trans (if_pos (Or.inr (Or.inr hE2))))
   clear HV
   obtain ⟨FNc0,FNc1,FNc2⟩:=FN.out.cells
   obtain ⟨FTc0,FTc1⟩:=FT.out.cells
   go_wp2
   go_ret
   exact ⟨ret_bool HVF.out.symm,HB.out⟩
  have hEd:decide (trE l ⟨tg,td⟩≤at_)=false:=decide_eq_false (by omega)
  replace HV:=Lib.hid (HV.out.trans (if_neg (fun h=>h.elim (fun h=>by rw [hT] at h;cases h) (fun h=>h.elim (fun h=>by omega) (fun h=>by omega)))))
  clear hS hE2 HIT
  obtain ⟨FNc0,FNc1,FNc2⟩:=FN.out.cells
  obtain ⟨FTc0,FTc1⟩:=FT.out.cells
  go_wp2_with fail
  clear FNc0 FNc1 FNc2 FTc0 FTc1
  refine (HLS.out w3 HA.out HD.out HE.out).mono ?_;rintro e w4 ⟨rfl,hb⟩
  replace HB:=Lib.hid (HB.out.trans (hb.mono HL.out))
  replace HL:=Lib.hid (Nat.le_trans HL.out hb.size)
  replace HA:=Lib.hid (HA.out.below hb)
  replace HD:=Lib.hid (HD.out.below hb)
  replace HE:=Lib.hid (HE.out.below hb)
  replace FN:=Lib.hid (FN.out.below hb)
  replace FT:=Lib.hid (FT.out.below hb)
  clear hb
  have FA:=Lib.hid (BoxS.new (T:=34) (v0:=.int .i64 a.h) (v1:=.int .i64 a.a) (v2:=.int .i64 a.k) (v3:=.string a.p) (v4:=.int .i64 a.g) (v5:=.int .i64 a.d) w4)
  have hb:=(Below.refl w4.heap.size w4).alloc (Nat.le_refl _) (.cells #[.int .i64 a.h,.int .i64 a.a,.int .i64 a.k,.string a.p,.int .i64 a.g,.int .i64 a.d] 34)
  replace HB:=Lib.hid (HB.out.trans (hb.mono HL.out))
  replace HL:=Lib.hid (Nat.le_trans HL.out hb.size)
  replace HA:=Lib.hid (HA.out.below hb)
  replace HD:=Lib.hid (HD.out.below hb)
  replace HE:=Lib.hid (HE.out.below hb)
  replace FN:=Lib.hid (FN.out.below hb)
  replace FT:=Lib.hid (FT.out.below hb)
  clear hb
  obtain ⟨FNc0,FNc1,FNc2⟩:=FN.out.cells
  obtain ⟨FTc0,FTc1⟩:=FT.out.cells
  obtain ⟨FAc0,FAc1,FAc2,FAc3,FAc4,FAc5⟩:=FA.out.cells
  go_wp2_with fail
  clear FNc0 FNc1 FNc2 FTc0 FTc1 FAc0 FAc1 FAc2 FAc3 FAc4 FAc5
  generalize w4.heap.size=XFA at *
  generalize w4.alloc (.cells #[.int .i64 a.h,.int .i64 a.a,.int .i64 a.k,.string a.p,.int .i64 a.g,.int .i64 a.d] 34)=w5 at *
  refine (HNX.out w5 HA.out HD.out HE.out).mono ?_;rintro e w6 ⟨rfl,hb⟩
  replace HB:=Lib.hid (HB.out.trans (hb.mono HL.out))
  replace HL:=Lib.hid (Nat.le_trans HL.out hb.size)
  replace HA:=Lib.hid (HA.out.below hb)
  replace HD:=Lib.hid (HD.out.below hb)
  replace HE:=Lib.hid (HE.out.below hb)
  replace FN:=Lib.hid (FN.out.below hb)
  replace FT:=Lib.hid (FT.out.below hb)
  replace FA:=Lib.hid (FA.out.below hb)
  clear hb
  have FB:=Lib.hid (BoxS.new (T:=34) (v0:=.int .i64 b.h) (v1:=.int .i64 b.a) (v2:=.int .i64 b.k) (v3:=.string b.p) (v4:=.int .i64 b.g) (v5:=.int .i64 b.d) w6)
  have hb:=(Below.refl w6.heap.size w6).alloc (Nat.le_refl _) (.cells #[.int .i64 b.h,.int .i64 b.a,.int .i64 b.k,.string b.p,.int .i64 b.g,.int .i64 b.d] 34)
  replace HB:=Lib.hid (HB.out.trans (hb.mono HL.out))
  replace HL:=Lib.hid (Nat.le_trans HL.out hb.size)
  replace HA:=Lib.hid (HA.out.below hb)
  replace HD:=Lib.hid (HD.out.below hb)
  replace HE:=Lib.hid (HE.out.below hb)
  replace FN:=Lib.hid (FN.out.below hb)
  replace FT:=Lib.hid (FT.out.below hb)
  replace FA:=Lib.hid (FA.out.below hb)
  clear hb
  clear HLS HNX
  clear HE
  cases ok with
  | false =>
   have HVF:=Lib.hid (HV.out.trans (if_pos (Or.inl rfl)))
   clear HV
   obtain ⟨FNc0,FNc1,FNc2⟩:=FN.out.cells
   obtain ⟨FTc0,FTc1⟩:=FT.out.cells
   obtain ⟨FAc0,FAc1,FAc2,FAc3,FAc4,FAc5⟩:=FA.out.cells
   obtain ⟨FBc0,FBc1,FBc2,FBc3,FBc4,FBc5⟩:=FB.out.cells
   go_wp2
   generalize w6.heap.size=XFB at *
   generalize w6.alloc (.cells #[.int .i64 b.h,.int .i64 b.a,.int .i64 b.k,.string b.p,.int .i64 b.g,.int .i64 b.d] 34)=w7 at *
   go_ret
   exact ⟨ret_bool HVF.out.symm,HB.out⟩
  | true =>
   have HVA1:=Lib.hid (HVA.out rfl);clear HVA
   by_cases k4:a.k=4
   ·have t4:(a.k == 4)=true:=by simp [k4]
    have HVF:=Lib.hid (HV.out.trans (if_pos (Or.inr k4)))
    clear HV
    obtain ⟨FNc0,FNc1,FNc2⟩:=FN.out.cells
    obtain ⟨FTc0,FTc1⟩:=FT.out.cells
    obtain ⟨FAc0,FAc1,FAc2,FAc3,FAc4,FAc5⟩:=FA.out.cells
    obtain ⟨FBc0,FBc1,FBc2,FBc3,FBc4,FBc5⟩:=FB.out.cells
    go_wp2
    generalize w6.heap.size=XFB at *
    generalize w6.alloc (.cells #[.int .i64 b.h,.int .i64 b.a,.int .i64 b.k,.string b.p,.int .i64 b.g,.int .i64 b.d] 34)=w7 at *
    go_ret
    exact ⟨ret_bool HVF.out.symm,HB.out⟩
   have t4:(a.k == 4)=false:=by simp [k4]
   replace HV:=Lib.hid (HV.out.trans (if_neg (fun h=>h.elim (fun h=>by cases h) k4)))
   obtain ⟨FNc0,FNc1,FNc2⟩:=FN.out.cells
   obtain ⟨FTc0,FTc1⟩:=FT.out.cells
   obtain ⟨FAc0,FAc1,FAc2,FAc3,FAc4,FAc5⟩:=FA.out.cells
   obtain ⟨FBc0,FBc1,FBc2,FBc3,FBc4,FBc5⟩:=FB.out.cells
   go_upto_region 7 with (fail)
   clear FNc0 FNc1 FNc2 FTc0 FTc1 FAc0 FAc1 FAc2 FAc3 FAc4 FAc5 FBc0 FBc1 FBc2 FBc3 FBc4 FBc5
   generalize w6.heap.size=XFB at *
   generalize w6.alloc (.cells #[.int .i64 b.h,.int .i64 b.a,.int .i64 b.k,.string b.p,.int .i64 b.g,.int .i64 b.d] 34)=w7 at *
   obtain ⟨FNc0,FNc1,FNc2⟩:=FN.out.cells
   obtain ⟨FTc0,FTc1⟩:=FT.out.cells
   obtain ⟨FAc0,FAc1,FAc2,FAc3,FAc4,FAc5⟩:=FA.out.cells
   obtain ⟨FBc0,FBc1,FBc2,FBc3,FBc4,FBc5⟩:=FB.out.cells
   go_cut [70] from 57 (fun v wx=>v=.bool (decide (more=true∧b.k=2∧trS l ⟨b.g,b.d⟩≤at_))∧Below w7.heap.size w7 wx)
   case first =>
    cases more with
    | false =>
     go_wp2
     go_meet
     exact ⟨congrArg Value.bool (decide_eq_false (fun hh=>by first | cases hh.1 | exact hh.1)).symm,Below.refl _ _⟩
    | true =>
     by_cases k2:b.k=2
     ·have t2:(b.k == 2)=true:=by simp [k2]
      have htr:=sc_trip (HVB.out rfl) (Or.inl k2)
      have K2:=Lib.hid k2;clear k2
      go_wp2_with fail
      refine (HST.out _ htr w7 HA.out HD.out).mono ?_;rintro e wz ⟨rfl,hbz⟩
      by_cases hS:trS l ⟨b.g,b.d⟩≤at_
      ·have hSd:decide (trS l ⟨b.g,b.d⟩≤at_)=true:=decide_eq_true (by omega)
       go_wp2
       go_meet
       exact ⟨congrArg Value.bool (decide_eq_true (by first | exact ⟨rfl,K2.out,hS⟩ | exact ⟨trivial,K2.out,hS⟩)).symm,hbz⟩
      ·have hSd:decide (trS l ⟨b.g,b.d⟩≤at_)=false:=decide_eq_false (by omega)
       go_wp2
       go_meet
       exact ⟨congrArg Value.bool (decide_eq_false (fun hh=>by have:=hh.2.2;omega)).symm,hbz⟩
     ·have t2:(b.k == 2)=false:=by simp [k2]
      go_wp2
      go_meet
      exact ⟨congrArg Value.bool (decide_eq_false (fun hh=>k2 hh.2.1)).symm,Below.refl _ _⟩
   case rest =>
    obtain ⟨rfl,hb⟩:=hcut
    generalize wc=w8 at *
    clear FNc0 FNc1 FNc2 FTc0 FTc1 FAc0 FAc1 FAc2 FAc3 FAc4 FAc5 FBc0 FBc1 FBc2 FBc3 FBc4 FBc5
    replace HB:=Lib.hid (HB.out.trans (hb.mono HL.out))
    replace HL:=Lib.hid (Nat.le_trans HL.out hb.size)
    replace HA:=Lib.hid (HA.out.below hb)
    replace HD:=Lib.hid (HD.out.below hb)
    replace FN:=Lib.hid (FN.out.below hb)
    replace FT:=Lib.hid (FT.out.below hb)
    replace FA:=Lib.hid (FA.out.below hb)
    replace FB:=Lib.hid (FB.out.below hb)
    clear hb
    by_cases hdr:more=true∧b.k=2∧trS l ⟨b.g,b.d⟩≤at_
    ·rw [decide_eq_true hdr]
     replace HV:=Lib.hid (HV.out.trans (if_pos hdr))
     have hEQ:=trip_eql b.g b.d tg td
     have HVF:=Lib.hid (HV.out.trans (show _=(b.g == tg && b.d == td) by rw [Bool.decide_and];rfl))
     clear HV hdr
     obtain ⟨FNc0,FNc1,FNc2⟩:=FN.out.cells
     obtain ⟨FTc0,FTc1⟩:=FT.out.cells
     obtain ⟨FAc0,FAc1,FAc2,FAc3,FAc4,FAc5⟩:=FA.out.cells
     obtain ⟨FBc0,FBc1,FBc2,FBc3,FBc4,FBc5⟩:=FB.out.cells
     go_wp2
     go_ret
     exact ⟨ret_bool HVF.out.symm,HB.out⟩
    rw [decide_eq_false hdr]
    replace HV:=Lib.hid (HV.out.trans (if_neg hdr))
    clear hdr HVB
    obtain ⟨FNc0,FNc1,FNc2⟩:=FN.out.cells
    obtain ⟨FTc0,FTc1⟩:=FT.out.cells
    obtain ⟨FAc0,FAc1,FAc2,FAc3,FAc4,FAc5⟩:=FA.out.cells
    obtain ⟨FBc0,FBc1,FBc2,FBc3,FBc4,FBc5⟩:=FB.out.cells
    go_upto_region 9 with (fail)
    clear FNc0 FNc1 FNc2 FTc0 FTc1 FAc0 FAc1 FAc2 FAc3 FAc4 FAc5 FBc0 FBc1 FBc2 FBc3 FBc4 FBc5
    obtain ⟨FNc0,FNc1,FNc2⟩:=FN.out.cells
    obtain ⟨FTc0,FTc1⟩:=FT.out.cells
    obtain ⟨FAc0,FAc1,FAc2,FAc3,FAc4,FAc5⟩:=FA.out.cells
    obtain ⟨FBc0,FBc1,FBc2,FBc3,FBc4,FBc5⟩:=FB.out.cells
    go_cut [85] from 75 (fun v wx=>v=.bool (decide (a.k=3∧at_ < trE l ⟨a.g,a.d⟩))∧Below w8.heap.size w8 wx)
    case first =>
     by_cases k3:a.k=3
     ·have t3:(a.k == 3)=true:=by simp [k3]
      have htr:=sc_trip HVA1.out (Or.inr k3)
      have K3:=Lib.hid k3;clear k3
      go_wp2_with fail
      refine (HEN.out _ htr w8 HA.out HD.out).mono ?_;rintro e wz ⟨rfl,hbz⟩
      by_cases hS:at_ < trE l ⟨a.g,a.d⟩
      ·have hSd:decide (at_ < trE l ⟨a.g,a.d⟩)=true:=decide_eq_true (by omega)
       go_wp2
       go_meet
       exact ⟨congrArg Value.bool (decide_eq_true ⟨K3.out,hS⟩).symm,hbz⟩
      ·have hSd:decide (at_ < trE l ⟨a.g,a.d⟩)=false:=decide_eq_false (by omega)
       go_wp2
       go_meet
       exact ⟨congrArg Value.bool (decide_eq_false (fun hh=>by have:=hh.2;omega)).symm,hbz⟩
     ·have t3:(a.k == 3)=false:=by simp [k3]
      go_wp2
      go_meet
      exact ⟨congrArg Value.bool (decide_eq_false (fun hh=>k3 hh.1)).symm,Below.refl _ _⟩
    case rest =>
     obtain ⟨rfl,hb⟩:=hcut
     generalize wc=w9 at *
     clear FNc0 FNc1 FNc2 FTc0 FTc1 FAc0 FAc1 FAc2 FAc3 FAc4 FAc5 FBc0 FBc1 FBc2 FBc3 FBc4 FBc5
     replace HB:=Lib.hid (HB.out.trans (hb.mono HL.out))
     replace HL:=Lib.hid (Nat.le_trans HL.out hb.size)
     replace HA:=Lib.hid (HA.out.below hb)
     replace HD:=Lib.hid (HD.out.below hb)
     replace FN:=Lib.hid (FN.out.below hb)
     replace FT:=Lib.hid (FT.out.below hb)
     replace FA:=Lib.hid (FA.out.below hb)
     replace FB:=Lib.hid (FB.out.below hb)
     clear hb
     by_cases hld:a.k=3∧at_ < trE l ⟨a.g,a.d⟩
     ·rw [decide_eq_true hld]
      replace HV:=Lib.hid (HV.out.trans (if_pos hld))
      have hEQ:=trip_eql a.g a.d tg td
      have HVF:=Lib.hid (HV.out.trans (show _=(a.g == tg && a.d == td) by rw [Bool.decide_and];rfl))
      clear HV hld
      obtain ⟨FNc0,FNc1,FNc2⟩:=FN.out.cells
      obtain ⟨FTc0,FTc1⟩:=FT.out.cells
      obtain ⟨FAc0,FAc1,FAc2,FAc3,FAc4,FAc5⟩:=FA.out.cells
      obtain ⟨FBc0,FBc1,FBc2,FBc3,FBc4,FBc5⟩:=FB.out.cells
      go_wp2
      go_ret
      exact ⟨ret_bool HVF.out.symm,HB.out⟩
     rw [decide_eq_false hld]
     replace HV:=Lib.hid (HV.out.trans (if_neg hld))
     clear hld
     obtain ⟨_,_,k0,hg0,hkl,hlg,_⟩:=trB_of hT
     dsimp only at hg0 hlg
     subst hg0
     have HLG:=Lib.hid hlg
     clear hlg
     have hki:(k0:Int) < (l.length:Int):=by omega
     have hkz:¬ (k0:Int) < 0:=by omega
     obtain ⟨G0,eq0,hG0,c0,c1,c2,c3,c4,c5⟩:=HA.out.lg k0 hkl
     subst eq0
     rw [HLG.out] at HV
     obtain ⟨FNc0,FNc1,FNc2⟩:=FN.out.cells
     obtain ⟨FTc0,FTc1⟩:=FT.out.cells
     obtain ⟨FAc0,FAc1,FAc2,FAc3,FAc4,FAc5⟩:=FA.out.cells
     obtain ⟨FBc0,FBc1,FBc2,FBc3,FBc4,FBc5⟩:=FB.out.cells
     go_wp2_with fail
     clear FNc0 FNc1 FNc2 FTc0 FTc1 FAc0 FAc1 FAc2 FAc3 FAc4 FAc5 FBc0 FBc1 FBc2 FBc3 FBc4 FBc5
     obtain ⟨FNc0,FNc1,FNc2⟩:=FN.out.cells
     obtain ⟨FTc0,FTc1⟩:=FT.out.cells
     obtain ⟨FAc0,FAc1,FAc2,FAc3,FAc4,FAc5⟩:=FA.out.cells
     obtain ⟨FBc0,FBc1,FBc2,FBc3,FBc4,FBc5⟩:=FB.out.cells
     have FNlt:=FN.out.lt
     have FNf0:=far_cell FNlt FNc0;have FNf1:=far_cell FNlt FNc1;have FNf2:=far_cell FNlt FNc2
     have FTlt:=FT.out.lt
     have FTf0:=far_cell FTlt FTc0;have FTf1:=far_cell FTlt FTc1
     have FAlt:=FA.out.lt
     have FAf0:=far_cell FAlt FAc0;have FAf1:=far_cell FAlt FAc1;have FAf2:=far_cell FAlt FAc2;have FAf3:=far_cell FAlt FAc3;have FAf4:=far_cell FAlt FAc4;have FAf5:=far_cell FAlt FAc5
     have FBlt:=FB.out.lt
     have FBf0:=far_cell FBlt FBc0;have FBf1:=far_cell FBlt FBc1;have FBf2:=far_cell FBlt FBc2;have FBf3:=far_cell FBlt FBc3;have FBf4:=far_cell FBlt FBc4;have FBf5:=far_cell FBlt FBc5
     have c0F:=far_cell hG0 c0
     have c1F:=far_cell hG0 c1
     have c2F:=far_cell hG0 c2
     have c3F:=far_cell hG0 c3
     have c4F:=far_cell hG0 c4
     have c5F:=far_cell hG0 c5
     clear FNc0 FNc1 FNc2 FTc0 FTc1 FAc0 FAc1 FAc2 FAc3 FAc4 FAc5 FBc0 FBc1 FBc2 FBc3 FBc4 FBc5
     clear c0 c1 c2 c3 c4 c5
     have HFAR0:=Lib.hid (fun x'=>HBH.out a (far w9 x') (HA.out.below (below_far w9 x')) (HD.out.below (below_far w9 x')))
     have HFAR1:=Lib.hid (fun x'=>HRE.out (behP l zs x a) (behA l zs x a) l[k0].f (far w9 x') (HA.out.below (below_far w9 x')) (HD.out.below (below_far w9 x')))
     refine wp_region_far (by kernel_rfl) (by kernel_rfl) ?_
     repeat (any_goals (first | go_big_quiet_step ((first | (go_at_call 112;with_reducible exact call_far (HFAR0.out _)) | (go_at_call 111;with_reducible exact call_far (HFAR1.out _)))) | quiet_step ((first | (go_at_call 112;with_reducible exact call_far (HFAR0.out _)) | (go_at_call 111;with_reducible exact call_far (HFAR1.out _))))))
     refine wpQuiet_nil ?_;intro w10 hw
     have hb:Below w9.heap.size w9 w10:=by obtain ⟨u,rfl⟩:=hw;exact below_far w9 u
     clear hw FNf0 FNf1 FNf2 FTf0 FTf1 FAf0 FAf1 FAf2 FAf3 FAf4 FAf5 FBf0 FBf1 FBf2 FBf3 FBf4 FBf5 FNlt FTlt FAlt FBlt c0F c1F c2F c3F c4F c5F HFAR0 HFAR1
     replace HB:=Lib.hid (HB.out.trans (hb.mono HL.out))
     replace HL:=Lib.hid (Nat.le_trans HL.out hb.size)
     replace HA:=Lib.hid (HA.out.below hb)
     replace HD:=Lib.hid (HD.out.below hb)
     replace FN:=Lib.hid (FN.out.below hb)
     replace FT:=Lib.hid (FT.out.below hb)
     replace FA:=Lib.hid (FA.out.below hb)
     replace FB:=Lib.hid (FB.out.below hb)
     clear hb
     generalize reachB l zs x (behP l zs x a) (behA l zs x a) l[k0].f=R at *
     by_cases h0:0≤R
     ·have hn0:¬ R < 0:=by omega
      obtain ⟨FNc0,FNc1,FNc2⟩:=FN.out.cells
      obtain ⟨FTc0,FTc1⟩:=FT.out.cells
      obtain ⟨FAc0,FAc1,FAc2,FAc3,FAc4,FAc5⟩:=FA.out.cells
      obtain ⟨FBc0,FBc1,FBc2,FBc3,FBc4,FBc5⟩:=FB.out.cells
      go_wp2_with fail
      clear FNc0 FNc1 FNc2 FTc0 FTc1 FAc0 FAc1 FAc2 FAc3 FAc4 FAc5 FBc0 FBc1 FBc2 FBc3 FBc4 FBc5
      refine (HST.out ⟨(k0:Int),td⟩ hT w10 HA.out HD.out).mono ?_;rintro e w11 ⟨rfl,hb⟩
      replace HB:=Lib.hid (HB.out.trans (hb.mono HL.out))
      replace HL:=Lib.hid (Nat.le_trans HL.out hb.size)
      replace HA:=Lib.hid (HA.out.below hb)
      replace HD:=Lib.hid (HD.out.below hb)
      replace FN:=Lib.hid (FN.out.below hb)
      replace FT:=Lib.hid (FT.out.below hb)
      replace FA:=Lib.hid (FA.out.below hb)
      replace FB:=Lib.hid (FB.out.below hb)
      clear hb
      by_cases h1:R≤trS l ⟨(k0:Int),td⟩
      ·have hn1:¬ trS l ⟨(k0:Int),td⟩ < R:=by omega
       have HVF:=Lib.hid (HV.out.trans (show _=meetB l zs x l[k0].t (trE l ⟨(k0:Int),td⟩) b more by rw [decide_eq_true h0,decide_eq_true h1];rfl))
       clear HV
       obtain ⟨G1,eq1,hG1,c0,c1,c2,c3,c4,c5⟩:=HA.out.lg k0 hkl
       cases eq1
       obtain ⟨FNc0,FNc1,FNc2⟩:=FN.out.cells
       obtain ⟨FTc0,FTc1⟩:=FT.out.cells
       obtain ⟨FAc0,FAc1,FAc2,FAc3,FAc4,FAc5⟩:=FA.out.cells
       obtain ⟨FBc0,FBc1,FBc2,FBc3,FBc4,FBc5⟩:=FB.out.cells
       go_upto_region 14 with (fail)
       clear FNc0 FNc1 FNc2 FTc0 FTc1 FAc0 FAc1 FAc2 FAc3 FAc4 FAc5 FBc0 FBc1 FBc2 FBc3 FBc4 FBc5
       obtain ⟨FNc0,FNc1,FNc2⟩:=FN.out.cells
       obtain ⟨FTc0,FTc1⟩:=FT.out.cells
       obtain ⟨FAc0,FAc1,FAc2,FAc3,FAc4,FAc5⟩:=FA.out.cells
       obtain ⟨FBc0,FBc1,FBc2,FBc3,FBc4,FBc5⟩:=FB.out.cells
       have FNlt:=FN.out.lt
       have FNf0:=far_cell FNlt FNc0;have FNf1:=far_cell FNlt FNc1;have FNf2:=far_cell FNlt FNc2
       have FTlt:=FT.out.lt
       have FTf0:=far_cell FTlt FTc0;have FTf1:=far_cell FTlt FTc1
       have FAlt:=FA.out.lt
       have FAf0:=far_cell FAlt FAc0;have FAf1:=far_cell FAlt FAc1;have FAf2:=far_cell FAlt FAc2;have FAf3:=far_cell FAlt FAc3;have FAf4:=far_cell FAlt FAc4;have FAf5:=far_cell FAlt FAc5
       have FBlt:=FB.out.lt
       have FBf0:=far_cell FBlt FBc0;have FBf1:=far_cell FBlt FBc1;have FBf2:=far_cell FBlt FBc2;have FBf3:=far_cell FBlt FBc3;have FBf4:=far_cell FBlt FBc4;have FBf5:=far_cell FBlt FBc5
       have c0F:=far_cell hG1 c0
       have c1F:=far_cell hG1 c1
       have c2F:=far_cell hG1 c2
       have c3F:=far_cell hG1 c3
       have c4F:=far_cell hG1 c4
       have c5F:=far_cell hG1 c5
       clear FNc0 FNc1 FNc2 FTc0 FTc1 FAc0 FAc1 FAc2 FAc3 FAc4 FAc5 FBc0 FBc1 FBc2 FBc3 FBc4 FBc5
       clear c0 c1 c2 c3 c4 c5
       have HFAR0:=Lib.hid (fun x'=>HEN.out ⟨(k0:Int),td⟩ hT (far w11 x') (HA.out.below (below_far w11 x')) (HD.out.below (below_far w11 x')))
       have HFAR1:=Lib.hid (fun x'=>HME.out l[k0].t (trE l ⟨(k0:Int),td⟩) b more (far w11 x') (HA.out.below (below_far w11 x')) (HD.out.below (below_far w11 x')))
       refine wp_region_far (by kernel_rfl) (by kernel_rfl) ?_
       repeat (any_goals (first | go_big_quiet_step ((first | (go_at_call 110;with_reducible exact call_far (HFAR0.out _)) | (go_at_call 113;with_reducible exact call_far (HFAR1.out _)))) | quiet_step ((first | (go_at_call 110;with_reducible exact call_far (HFAR0.out _)) | (go_at_call 113;with_reducible exact call_far (HFAR1.out _))))))
       refine wpQuiet_nil ?_;intro w12 hw
       have hb:Below w11.heap.size w11 w12:=by obtain ⟨u,rfl⟩:=hw;exact below_far w11 u
       clear hw FNf0 FNf1 FNf2 FTf0 FTf1 FAf0 FAf1 FAf2 FAf3 FAf4 FAf5 FBf0 FBf1 FBf2 FBf3 FBf4 FBf5 FNlt FTlt FAlt FBlt c0F c1F c2F c3F c4F c5F HFAR0 HFAR1
       replace HB:=Lib.hid (HB.out.trans (hb.mono HL.out))
       replace HL:=Lib.hid (Nat.le_trans HL.out hb.size)
       replace HA:=Lib.hid (HA.out.below hb)
       replace HD:=Lib.hid (HD.out.below hb)
       replace FN:=Lib.hid (FN.out.below hb)
       replace FT:=Lib.hid (FT.out.below hb)
       replace FA:=Lib.hid (FA.out.below hb)
       replace FB:=Lib.hid (FB.out.below hb)
       clear hb
       obtain ⟨FNc0,FNc1,FNc2⟩:=FN.out.cells
       obtain ⟨FTc0,FTc1⟩:=FT.out.cells
       obtain ⟨FAc0,FAc1,FAc2,FAc3,FAc4,FAc5⟩:=FA.out.cells
       obtain ⟨FBc0,FBc1,FBc2,FBc3,FBc4,FBc5⟩:=FB.out.cells
       go_wp2
       go_ret
       exact ⟨ret_bool HVF.out.symm,HB.out⟩
      ·have hn1:trS l ⟨(k0:Int),td⟩ < R:=by omega
       have HVF:=Lib.hid (HV.out.trans (show _=false by rw [decide_eq_true h0,decide_eq_false h1];rfl))
       clear HV
       obtain ⟨FNc0,FNc1,FNc2⟩:=FN.out.cells
       obtain ⟨FTc0,FTc1⟩:=FT.out.cells
       obtain ⟨FAc0,FAc1,FAc2,FAc3,FAc4,FAc5⟩:=FA.out.cells
       obtain ⟨FBc0,FBc1,FBc2,FBc3,FBc4,FBc5⟩:=FB.out.cells
       go_wp2
       go_ret
       exact ⟨ret_bool HVF.out.symm,HB.out⟩
     ·have HVF:=Lib.hid (HV.out.trans (show _=false by rw [decide_eq_false h0];rfl))
      have hn0:R < 0:=by omega
      clear HV
      obtain ⟨FNc0,FNc1,FNc2⟩:=FN.out.cells
      obtain ⟨FTc0,FTc1⟩:=FT.out.cells
      obtain ⟨FAc0,FAc1,FAc2,FAc3,FAc4,FAc5⟩:=FA.out.cells
      obtain ⟨FBc0,FBc1,FBc2,FBc3,FBc4,FBc5⟩:=FB.out.cells
      go_wp2
      go_ret
      exact ⟨ret_bool HVF.out.symm,HB.out⟩
end Go.Proofs.YtinijleelhbpoaaGreat

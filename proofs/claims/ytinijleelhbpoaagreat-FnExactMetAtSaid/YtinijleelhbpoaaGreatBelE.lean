/- MetAt, both texts. Written by mk/bele.py. -/
import Derived.Test.YtinijleelhbpoaaGreatBelQ
import Derived.Test.YtinijleelhbpoaaGreatBelO
import Derived.Test.YtinijleelhbpoaaGreatStDel
namespace Go.Proofs.YtinijleelhbpoaaGreat
open Go.RowKit
def metC (l:List Lg) (zs:List Int) (x:Int) (C D:List Sc) (at_:Int):List ByteArray:=(placesB l).filter fun p=>atC l zs x C at_ p && atC l zs x D at_ p
theorem met_eq {l:List Lg} {zs:List Int} {x:Int} {C D:List Sc} {at_:Int}:((belP l zs x C at_).filter fun y=>!(!Lib.containsS (belP l zs x D at_) y))=metC l zs x C D at_:=by
 unfold metC belP
 rw [List.filter_filter]
 refine List.filter_congr fun p _=>?_
 rw [show Lib.containsS ((placesB l).filter (atC l zs x D at_)) p=atC l zs x D at_ p from belP_has,Bool.not_not,Bool.and_comm]
theorem metC_len {l:List Lg} {zs:List Int} {x:Int} {C D:List Sc} {at_:Int} (hC:∀ y ∈ C,scB l zs x y=true):(metC l zs x C D at_).length≤40:=by
 rw [← met_eq]
 exact Nat.le_trans (List.length_filter_le _ _) (bel_len hC).1
def MetK (b X:Nat) (A:Option Addr) (c:Nat) (oth:List ByteArray) (W:World):Prop:=Box1 54 W X (.slice A oth.length c)∧OwnStr W b (.slice A oth.length c) oth
theorem met_says (b X:Nat) (A:Option Addr) (c:Nat) (oth bs:List ByteArray) (hl:oth.length≤4000000):SaysB 132 #[.pointer (some ⟨X,0,none⟩)] (fun p=>!Lib.containsS oth p) bs (MetK b X A c oth):=by
 intro W p _ hK
 have HC:=Lib.hid (contains_own hK.2 hl p)
 have x0:=hK.1.cell
 clear hK
 show Calls _ _ #[.string p,.pointer (some ⟨X,0,none⟩)] _ _
 dsimp only
 generalize Lib.containsS oth p=V at *
 go_enter Tryz.func132,Tryz.ntmps132
 go_wp2_with fail
 refine HC.out.mono ?_;rintro e w1 ⟨rfl,rfl⟩
 go_wp2
 go_ret
 exact ⟨rfl,Below.refl _ _⟩
theorem del_nil (p:ByteArray→Bool) (gf:Nat) (lb:Array Value) (K:World→Prop) (hK:∀ W W',K W→Below W.heap.size W W'→K W') (eg:∀ args w,(callFunc gf args).run Tryz.prog w=.ok (.enter gf args) w) (w:World) (hs:SaysB gf lb p [] K) (hw:K w) :
  Calls Tryz.prog 131 #[.slice none 0 0,.func (.func gf) #[] lb] w fun e w'=>e=.returned (.slice none 0 0)∧Below w.heap.size w w':=by
 have HI:=Lib.hid (idxf_st p gf lb K hK eg none 0 [] w (fun j hj=>absurd hj (by simp)) (by simp) hs hw)
 have h1:idxB p []=-1:=idxB_miss (fun j hj=>absurd hj (by simp))
 rw [h1] at HI
 clear hs hw hK h1
 go_enter Tryz.func131,Tryz.ntmps131
 go_wp2_with fail
 refine HI.out.mono ?_;rintro e w1 ⟨rfl,_,_,hb⟩
 go_wp2
 go_ret
 exact ⟨rfl,hb⟩
set_option maxRecDepth 100000 in
set_option maxHeartbeats 8000000 in
theorem met_impl (A:Option Addr) (ca:Nat) (l:List Lg) (D:Option Addr) (cd:Nat) (zs:List Int) (x:Int) (E:Option Addr) (ce:Nat) (ls:List Sc) (tx ty at_:Int) (w:World) (hA:InK 6 lgC w A l) (hD:IntsIn w D zs) (hs:∀ z ∈ l,z.f.size≤maxLen∧z.t.size≤maxLen) (hn:l.length≤1048576) (hm:zs.length≤1048576) (hE:InK 6 scC w E ls) (hk:ls.length≤1048576) (hce:ls.length≤ce) (hp:∀ z ∈ ls,z.p.size≤maxLen) (hat:-9223372036854775808≤at_) :
  Calls Tryz.prog 66 #[.agg #[.slice A l.length ca,.slice D zs.length cd,.int .i64 x],.slice E ls.length ce,.int .i64 tx,.int .i64 ty,.int .i64 at_] w fun e w'=>∃ v,e=.returned v∧OwnStr w' w.heap.size v (metC l zs x (clB l zs x ls tx) (clB l zs x ls ty) at_)∧Below w.heap.size w w':=by
 have eg:∀ args w,(callFunc 132 args).run Tryz.prog w=.ok (.enter 132 args) w:=enters_of Tryz.func132 (by kernel_rfl) rfl
 have hmf:∀ (fn:Fn) (first cap:Array Value) (w:World),(Instr.makeFunc fn first cap).run Tryz.prog w=.ok (.func fn first cap) w:=fun _ _ _ _=>rfl
 have hfd:=fun v1 v2=>fld0 v1 v2
 have HBE:=Lib.hid (fun th W (h1:InK 6 lgC W A l) (h2:IntsIn W D zs) (h3:InK 6 scC W E ls)=>belief_impl A ca l D cd zs x E ce ls th at_ W h1 h2 hs hn hm h3 hk hce hp hat)
 have hl1:=(bel_len (l:=l) (zs:=zs) (x:=x) (C:=(clB l zs x ls tx)) (at_:=at_) (fun y hy=>clB_mem hy)).1
 have hl2:=(bel_len (l:=l) (zs:=zs) (x:=x) (C:=(clB l zs x ls ty)) (at_:=at_) (fun y hy=>clB_mem hy)).1
 have HME:=Lib.hid (met_eq (l:=l) (zs:=zs) (x:=x) (C:=(clB l zs x ls tx)) (D:=(clB l zs x ls ty)) (at_:=at_))
 have HB1:=Lib.hid (HBE.out tx);have HB2:=Lib.hid (HBE.out ty)
 clear hs hk hce hp HBE
 generalize metC l zs x (clB l zs x ls tx) (clB l zs x ls ty) at_=M at *
 generalize belP l zs x (clB l zs x ls tx) at_=P1 at *
 generalize belP l zs x (clB l zs x ls ty) at_=P2 at *
 generalize belS l zs x (clB l zs x ls tx) at_=S1 at *
 generalize belS l zs x (clB l zs x ls ty) at_=S2 at *
 have FN:=Lib.hid (Box3.new (T:=27) (v0:=.slice A l.length ca) (v1:=.slice D zs.length cd) (v2:=.int .i64 x) w)
 have hb0:=(Below.refl w.heap.size w).alloc (Nat.le_refl _) (.cells #[.slice A l.length ca,.slice D zs.length cd,.int .i64 x] 27)
 have HL:=Lib.hid hb0.size
 have HA:=Lib.hid (hA.below hb0)
 have HD:=Lib.hid (hD.below hb0)
 have HE:=Lib.hid (hE.below hb0)
 have HB:=Lib.hid hb0
 clear hb0 hA hD hE
 generalize hB:w.heap.size=B at *
 have HBE:=Lib.hid hB
 go_enter Tryz.func66,Tryz.ntmps66
 go_wp2_with fail
 clear hB
 generalize (w.alloc (.cells #[.slice A l.length ca,.slice D zs.length cd,.int .i64 x] 27))=w0 at *
 have HL0:=Lib.hid HL.out
 refine (HB2.out w0 HA.out HD.out HE.out).mono ?_;rintro e w1 ⟨⟨v1,v2,rfl,o1,o2⟩,hb⟩
 replace HB:=Lib.hid (HB.out.trans (hb.mono HL.out))
 replace HL:=Lib.hid (Nat.le_trans HL.out hb.size)
 replace HA:=Lib.hid (HA.out.below hb)
 replace HD:=Lib.hid (HD.out.below hb)
 replace HE:=Lib.hid (HE.out.below hb)
 replace FN:=Lib.hid (FN.out.below hb)
 replace o1:=own_mono o1 HL0.out
 obtain ⟨A1,n1,rfl⟩:=row_opens o1
 have HO1:=Lib.hid o1
 clear o1 o2
 clear hb
 have HLo:=Lib.hid HL.out
 have FO:=Lib.hid (Box1.new (T:=54) (v:=.slice A1 P2.length n1) w1)
 have hb:=(Below.refl w1.heap.size w1).alloc (Nat.le_refl _) (.cells #[.slice A1 P2.length n1] 54)
 replace HB:=Lib.hid (HB.out.trans (hb.mono HL.out))
 replace HL:=Lib.hid (Nat.le_trans HL.out hb.size)
 replace HA:=Lib.hid (HA.out.below hb)
 replace HD:=Lib.hid (HD.out.below hb)
 replace HE:=Lib.hid (HE.out.below hb)
 replace FN:=Lib.hid (FN.out.below hb)
 replace HO1:=Lib.hid (own_below HO1.out hb)
 clear hb
 obtain ⟨FNc0,FNc1,FNc2⟩:=FN.out.cells
 go_wp2_with fail
 clear FNc0 FNc1 FNc2
 have hXO:B≤w1.heap.size:=HLo.out
 generalize w1.heap.size=XO at *
 generalize w1.alloc (.cells #[.slice A1 P2.length n1] 54)=w2 at *
 refine (HB1.out w2 HA.out HD.out HE.out).mono ?_;rintro e w3 ⟨⟨v1,v2,rfl,o1,o2⟩,hb⟩
 have HX2:=Lib.hid (show XO < w2.heap.size from FO.out.lt)
 have HOL:=Lib.hid (fun q h=>(World.ownsRow.lt HO1.out q h).2)
 have HLL:=Lib.hid HL.out
 replace HB:=Lib.hid (HB.out.trans (hb.mono HL.out))
 replace HL:=Lib.hid (Nat.le_trans HL.out hb.size)
 replace HA:=Lib.hid (HA.out.below hb)
 replace HD:=Lib.hid (HD.out.below hb)
 replace HE:=Lib.hid (HE.out.below hb)
 replace FN:=Lib.hid (FN.out.below hb)
 replace HO1:=Lib.hid (own_below HO1.out hb)
 replace FO:=Lib.hid (FO.out.below hb)
 clear hb o2 HB1 HB2
 have hKB:∀ W W',MetK B XO A1 n1 P2 W→Below W.heap.size W W'→MetK B XO A1 n1 P2 W':=fun W W' h hb=>⟨h.1.below hb,own_below h.2 hb⟩
 have HKW:=Lib.hid (show MetK B XO A1 n1 P2 w3 from ⟨FO.out,HO1.out⟩)
 rcases o1.2 with ⟨e1,hn1⟩ | ⟨G,c1,cur,e1,hG,_⟩
 ·subst e1
  have hz:P1=[]:=List.eq_nil_of_length_eq_zero hn1
  subst hz
  have HDN:=Lib.hid (del_nil (fun p=>!Lib.containsS P2 p) 132 #[.pointer (some ⟨XO,0,none⟩)] (MetK B XO A1 n1 P2) hKB eg w3 (met_says B XO A1 n1 P2 [] (by omega)) HKW.out)
  clear hKB o1
  go_wp2_with fail
  refine HDN.out.mono ?_;rintro e w4 ⟨rfl,hb⟩
  go_wp2
  go_ret
  exact ⟨_,rfl,by rw [← HME.out];exact own_nil _ _,HB.out.trans (hb.mono HL.out)⟩
 ·subst e1
  have hRS:RowS w3 w2.heap.size G c1 P1:=o1
  have hKG:∀ W W',MetK B XO A1 n1 P2 W→W.grownBy W' (some G)→MetK B XO A1 n1 P2 W':=fun W W' h hg=>⟨(hg.block XO h.1.lt (fun e=>by have e2:XO=G:=Option.some.inj e;have:=HX2.out;omega)).trans h.1,row_besides h.2 hg (fun q e=>by have:=HOL.out q e;omega)⟩
  have hds:=(del_st (fun p=>!Lib.containsS P2 p) 132 #[.pointer (some ⟨XO,0,none⟩)] w2.heap.size G c1 (MetK B XO A1 n1 P2) hKG eg P1 w3 hRS (by omega) (met_says B XO A1 n1 P2 P1 (by omega)) HKW.out)
  rw [HME.out] at hds
  have HDS:=Lib.hid hds
  have HRS:=Lib.hid hRS
  clear hKB hKG o1 hRS hds
  go_wp2_with fail
  refine HDS.out.mono ?_;rintro e w4 ⟨rfl,hr,hg⟩
  have HR:=Lib.hid hr;have hsz:=HLL.out
  have hBG:=HB.out.grown hg HL.out (fun q e=>by have e2:G=q:=Option.some.inj e;omega)
  clear hr hg
  go_wp2
  go_ret
  exact ⟨_,rfl,own_mono HR.out (by omega),hBG⟩
set_option maxRecDepth 100000 in
set_option maxHeartbeats 8000000 in
theorem met_spec (A:Option Addr) (ca:Nat) (l:List Lg) (D:Option Addr) (cd:Nat) (zs:List Int) (x:Int) (E:Option Addr) (ce:Nat) (ls:List Sc) (tx ty at_:Int) (w:World) (hA:InK 6 lgC w A l) (hD:IntsIn w D zs) (hs:∀ z ∈ l,z.f.size≤maxLen∧z.t.size≤maxLen) (hn:l.length≤1048576) (hm:zs.length≤1048576) (hE:InK 6 scC w E ls) (hk:ls.length≤1048576) (hce:ls.length≤ce) :
  Calls Tryz.prog 65 #[.agg #[.slice A l.length ca,.slice D zs.length cd,.int .i64 x],.slice E ls.length ce,.int .i64 tx,.int .i64 ty,.int .i64 at_] w fun e w'=>∃ v,e=.returned v∧OwnStr w' w.heap.size v (metC l zs x (clB l zs x ls tx) (clB l zs x ls ty) at_)∧Below w.heap.size w w':=by
 obtain ⟨i0,hi0,hz0,hz1,hz2⟩:=info_parts str_info
 have HMA:=Lib.hid (fun th q W (h1:InK 6 lgC W A l) (h2:IntsIn W D zs) (h3:InK 6 scC W E ls)=>may_at_spec A ca l D cd zs x E ce ls th at_ q W h1 h2 hs hn hm h3 hk hce)
 have HPL:=Lib.hid (fun W (h1:InK 6 lgC W A l)=>places_spec A ca l D cd zs.length x W h1 hn)
 have hpl4:(placesB l).length≤2097152:=by have:=placesB_len l;omega
 obtain ⟨M,hM⟩:∃ M,M=metC l zs x (clB l zs x ls tx) (clB l zs x ls ty) at_:=⟨_,rfl⟩
 rw [← hM]
 unfold metC at hM
 have HM1:=Lib.hid (HMA.out tx);have HM2:=Lib.hid (HMA.out ty)
 clear hs hk hce HMA
 generalize atC l zs x (clB l zs x ls tx) at_=g1 at *
 generalize atC l zs x (clB l zs x ls ty) at_=g2 at *
 generalize placesB l=pl at *
 have HM:=Lib.hid hM;clear hM
 have HAo:=Lib.hid hA;have HDo:=Lib.hid hD;have HEo:=Lib.hid hE
 have FN:=Lib.hid (Box3.new (T:=27) (v0:=.slice A l.length ca) (v1:=.slice D zs.length cd) (v2:=.int .i64 x) w)
 have hb0:=(Below.refl w.heap.size w).alloc (Nat.le_refl _) (.cells #[.slice A l.length ca,.slice D zs.length cd,.int .i64 x] 27)
 have HL:=Lib.hid hb0.size
 have HA:=Lib.hid (hA.below hb0)
 have HB:=Lib.hid hb0
 clear hb0 hA
 generalize hB:w.heap.size=B at *
 have HBE:=Lib.hid hB
 go_enter Tryz.func65,Tryz.ntmps65
 go_wp2_with fail
 have HW0:=Lib.hid (show (w.alloc (.cells #[.slice A l.length ca,.slice D zs.length cd,.int .i64 x] 27)).heap.size=B+1 by rw [World.size_alloc,hB])
 clear hB
 generalize (w.alloc (.cells #[.slice A l.length ca,.slice D zs.length cd,.int .i64 x] 27))=w0 at *
 have hb1:=(Below.refl w0.heap.size w0).alloc (Nat.le_refl _) (.cells #[] 9)
 have HV:=Lib.hid (show OwnStr (w0.alloc (.cells #[] 9)) (B+1) (.slice (some ⟨B+1,0,none⟩) 0 0) ((pl.take 0).filter fun p=>g1 p && g2 p) from by have h:=own_new w0;rw [HW0.out] at h;exact h)
 have hs1:(w0.alloc (.cells #[] 9)).heap.size=w0.heap.size+1:=by simp
 have HX1:=Lib.hid (show B < w0.heap.size from FN.out.lt)
 replace FN:=Lib.hid (FN.out.below hb1);replace HA:=Lib.hid (HA.out.below hb1);replace HB:=Lib.hid (HB.out.trans (hb1.mono HL.out));replace HL:=Lib.hid (Nat.le_trans HL.out hb1.size)
 obtain ⟨n0,n1,n2⟩:=FN.out.cells
 go_wp2_with fail
 clear n0 n1 n2 hb1
 replace HX1:=Lib.hid (show B+1≤(w0.alloc (.cells #[] 9)).heap.size by have:=HX1.out;omega)
 clear hs1
 generalize w0.alloc (.cells #[] 9)=w2 at *
 refine (HPL.out w2 HA.out).mono ?_;rintro e w3 ⟨⟨vp,rfl,ho⟩,hb⟩
 obtain ⟨PA,cp,rfl,_⟩:=own_strs ho
 have hpo:=own_mono ho (show B+1≤w2.heap.size by have:=HX1.out;omega)
 replace FN:=Lib.hid (FN.out.below hb);have HV0:=Lib.hid (own_below HV.out hb);replace HB:=Lib.hid (HB.out.trans (hb.mono HL.out));replace HL:=Lib.hid (Nat.le_trans HL.out hb.size)
 have HNE:=Lib.hid (show ∀ q,(Value.slice (some ⟨B+1,0,none⟩) 0 0).ownBlock=some q→(Value.slice PA pl.length cp).ownBlock ≠ some q from fun q e1 e2=>by have h1:=(World.ownsRow.lt HV.out q e1).2;have h2:=(World.ownsRow.lt ho q e2).1;omega)
 have HPO:=Lib.hid hpo
 clear ho hpo hb HV HPL
 go_wp2
 go_loopw [13,11] (fun i v wr=>∃ k:Nat,i=.int .i64 k∧k≤pl.length∧Hid (OwnStr wr (B+1) v ((pl.take k).filter fun p=>g1 p && g2 p))∧Hid (OwnStr wr (B+1) (.slice PA pl.length cp) pl)∧Hid (Below B w wr)∧Hid (Box3 27 wr B (.slice A l.length ca) (.slice D zs.length cd) (.int .i64 x))∧Hid (∀ q,v.ownBlock=some q→(Value.slice PA pl.length cp).ownBlock ≠ some q)) (fun i _ _=>pl.length - (intOf i).toNat)
 case atStart=>exact ⟨0,rfl,Nat.zero_le _,HV0,HPO,HB,FN,HNE⟩
 case round =>
  clear HV0 HPO HB FN HNE HL
  obtain ⟨k,rfl,hk,ho,hpo,hbw,hfn,hne⟩:=hrel
  by_cases hlt:(k:Int) < (pl.length:Int)
  ·have hkl:k < pl.length:=by omega
   have hbW:Below w.heap.size w wr:=by rw [HBE.out];exact hbw.out
   have ha:=Lib.hid (HAo.out.below hbW);have hdd:=Lib.hid (HDo.out.below hbW);have he:=Lib.hid (HEo.out.below hbW)
   obtain ⟨A',c',e',hP⟩:=own_strs hpo.out
   cases e'
   obtain ⟨g,eqg,hg,hc⟩:=hP k hkl
   subst eqg
   have HFY:=Lib.hid (fun h=>fl_yes (g:=fun p=>g1 p && g2 p) hkl h);have HFN:=Lib.hid (fun h=>fl_no (g:=fun p=>g1 p && g2 p) hkl h)
   have hlenF:((pl.take k).filter fun p=>g1 p && g2 p).length≤2097152:=Nat.le_trans (List.length_filter_le _ _) (by rw [List.length_take];omega)
   clear hP
   generalize ((pl.take k).filter fun p=>g1 p && g2 p)=F at *
   generalize pl[k]=p at *
   try dsimp only at HFY HFN
   go_upto_region 6 with (fail)
   have hnl:=hfn.out.lt
   obtain ⟨n0,n1,n2⟩:=hfn.out.cells
   have fn0:=far_cell hnl n0;have fn1:=far_cell hnl n1;have fn2:=far_cell hnl n2;have fc:=far_cell hg hc
   clear n0 n1 n2
   have HF0:=Lib.hid (fun u=>HM1.out p (far wr u) (ha.out.below (below_far wr u)) (hdd.out.below (below_far wr u)) (he.out.below (below_far wr u)))
   have HF1:=Lib.hid (fun u=>HM2.out p (far wr u) (ha.out.below (below_far wr u)) (hdd.out.below (below_far wr u)) (he.out.below (below_far wr u)))
   cases hq1:g1 p with
   | false =>
    rw [hq1] at HF0 HFN
    have HF:=Lib.hid (HFN.out rfl)
    clear HFY HFN hq1 HF1 hc
    refine wp_region_far (by kernel_rfl) (by kernel_rfl) ?_
    repeat (any_goals (first | go_big_quiet_step ((first | (go_at_call 48;with_reducible exact call_far (HF0.out _)))) | quiet_step ((first | (go_at_call 48;with_reducible exact call_far (HF0.out _))))))
    refine wpQuiet_nil ?_;intro w6 hw6
    have hb6:Below wr.heap.size wr w6:=by obtain ⟨u,rfl⟩:=hw6;exact below_far wr u
    clear hw6 fn0 fn1 fn2 fc
    replace ho:=Lib.hid (own_below ho.out hb6);replace hpo:=Lib.hid (own_below hpo.out hb6);replace hbw:=Lib.hid (hbw.out.trans (hb6.mono (Nat.le_of_lt hnl)));replace hfn:=Lib.hid (hfn.out.below hb6)
    clear hb6
    go_wp2
    go_roundw
    case rel=>exact ⟨k+1,by go_num,by omega,Lib.hid (by rw [HF.out];exact ho.out),hpo,hbw,hfn,hne⟩
    case measure=>simp [intOf];omega
   | true =>
    rw [hq1] at HF0 HFN HFY
    cases hq2:g2 p with
    | false =>
     rw [hq2] at HF1 HFN
     have HF:=Lib.hid (HFN.out rfl)
     clear HFY HFN hq1 hq2 hc
     refine wp_region_far (by kernel_rfl) (by kernel_rfl) ?_
     repeat (any_goals (first | go_big_quiet_step ((first | (go_at_call 48;with_reducible exact call_far (HF0.out _)) | (go_at_call 48;with_reducible exact call_far (HF1.out _)))) | quiet_step ((first | (go_at_call 48;with_reducible exact call_far (HF0.out _)) | (go_at_call 48;with_reducible exact call_far (HF1.out _))))))
     refine wpQuiet_nil ?_;intro w6 hw6
     have hb6:Below wr.heap.size wr w6:=by obtain ⟨u,rfl⟩:=hw6;exact below_far wr u
     clear hw6 fn0 fn1 fn2 fc
     replace ho:=Lib.hid (own_below ho.out hb6);replace hpo:=Lib.hid (own_below hpo.out hb6);replace hbw:=Lib.hid (hbw.out.trans (hb6.mono (Nat.le_of_lt hnl)));replace hfn:=Lib.hid (hfn.out.below hb6)
     clear hb6
     go_wp2
     go_roundw
     case rel=>exact ⟨k+1,by go_num,by omega,Lib.hid (by rw [HF.out];exact ho.out),hpo,hbw,hfn,hne⟩
     case measure=>simp [intOf];omega
    | true =>
     rw [hq2] at HF1 HFY
     have HF:=Lib.hid (HFY.out rfl)
     clear HFY HFN hq1 hq2
     refine wp_region_far (by kernel_rfl) (by kernel_rfl) ?_
     repeat (any_goals (first | go_big_quiet_step ((first | (go_at_call 48;with_reducible exact call_far (HF0.out _)) | (go_at_call 48;with_reducible exact call_far (HF1.out _)))) | quiet_step ((first | (go_at_call 48;with_reducible exact call_far (HF0.out _)) | (go_at_call 48;with_reducible exact call_far (HF1.out _))))))
     refine wpQuiet_nil ?_;intro w6 hw6
     have hb6:Below wr.heap.size wr w6:=by obtain ⟨u,rfl⟩:=hw6;exact below_far wr u
     clear hw6 fn0 fn1 fn2 fc
     replace ho:=Lib.hid (own_below ho.out hb6);replace hpo:=Lib.hid (own_below hpo.out hb6);replace hbw:=Lib.hid (hbw.out.trans (hb6.mono (Nat.le_of_lt hnl)));replace hfn:=Lib.hid (hfn.out.below hb6)
     have hc6:=(hb6.cell (p:=⟨g,k,none⟩) hg).trans hc
     have hBl:=hfn.out.lt
     clear hb6 hc HF0 HF1
     go_wp2_with (at_builtin;refine wpList_append_own_at _ rfl _ _ 54 rfl (B+1) 9 i0 _ 1 16 Tryz.underlying54 hi0 hz0 hz1 hz2 rfl (by decide) _ F.length (strV F) rfl (World.ownsRow.alloc ho.out (.cells #[.string p] 9)) ⟨w6.heap.size,0,none⟩ 1 1 (strV [p]) rfl rfl (str_news _ _) (one_str _) (by unfold maxLen;omega) (by omega) (by rw [World.size_alloc];omega) ?_;intro v' w7 hown hgr hnil hob)
     have hba:=(Below.refl w6.heap.size w6).alloc (Nat.le_refl _) (.cells #[.string p] 9)
     have hlo:=fun q h=>World.ownsRow.lt ho.out q h
     have HB7:=Lib.hid ((hbw.out.trans (hba.mono (Nat.le_of_lt hBl))).grown hgr (by rw [World.size_alloc];omega) (fun q h=>by have:=(hlo q h).1;omega))
     have HN7:=Lib.hid ((hfn.out.below hba).apart hgr (fun h=>by have:=(hlo B h.symm).1;omega))
     have HP7:=Lib.hid (row_apart (own_below hpo.out hba) hgr (fun q e1 e2=>hne.out q e2 e1))
     have HNE7:=Lib.hid (show ∀ q,v'.ownBlock=some q→(Value.slice (some ⟨g,0,none⟩) pl.length cp).ownBlock ≠ some q from fun q e1 e2=>hob.elim (fun e3=>hne.out q (by rw [e3] at e1;exact e1) e2) (fun e3=>by rw [e3] at e1;have e4:(w6.alloc (.cells #[.string p] 9)).heap.size=q:=Option.some.inj e1;have:=(World.ownsRow.lt hpo.out q e2).2;rw [World.size_alloc] at e4;omega))
     have HO7:=Lib.hid (show OwnStr w7 (B+1) v' (F ++ [p]) by unfold OwnStr;rw [List.length_append,strV_app];exact hown)
     clear hown hgr hnil hob hba hlo
     go_roundw
     case rel=>exact ⟨k+1,by go_num,by omega,Lib.hid (by rw [HF.out];exact HO7.out),Lib.hid HP7.out,HB7,HN7,HNE7⟩
     case measure=>simp [intOf];omega
  ·obtain rfl:k=pl.length:=by omega
   rw [List.take_length] at ho
   go_wp2
   go_ret
   exact ⟨_,rfl,by rw [HM.out];exact own_mono ho.out (by omega),hbw.out⟩
end Go.Proofs.YtinijleelhbpoaaGreat

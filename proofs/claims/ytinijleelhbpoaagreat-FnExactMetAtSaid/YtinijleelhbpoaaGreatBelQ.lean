/- BeliefOf, both texts. Written by mk/belq.py. -/
import Derived.Test.YtinijleelhbpoaaGreatBelB
import Derived.Test.YtinijleelhbpoaaGreatBelS
namespace Go.Proofs.YtinijleelhbpoaaGreat
open Go.RowKit
theorem OwnK.firsts {α:Type} {enc:α→List Value} {k:Nat} {T:TypeId} {w:World} {b n c m:Nat} {A:Option Addr} {l:List α} (hk:∀ a,(enc a).length=k) (h:OwnK T k enc w b (.slice A n c) l) (hm:m≤l.length):OwnK T k enc w b (.slice A m c) (l.take m):=by
 have hl:(l.take m).length=m:=by rw [List.length_take];omega
 have h1:=h.1
 refine ⟨by rw [hl,← flatTake hk l m hm,List.length_take,h1];exact Nat.min_eq_left (Nat.mul_le_mul_right k hm),?_⟩
 rcases h.2 with ⟨e,hn⟩ | ⟨g,c',cur,e,h2,h3,h4,h5,h6,h7⟩
 ·cases e
  exact .inl ⟨by rw [show m=0 by omega],by rw [hl];omega⟩
 ·cases e
  refine .inr ⟨g,c,cur,by rw [hl],h2,h3,by rw [hl];omega,h5,h6,?_⟩
  rw [hl,← flatTake hk l m hm,← h7,List.take_take,Nat.min_eq_left (Nat.mul_le_mul_right k hm)]
theorem OwnK.form {α:Type} {enc:α→List Value} {k:Nat} {T:TypeId} {w:World} {b n c:Nat} {A:Option Addr} {l:List α} (h:OwnK T k enc w b (.slice A n c) l):n=l.length∧n≤c∧c≤maxLen∧((A=none∧n=0∧c=0) ∨ ∃ g,A=some ⟨g,0,none⟩):=by
 rcases h.2 with ⟨e,hn⟩ | ⟨g,c',cur,e,h2,h3,h4,h5,_⟩
 ·cases e
  exact ⟨by omega,Nat.le_refl _,Nat.zero_le _,Or.inl ⟨rfl,rfl,rfl⟩⟩
 ·cases e
  exact ⟨rfl,h4,h5,Or.inr ⟨g,rfl⟩⟩
def belS (l:List Lg) (zs:List Int) (x:Int) (C:List Sc) (at_:Int):List Tp:=(belR l zs x C at_).take 60
theorem belS_len {l:List Lg} {zs:List Int} {x:Int} {C:List Sc} {at_:Int}:(belS l zs x C at_).length≤60:=by unfold belS;rw [List.length_take];omega
set_option maxRecDepth 100000 in
set_option maxHeartbeats 8000000 in
theorem belief_impl (A:Option Addr) (ca:Nat) (l:List Lg) (D:Option Addr) (cd:Nat) (zs:List Int) (x:Int) (E:Option Addr) (ce:Nat) (ls:List Sc) (th at_:Int) (w:World) (hA:InK 6 lgC w A l) (hD:IntsIn w D zs) (hs:∀ z ∈ l,z.f.size≤maxLen∧z.t.size≤maxLen) (hn:l.length≤1048576) (hm:zs.length≤1048576) (hE:InK 6 scC w E ls) (hk:ls.length≤1048576) (hce:ls.length≤ce) (hp:∀ z ∈ ls,z.p.size≤maxLen) (hat:-9223372036854775808≤at_) :
  Calls Tryz.prog 38 #[.agg #[.slice A l.length ca,.slice D zs.length cd,.int .i64 x],.slice E ls.length ce,.int .i64 th,.int .i64 at_] w fun e w'=>BelPost w.heap.size (belP l zs x (clB l zs x ls th) at_) (belS l zs x (clB l zs x ls th) at_) e w'∧Below w.heap.size w w':=by
 have HBV:=Lib.hid (fun W (h1:InK 6 lgC W A l) (h2:IntsIn W D zs) (h3:InK 6 scC W E ls)=>believed_impl A ca l D cd zs x E ce ls th at_ W h1 h2 hs hn hm h3 hk hce hp hat)
 have hln:=bel_len (l:=l) (zs:=zs) (x:=x) (C:=(clB l zs x ls th)) (at_:=at_) (fun y hy=>clB_mem hy)
 have HSB:=Lib.hid (show belS l zs x (clB l zs x ls th) at_=(belR l zs x (clB l zs x ls th) at_).take 60 from rfl)
 clear hs hk hce hp
 generalize belP l zs x (clB l zs x ls th) at_=PP at *
 generalize belS l zs x (clB l zs x ls th) at_=SS at *
 generalize belR l zs x (clB l zs x ls th) at_=RR at *
 have H3:=two w (.cells #[.slice A l.length ca,.slice D zs.length cd,.int .i64 x] 27) (.cells #[.slice none 0 0,.slice none 0 0] 56)
 have FN:=Lib.hid (show Box3 27 _ (w.heap.size) _ _ _ from H3.1)
 have FR:=Lib.hid (show Box2 56 _ (w.heap.size+1) _ _ from H3.2.1)
 have hb0:=H3.2.2.1
 have HL:=Lib.hid hb0.size
 clear H3
 have HA:=Lib.hid (hA.below hb0)
 have HD:=Lib.hid (hD.below hb0)
 have HE:=Lib.hid (hE.below hb0)
 have HB:=Lib.hid hb0
 clear hb0 hA hD hE
 generalize hB:w.heap.size=B at *
 have HBE:=Lib.hid hB
 go_enter Tryz.func38,Tryz.ntmps38
 go_wp2_with fail
 clear hB
 generalize ((w.alloc (.cells #[.slice A l.length ca,.slice D zs.length cd,.int .i64 x] 27)).alloc (.cells #[.slice none 0 0,.slice none 0 0] 56))=w0 at *
 have HRB:=Lib.hid (show B+1 < w0.heap.size from FR.out.lt)
 refine (HBV.out w0 HA.out HD.out HE.out).mono ?_;rintro e w1 ⟨⟨v1,v2,rfl,o1,o2⟩,hb⟩
 replace HB:=Lib.hid (HB.out.trans (hb.mono HL.out))
 replace HL:=Lib.hid (Nat.le_trans HL.out hb.size)
 replace HA:=Lib.hid (HA.out.below hb)
 replace HD:=Lib.hid (HD.out.below hb)
 replace HE:=Lib.hid (HE.out.below hb)
 replace FN:=Lib.hid (FN.out.below hb)
 replace FR:=Lib.hid (FR.out.below hb)
 replace o1:=own_mono o1 (show B+2≤w0.heap.size from HRB.out);replace o2:=OwnK.mono o2 (show B+2≤w0.heap.size from HRB.out)
 replace HRB:=Lib.hid (Nat.le_trans HRB.out hb.size)
 clear hb
 obtain ⟨A1,n1,rfl⟩:=row_opens o1
 obtain ⟨A2,n2,rfl⟩:=row_opens o2
 obtain ⟨_,hc2,hc3,hfm⟩:=OwnK.form o2
 obtain ⟨m,hm1⟩:∃ m,m=min RR.length 60:=⟨_,rfl⟩
 have hmR:m≤RR.length:=by omega
 have o3:=OwnK.firsts tpC_len o2 hmR
 have hS2:SS=RR.take m:=by
  rw [HSB.out,hm1]
  by_cases h:RR.length≤60
  ·rw [Nat.min_eq_left h,List.take_of_length_le h,List.take_of_length_le (Nat.le_refl _)]
  ·rw [Nat.min_eq_right (by omega)]
 rw [← hS2] at o3
 have HO:=Lib.hid (And.intro o1 o3)
 have hmi:min (RR.length:Int) 60=(m:Int):=by omega
 have hmc:m≤n2:=by omega
 have hl40:=hln.1;have hl12:=hln.2
 clear o1 o2 o3 hS2 hm1 hln HSB HBV
 have HQ1:=Lib.hid (fun q h=>(World.ownsRow.lt HO.out.1 q h).2);have HQ2:=Lib.hid (fun q h=>(World.ownsRow.lt HO.out.2 q h).2)
 have FB:=Lib.hid (Box2.new (T:=56) (v0:=.slice A1 PP.length n1) (v1:=.slice A2 RR.length n2) w1)
 have hb:=(Below.refl w1.heap.size w1).alloc (Nat.le_refl _) (.cells #[.slice A1 PP.length n1,.slice A2 RR.length n2] 56)
 clear HA HD HE
 replace HB:=Lib.hid (HB.out.trans (hb.mono HL.out))
 replace HL:=Lib.hid (Nat.le_trans HL.out hb.size)
 replace FN:=Lib.hid (FN.out.below hb)
 replace FR:=Lib.hid (FR.out.below hb)
 have HO2:=Lib.hid (And.intro (own_below HO.out.1 hb) (OwnK.below HO.out.2 hb))
 clear HO hb
 have HXB:=Lib.hid (show B+1 < w1.heap.size from HRB.out)
 go_upto_region 2 with (fail)
 generalize w1.heap.size=XB at *
 generalize w1.alloc (.cells #[.slice A1 PP.length n1,.slice A2 RR.length n2] 56)=w2 at *
 obtain ⟨x0,x1⟩:=FB.out.cells
 obtain ⟨y0,y1⟩:=FB.out.free
 have hxl:=FB.out.lt
 have hrl:=FR.out.lt
 obtain ⟨r0,r1⟩:=FR.out.cells
 obtain ⟨q0,q1⟩:=FR.out.free
 have hne1:¬ XB=B+1:=by have:=HXB.out;omega
 have hne2:¬ B+1=XB:=by have:=HXB.out;omega
 rcases hfm with ⟨rfl,h0,rfl⟩ | ⟨g,rfl⟩
 ·have hm0:m=(min (0:Int) 60).toNat:=by
   have h3:m=0:=by omega
   rw [h3];rfl
  rw [hm0] at HO2
  go_wp2
  have FR3:=FR.out.other (C:=XB) (o:=1) (x:=(.slice none (min (0:Int) 60).toNat 0)) (fun e=>hne2 e)
  have o1:=row_besides HO2.out.1 (only_set w2 XB 1 (.slice none (min (0:Int) 60).toNat 0)) (fun q e=>by have:=HQ1.out q e;omega)
  have o3:=row_besides HO2.out.2 (only_set w2 XB 1 (.slice none (min (0:Int) 60).toNat 0)) (fun q e=>by have:=HQ2.out q e;omega)
  have HB3:=HB.out.setCell (p:=⟨XB,1,none⟩) (show B≤XB by have:=HXB.out;omega) (.slice none (min (0:Int) 60).toNat 0)
  obtain ⟨z,q1,q2,q3⟩:=bel_stored FR3 o1 o3 HB3 (by omega) (by omega)
  obtain ⟨z0,z1⟩:=z.cells
  exact bodyPost_ret (v:=.agg #[.slice A1 PP.length n1,(.slice none (min (0:Int) 60).toNat 0)]) (by simp [results,Tryz.results38,go_sem,z0,z1]) rfl ⟨⟨_,_,rfl,q1,q2⟩,q3⟩
 ·go_wp2
  have FR3:=FR.out.other (C:=XB) (o:=1) (x:=(.slice (some ⟨g,0,none⟩) m n2)) (fun e=>hne2 e)
  have o1:=row_besides HO2.out.1 (only_set w2 XB 1 (.slice (some ⟨g,0,none⟩) m n2)) (fun q e=>by have:=HQ1.out q e;omega)
  have o3:=row_besides HO2.out.2 (only_set w2 XB 1 (.slice (some ⟨g,0,none⟩) m n2)) (fun q e=>by have:=HQ2.out q e;omega)
  have HB3:=HB.out.setCell (p:=⟨XB,1,none⟩) (show B≤XB by have:=HXB.out;omega) (.slice (some ⟨g,0,none⟩) m n2)
  obtain ⟨z,q1,q2,q3⟩:=bel_stored FR3 o1 o3 HB3 (by omega) (by omega)
  obtain ⟨z0,z1⟩:=z.cells
  exact bodyPost_ret (v:=.agg #[.slice A1 PP.length n1,(.slice (some ⟨g,0,none⟩) m n2)]) (by simp [results,Tryz.results38,go_sem,z0,z1]) rfl ⟨⟨_,_,rfl,q1,q2⟩,q3⟩
theorem pre_filter {n:Nat} {f:Tp→Bool} {d k:Nat} (hd:d≤60) (hk:k≤n):preF n f d k <+: (allT n).filter f:=by
 unfold preF
 exact (preT_pre n d k hd hk).filter f
theorem pre_take {α:Type} {R L:List α} (h:R <+: L) (hl:R.length=60):L.take 60=R:=by
 obtain ⟨s,rfl⟩:=h
 rw [← hl,List.take_left']
 rfl
def RdOk (n:Nat) (f:Tp→Bool) (R:List Tp) (d:Nat):Prop:=R.length≤60∧(R=preF n f d 0 ∨ (R.length=60∧R <+: (allT n).filter f))
theorem rd_end {n:Nat} {f:Tp→Bool} {R:List Tp} {d:Nat} (h:RdOk n f R d) (he:d=61 ∨ R.length=60) (hd:d≤61):((allT n).filter f).take 60=R:=by
 rcases h.2 with e | ⟨h1,h2⟩
 ·by_cases h6:d=61
  ·subst h6
   have e2:R=(allT n).filter f:=e
   rw [← e2]
   exact List.take_of_length_le h.1
  ·have hl:R.length=60:=by omega
   exact pre_take (by rw [e];exact pre_filter (by omega) (Nat.zero_le _)) hl
 ·exact pre_take h2 h1
set_option maxRecDepth 100000 in
set_option maxHeartbeats 8000000 in
theorem belief_spec (A:Option Addr) (ca:Nat) (l:List Lg) (D:Option Addr) (cd:Nat) (zs:List Int) (x:Int) (E:Option Addr) (ce:Nat) (ls:List Sc) (th at_:Int) (w:World) (hA:InK 6 lgC w A l) (hD:IntsIn w D zs) (hs:∀ z ∈ l,z.f.size≤maxLen∧z.t.size≤maxLen) (hn:l.length≤1048576) (hm:zs.length≤1048576) (hE:InK 6 scC w E ls) (hk:ls.length≤1048576) (hce:ls.length≤ce) :
  Calls Tryz.prog 56 #[.agg #[.slice A l.length ca,.slice D zs.length cd,.int .i64 x],.slice E ls.length ce,.int .i64 th,.int .i64 at_] w fun e w'=>BelPost w.heap.size (belP l zs x (clB l zs x ls th) at_) (belS l zs x (clB l zs x ls th) at_) e w'∧Below w.heap.size w w':=by
 obtain ⟨i0,hi0,hz0,hz1,hz2⟩:=info_parts str_info
 obtain ⟨j0,hj0,hy0,hy1,hy2⟩:=info_parts tp_info
 have H3:=two w (.cells #[.slice A l.length ca,.slice D zs.length cd,.int .i64 x] 27) (.cells #[.slice none 0 0,.slice none 0 0] 56)
 have FN:=Lib.hid (show Box3 27 _ w.heap.size _ _ _ from H3.1);have FR:=Lib.hid (show Box2 56 _ (w.heap.size+1) _ _ from H3.2.1);have hb0:=H3.2.2.1
 clear H3
 have HA:=Lib.hid (hA.below hb0);have HD:=Lib.hid (hD.below hb0);have HE:=Lib.hid (hE.below hb0);have HB:=Lib.hid hb0;have HL:=Lib.hid hb0.size
 have HMA:=Lib.hid (fun q W (h1:InK 6 lgC W A l) (h2:IntsIn W D zs) (h3:InK 6 scC W E ls)=>may_at_spec A ca l D cd zs x E ce ls th at_ q W h1 h2 hs hn hm h3 hk hce)
 have HMR:=Lib.hid (fun g d W (h1:InK 6 lgC W A l) (h2:IntsIn W D zs) (h3:InK 6 scC W E ls)=>may_ride_spec A ca l D cd zs x E ce ls th at_ g d W h1 h2 hs hn hm h3 hk hce)
 have HPL:=Lib.hid (fun W (h1:InK 6 lgC W A l)=>places_spec A ca l D cd zs.length x W h1 hn)
 have hpl4:(placesB l).length≤2097152:=by have:=placesB_len l;omega
 obtain ⟨PP,hPP⟩:∃ PP,PP=belP l zs x (clB l zs x ls th) at_:=⟨_,rfl⟩
 obtain ⟨SS,hSS⟩:∃ SS,SS=belS l zs x (clB l zs x ls th) at_:=⟨_,rfl⟩
 rw [← hPP,← hSS]
 unfold belP at hPP
 unfold belS belR at hSS
 clear hA hD hE hs hk hce hb0
 generalize atC l zs x (clB l zs x ls th) at_=g1 at *
 generalize rideC l zs x (clB l zs x ls th) at_=g2 at *
 generalize placesB l=pl at *
 have HPP:=Lib.hid hPP;have HSS:=Lib.hid hSS;clear hPP hSS
 generalize hB:w.heap.size=B at *
 have HBE:=Lib.hid hB
 go_enter Tryz.func56,Tryz.ntmps56
 go_upto_region 1 with (fail)
 clear hB
 generalize (w.alloc (.cells #[.slice A l.length ca,.slice D zs.length cd,.int .i64 x] 27)).alloc (.cells #[.slice none 0 0,.slice none 0 0] 56)=w1 at *
 have hba:=(Below.refl w1.heap.size w1).alloc (Nat.le_refl _) (.cells #[.slice none 0 0,.slice none 0 0] 56)
 have FX:=Lib.hid (Box2.new (T:=56) (v0:=.slice none 0 0) (v1:=.slice none 0 0) w1)
 have HA2:=Lib.hid (HA.out.below hba);have FN2:=Lib.hid (FN.out.below hba);have HBA:=Lib.hid hba
 have hs2:(w1.alloc (.cells #[.slice none 0 0,.slice none 0 0] 56)).heap.size=w1.heap.size+1:=by simp
 have hBl:=FN.out.lt
 obtain ⟨n0,n1,n2⟩:=FN2.out.cells
 go_wp2_with fail
 clear n0 n1 n2 hba
 generalize w1.alloc (.cells #[.slice none 0 0,.slice none 0 0] 56)=w2 at *
 refine (HPL.out w2 HA2.out).mono ?_;rintro e w3 ⟨⟨vp,rfl,ho⟩,hb⟩
 obtain ⟨PA,cp,rfl,_⟩:=own_strs ho
 rw [hs2] at ho
 have HAW:=Lib.hid (show Aw1 w1 PA cp pl ((pl.take 0).filter g1) none 0 w3 from ⟨HBA.out.trans (hb.mono (by omega)),FX.out.below hb,own_nil _ _,ho,fun q h=>by cases h⟩)
 clear ho hb HA2 FN2 HPL FX HBA hs2
 go_wp2
 go_loopw [11] (fun i wr=>∃ (k:Nat) (PB:Option Addr) (cB:Nat),i=.int .i64 k∧k≤pl.length∧Hid (Aw1 w1 PA cp pl ((pl.take k).filter g1) PB cB wr)) (fun i _=>pl.length - (intOf i).toNat)
 case atStart=>exact ⟨0,none,0,rfl,Nat.zero_le _,HAW⟩
 case round =>
  clear HAW
  obtain ⟨k,PB,cB,rfl,hk,haw⟩:=hrel
  by_cases hlt:(k:Int) < (pl.length:Int)
  ·have hkl:k < pl.length:=by omega
   obtain ⟨A',c',e',hP⟩:=own_strs haw.out.pls
   cases e'
   obtain ⟨g,eqg,hg,hc⟩:=hP k hkl
   subst eqg
   have HAw:=Lib.hid (HA.out.below haw.out.bel);have HDw:=Lib.hid (HD.out.below haw.out.bel);have HEw:=Lib.hid (HE.out.below haw.out.bel);have FNw:=Lib.hid (FN.out.below haw.out.bel)
   have HFY:=Lib.hid (fun h=>fl_yes (g:=g1) hkl h);have HFN:=Lib.hid (fun h=>fl_no (g:=g1) hkl h)
   have hlenF:((pl.take k).filter g1).length≤2097152:=Nat.le_trans (List.length_filter_le _ _) (by rw [List.length_take];omega)
   have HPX:=Lib.hid (fun (W:World) (h:OwnStr W (w1.heap.size+1) (.slice (some ⟨g,0,none⟩) pl.length cp) pl)=>show W.cell? ⟨g,k,none⟩=some (.string pl[k]) by obtain ⟨A2,c2,e2,h2⟩:=own_strs h;cases e2;obtain ⟨g2,e3,_,h3⟩:=h2 k hkl;cases e3;exact h3)
   clear hP
   generalize (pl.take k).filter g1=F at *
   obtain ⟨p,hp⟩:∃ p,p=pl[k]:=⟨_,rfl⟩
   rw [← hp] at hc HFY HFN HPX
   clear hp
   go_upto_region 6 with (fail)
   have hnl:=FNw.out.lt
   obtain ⟨n0,n1,n2⟩:=FNw.out.cells
   have fn0:=far_cell hnl n0;have fn1:=far_cell hnl n1;have fn2:=far_cell hnl n2;have fc:=far_cell hg hc
   clear n0 n1 n2 hc
   have HF0:=Lib.hid (fun u=>HMA.out p (far wr u) (HAw.out.below (below_far wr u)) (HDw.out.below (below_far wr u)) (HEw.out.below (below_far wr u)))
   cases hq:g1 p with
   | false =>
    rw [hq] at HF0
    have HF:=Lib.hid (HFN.out hq)
    clear HFY HFN hq
    refine wp_region_far (by kernel_rfl) (by kernel_rfl) ?_
    repeat (any_goals (first | go_big_quiet_step ((first | (go_at_call 48;with_reducible exact call_far (HF0.out _)))) | quiet_step ((first | (go_at_call 48;with_reducible exact call_far (HF0.out _))))))
    refine wpQuiet_nil ?_;intro w6 hw6
    have hb6:Below wr.heap.size wr w6:=by obtain ⟨u,rfl⟩:=hw6;exact below_far wr u
    clear hw6 fn0 fn1 fn2 fc
    replace haw:=Lib.hid (haw.out.below hb6)
    clear hb6
    go_wp2
    go_roundw
    case rel=>exact ⟨k+1,PB,cB,by go_num,by omega,Lib.hid (by rw [HF.out];exact haw.out)⟩
    case measure=>simp [intOf];omega
   | true =>
    rw [hq] at HF0
    have HF:=Lib.hid (HFY.out hq)
    clear HFY HFN hq
    refine wp_region_far (by kernel_rfl) (by kernel_rfl) ?_
    repeat (any_goals (first | go_big_quiet_step ((first | (go_at_call 48;with_reducible exact call_far (HF0.out _)))) | quiet_step ((first | (go_at_call 48;with_reducible exact call_far (HF0.out _))))))
    refine wpQuiet_nil ?_;intro w6 hw6
    have hb6:Below wr.heap.size wr w6:=by obtain ⟨u,rfl⟩:=hw6;exact below_far wr u
    clear hw6 fn0 fn1 fn2 fc
    replace haw:=Lib.hid (haw.out.below hb6)
    clear hb6 HF0 HAw HDw HEw FNw hg
    go_upto_region 7 with (fail)
    have hbs:=haw.out.bel.size
    have HAV:=Lib.hid (haw.out.below ((Below.refl w6.heap.size w6).drew))
    clear haw
    refine wp_region_held_drew (S:=fun _=>True) (by kernel_rfl) trivial (fun _=>?_)
    try dsimp only
    try simp only [Act.put]
    try simp only [List.setIfInBounds_toArray]
    try simp only [List.set_cons_zero,List.set_cons_succ]
    have hkI:(k:Int) < (pl.length:Int):=by omega
    have hkz:¬ (k:Int) < 0:=by omega
    refine wpAnyH_take (i:=0) (oi:=_) (v:=?vq0) rfl (by kernel_rfl) (by kernel_rfl) (by kernel_rfl) (fun _ _ _ h=>h) (Or.inl ⟨by rfl,?hyq0⟩) (by assumption) ?restq0
    case hyq0=>(intro w hSw;go_simp <;> try with_reducible rfl)
    try dsimp only
    try simp only [List.getElem_toArray,List.getElem_cons_zero]
    try simp only [Act.put]
    try simp only [List.setIfInBounds_toArray]
    try simp only [List.set_cons_zero,List.set_cons_succ]
    refine wpAnyH_take (i:=2) (oi:=_) (v:=?vq2) rfl (by kernel_rfl) (by kernel_rfl) (by kernel_rfl) (fun _ _ _ h=>h) (Or.inl ⟨by rfl,?hyq2⟩) (by assumption) ?restq2
    case hyq2=>(intro w hSw;go_simp <;> try with_reducible rfl)
    try dsimp only
    try simp only [List.getElem_toArray,List.getElem_cons_succ,List.getElem_cons_zero]
    try simp only [Act.put]
    try simp only [List.setIfInBounds_toArray]
    try simp only [List.set_cons_zero,List.set_cons_succ]
    refine wpAnyH_take (i:=3) (oi:=_) (v:=?vq3) rfl (by kernel_rfl) (by kernel_rfl) (by kernel_rfl) (fun _ _ _ h=>h) (Or.inl ⟨by rfl,?hyq3⟩) (by assumption) ?restq3
    case hyq3=>(intro w hSw;go_simp <;> try with_reducible rfl)
    try dsimp only
    try simp only [List.getElem_toArray,List.getElem_cons_succ,List.getElem_cons_zero]
    try simp only [Act.put]
    try simp only [List.setIfInBounds_toArray]
    try simp only [List.set_cons_zero,List.set_cons_succ]
    refine wpAnyH_take (i:=4) (oi:=_) (v:=?vq4) rfl (by kernel_rfl) (by kernel_rfl) (by kernel_rfl) (fun _ _ _ h=>h) (Or.inl ⟨by rfl,?hyq4⟩) (by assumption) ?restq4
    case hyq4=>(intro w hSw;go_simp <;> try with_reducible rfl)
    try dsimp only
    try simp only [List.getElem_toArray,List.getElem_cons_succ,List.getElem_cons_zero]
    try simp only [Act.put]
    try simp only [List.setIfInBounds_toArray]
    try simp only [List.set_cons_zero,List.set_cons_succ]
    generalize w6.drew=V0 at *
    refine wpAnyH_ready (rs:=[1,5]) (by kernel_rfl) (by simp) ?_
    refine AllReadyH.cons (o:=_) rfl (fun K hK=>?_) ?_
    ·skip
     have HAL:=HAV.out
     obtain ⟨x0,x1⟩:=HAL.box.cells
     go_simp
     clear x0 x1 HAL
     refine hK.out _ _ trivial (fun _=>?_)
     clear hK K
     try dsimp only
     try simp only [List.getElem_toArray,List.getElem_cons_succ,List.getElem_cons_zero]
     try simp only [Act.put]
     try simp only [List.setIfInBounds_toArray]
     try simp only [List.set_cons_zero,List.set_cons_succ]
     refine wpAnyH_ready (rs:=[5]) (by kernel_rfl) (by simp) ?_
     refine AllReadyH.cons (o:=_) rfl (fun K hK=>?_) ?_
     ·skip
      have HAL:=HAV.out
      have y0:=HPX.out _ HAL.pls
      go_simp
      clear y0 HAL
      refine hK.out _ _ trivial (fun _=>?_)
      clear hK K
      try dsimp only
      try simp only [List.getElem_toArray,List.getElem_cons_succ,List.getElem_cons_zero]
      try simp only [Act.put]
      try simp only [List.setIfInBounds_toArray]
      try simp only [List.set_cons_zero,List.set_cons_succ]
      refine wpAnyH_ready (rs:=[6]) (by kernel_rfl) (by simp) ?_
      refine AllReadyH.cons (o:=_) rfl (fun K hK=>?_) ?_
      ·skip
       go_simp
       refine hK.out _ _ trivial (fun _=>?_)
       clear hK K
       try dsimp only
       try simp only [List.getElem_toArray,List.getElem_cons_succ,List.getElem_cons_zero]
       try simp only [Act.put]
       try simp only [List.setIfInBounds_toArray]
       try simp only [List.set_cons_zero,List.set_cons_succ]
       refine wpAnyH_ready (rs:=[7]) (by kernel_rfl) (by simp) ?_
       refine AllReadyH.cons (o:=_) rfl (fun K hK=>?_) ?_
       ·skip
        have HOW:=World.ownsRow.alloc HAV.out.own (.cells #[.string p] 9)
        have hbV:=HAV.out.bel.size
        (refine step_append_own_at _ (by rfl) (.tmp 34) (.tmp 39) 54 (by rfl) (w1.heap.size+1) 9 i0 _ 1 16 Tryz.underlying54 hi0 hz0 hz1 hz2 rfl (by omega) _ F.length (strV F) (by rfl) HOW ⟨V0.heap.size,0,none⟩ 1 1 (strV [p]) (by rfl) (by rfl) (str_news _ _) (one_str _) (by unfold maxLen;omega) (by omega) (by rw [World.size_alloc];omega) ?_)
        intro v' w7 hown hgr hnil hob
        obtain ⟨PB',cB',rfl,hx7,haw'⟩:=HAV.out.push hown hgr hob
        have HA':=Lib.hid haw';have HX7:=Lib.hid hx7
        clear hown hgr hnil hob hx7 haw' HOW
        refine hK.out _ _ trivial (fun _=>?_)
        clear hK K
        try dsimp only
        try simp only [List.getElem_toArray,List.getElem_cons_succ,List.getElem_cons_zero]
        try simp only [Act.put]
        try simp only [List.setIfInBounds_toArray]
        try simp only [List.set_cons_zero,List.set_cons_succ]
        refine wpAnyH_take (i:=8) (oi:=_) (v:=?vq8x1) rfl (by kernel_rfl) (by kernel_rfl) (by kernel_rfl) (fun _ _ _ h=>h) (Or.inl ⟨by rfl,?hyq8x1⟩) (by assumption) ?restq8x1
        case hyq8x1=>(intro w hSw;go_simp <;> try with_reducible rfl)
        try dsimp only
        try simp only [List.getElem_toArray,List.getElem_cons_succ,List.getElem_cons_zero]
        try simp only [Act.put]
        try simp only [List.setIfInBounds_toArray]
        try simp only [List.set_cons_zero,List.set_cons_succ]
        refine wpAnyH_ready (rs:=[9]) (by kernel_rfl) (by simp) ?_
        refine AllReadyH.cons (o:=_) rfl (fun K hK=>?_) ?_
        ·skip
         obtain ⟨z0,z1⟩:=HX7.out.cells
         obtain ⟨u0,u1⟩:=HX7.out.free
         go_simp
         clear z0 z1 u0 u1
         refine hK.out _ _ trivial (fun _=>?_)
         clear hK K
         try dsimp only
         try simp only [List.getElem_toArray,List.getElem_cons_succ,List.getElem_cons_zero]
         try simp only [Act.put]
         try simp only [List.setIfInBounds_toArray]
         try simp only [List.set_cons_zero,List.set_cons_succ]
         refine wpAnyH_done (by kernel_rfl) ?_ _
         try dsimp only [Act.put,Oper.dst]
         try dsimp only
         try simp only [List.getElem_toArray,List.getElem_cons_succ,List.getElem_cons_zero]
         try simp only [Act.put]
         try simp only [List.setIfInBounds_toArray]
         try simp only [List.set_cons_zero,List.set_cons_succ]
         go_wp2
         go_roundw
         case rel=>exact ⟨k+1,PB',cB',by go_num,by omega,Lib.hid (by rw [HF.out];exact HA'.out)⟩
         case measure=>simp [intOf];omega
        exact AllReadyH.nil
       exact AllReadyH.nil
      exact AllReadyH.nil
     exact AllReadyH.nil
    refine AllReadyH.cons (o:=_) rfl (fun K hK=>?_) ?_
    ·skip
     have HAL:=HAV.out
     have y0:=HPX.out _ HAL.pls
     go_simp
     clear y0 HAL
     refine hK.out _ _ trivial (fun _=>?_)
     clear hK K
     try dsimp only
     try simp only [List.getElem_toArray,List.getElem_cons_succ,List.getElem_cons_zero]
     try simp only [Act.put]
     try simp only [List.setIfInBounds_toArray]
     try simp only [List.set_cons_zero,List.set_cons_succ]
     refine wpAnyH_ready (rs:=[1,6]) (by kernel_rfl) (by simp) ?_
     refine AllReadyH.cons (o:=_) rfl (fun K hK=>?_) ?_
     ·skip
      have HAL:=HAV.out
      obtain ⟨x0,x1⟩:=HAL.box.cells
      go_simp
      clear x0 x1 HAL
      refine hK.out _ _ trivial (fun _=>?_)
      clear hK K
      try dsimp only
      try simp only [List.getElem_toArray,List.getElem_cons_succ,List.getElem_cons_zero]
      try simp only [Act.put]
      try simp only [List.setIfInBounds_toArray]
      try simp only [List.set_cons_zero,List.set_cons_succ]
      refine wpAnyH_ready (rs:=[6]) (by kernel_rfl) (by simp) ?_
      refine AllReadyH.cons (o:=_) rfl (fun K hK=>?_) ?_
      ·skip
       go_simp
       refine hK.out _ _ trivial (fun _=>?_)
       clear hK K
       try dsimp only
       try simp only [List.getElem_toArray,List.getElem_cons_succ,List.getElem_cons_zero]
       try simp only [Act.put]
       try simp only [List.setIfInBounds_toArray]
       try simp only [List.set_cons_zero,List.set_cons_succ]
       refine wpAnyH_ready (rs:=[7]) (by kernel_rfl) (by simp) ?_
       refine AllReadyH.cons (o:=_) rfl (fun K hK=>?_) ?_
       ·skip
        have HOW:=World.ownsRow.alloc HAV.out.own (.cells #[.string p] 9)
        have hbV:=HAV.out.bel.size
        (refine step_append_own_at _ (by rfl) (.tmp 34) (.tmp 39) 54 (by rfl) (w1.heap.size+1) 9 i0 _ 1 16 Tryz.underlying54 hi0 hz0 hz1 hz2 rfl (by omega) _ F.length (strV F) (by rfl) HOW ⟨V0.heap.size,0,none⟩ 1 1 (strV [p]) (by rfl) (by rfl) (str_news _ _) (one_str _) (by unfold maxLen;omega) (by omega) (by rw [World.size_alloc];omega) ?_)
        intro v' w7 hown hgr hnil hob
        obtain ⟨PB',cB',rfl,hx7,haw'⟩:=HAV.out.push hown hgr hob
        have HA':=Lib.hid haw';have HX7:=Lib.hid hx7
        clear hown hgr hnil hob hx7 haw' HOW
        refine hK.out _ _ trivial (fun _=>?_)
        clear hK K
        try dsimp only
        try simp only [List.getElem_toArray,List.getElem_cons_succ,List.getElem_cons_zero]
        try simp only [Act.put]
        try simp only [List.setIfInBounds_toArray]
        try simp only [List.set_cons_zero,List.set_cons_succ]
        refine wpAnyH_take (i:=8) (oi:=_) (v:=?vq8x2) rfl (by kernel_rfl) (by kernel_rfl) (by kernel_rfl) (fun _ _ _ h=>h) (Or.inl ⟨by rfl,?hyq8x2⟩) (by assumption) ?restq8x2
        case hyq8x2=>(intro w hSw;go_simp <;> try with_reducible rfl)
        try dsimp only
        try simp only [List.getElem_toArray,List.getElem_cons_succ,List.getElem_cons_zero]
        try simp only [Act.put]
        try simp only [List.setIfInBounds_toArray]
        try simp only [List.set_cons_zero,List.set_cons_succ]
        refine wpAnyH_ready (rs:=[9]) (by kernel_rfl) (by simp) ?_
        refine AllReadyH.cons (o:=_) rfl (fun K hK=>?_) ?_
        ·skip
         obtain ⟨z0,z1⟩:=HX7.out.cells
         obtain ⟨u0,u1⟩:=HX7.out.free
         go_simp
         clear z0 z1 u0 u1
         refine hK.out _ _ trivial (fun _=>?_)
         clear hK K
         try dsimp only
         try simp only [List.getElem_toArray,List.getElem_cons_succ,List.getElem_cons_zero]
         try simp only [Act.put]
         try simp only [List.setIfInBounds_toArray]
         try simp only [List.set_cons_zero,List.set_cons_succ]
         refine wpAnyH_done (by kernel_rfl) ?_ _
         try dsimp only [Act.put,Oper.dst]
         try dsimp only
         try simp only [List.getElem_toArray,List.getElem_cons_succ,List.getElem_cons_zero]
         try simp only [Act.put]
         try simp only [List.setIfInBounds_toArray]
         try simp only [List.set_cons_zero,List.set_cons_succ]
         go_wp2
         go_roundw
         case rel=>exact ⟨k+1,PB',cB',by go_num,by omega,Lib.hid (by rw [HF.out];exact HA'.out)⟩
         case measure=>simp [intOf];omega
        exact AllReadyH.nil
       exact AllReadyH.nil
      exact AllReadyH.nil
     refine AllReadyH.cons (o:=_) rfl (fun K hK=>?_) ?_
     ·skip
      go_simp
      refine hK.out _ _ trivial (fun _=>?_)
      clear hK K
      try dsimp only
      try simp only [List.getElem_toArray,List.getElem_cons_succ,List.getElem_cons_zero]
      try simp only [Act.put]
      try simp only [List.setIfInBounds_toArray]
      try simp only [List.set_cons_zero,List.set_cons_succ]
      refine wpAnyH_ready (rs:=[1]) (by kernel_rfl) (by simp) ?_
      refine AllReadyH.cons (o:=_) rfl (fun K hK=>?_) ?_
      ·skip
       have HAL:=HAV.out.below ((Below.refl V0.heap.size V0).alloc (Nat.le_refl _) (.cells #[.string p] 9))
       obtain ⟨x0,x1⟩:=HAL.box.cells
       go_simp
       clear x0 x1 HAL
       refine hK.out _ _ trivial (fun _=>?_)
       clear hK K
       try dsimp only
       try simp only [List.getElem_toArray,List.getElem_cons_succ,List.getElem_cons_zero]
       try simp only [Act.put]
       try simp only [List.setIfInBounds_toArray]
       try simp only [List.set_cons_zero,List.set_cons_succ]
       refine wpAnyH_ready (rs:=[7]) (by kernel_rfl) (by simp) ?_
       refine AllReadyH.cons (o:=_) rfl (fun K hK=>?_) ?_
       ·skip
        have HOW:=World.ownsRow.alloc HAV.out.own (.cells #[.string p] 9)
        have hbV:=HAV.out.bel.size
        (refine step_append_own_at _ (by rfl) (.tmp 34) (.tmp 39) 54 (by rfl) (w1.heap.size+1) 9 i0 _ 1 16 Tryz.underlying54 hi0 hz0 hz1 hz2 rfl (by omega) _ F.length (strV F) (by rfl) HOW ⟨V0.heap.size,0,none⟩ 1 1 (strV [p]) (by rfl) (by rfl) (str_news _ _) (one_str _) (by unfold maxLen;omega) (by omega) (by rw [World.size_alloc];omega) ?_)
        intro v' w7 hown hgr hnil hob
        obtain ⟨PB',cB',rfl,hx7,haw'⟩:=HAV.out.push hown hgr hob
        have HA':=Lib.hid haw';have HX7:=Lib.hid hx7
        clear hown hgr hnil hob hx7 haw' HOW
        refine hK.out _ _ trivial (fun _=>?_)
        clear hK K
        try dsimp only
        try simp only [List.getElem_toArray,List.getElem_cons_succ,List.getElem_cons_zero]
        try simp only [Act.put]
        try simp only [List.setIfInBounds_toArray]
        try simp only [List.set_cons_zero,List.set_cons_succ]
        refine wpAnyH_take (i:=8) (oi:=_) (v:=?vq8x3) rfl (by kernel_rfl) (by kernel_rfl) (by kernel_rfl) (fun _ _ _ h=>h) (Or.inl ⟨by rfl,?hyq8x3⟩) (by assumption) ?restq8x3
        case hyq8x3=>(intro w hSw;go_simp <;> try with_reducible rfl)
        try dsimp only
        try simp only [List.getElem_toArray,List.getElem_cons_succ,List.getElem_cons_zero]
        try simp only [Act.put]
        try simp only [List.setIfInBounds_toArray]
        try simp only [List.set_cons_zero,List.set_cons_succ]
        refine wpAnyH_ready (rs:=[9]) (by kernel_rfl) (by simp) ?_
        refine AllReadyH.cons (o:=_) rfl (fun K hK=>?_) ?_
        ·skip
         obtain ⟨z0,z1⟩:=HX7.out.cells
         obtain ⟨u0,u1⟩:=HX7.out.free
         go_simp
         clear z0 z1 u0 u1
         refine hK.out _ _ trivial (fun _=>?_)
         clear hK K
         try dsimp only
         try simp only [List.getElem_toArray,List.getElem_cons_succ,List.getElem_cons_zero]
         try simp only [Act.put]
         try simp only [List.setIfInBounds_toArray]
         try simp only [List.set_cons_zero,List.set_cons_succ]
         refine wpAnyH_done (by kernel_rfl) ?_ _
         try dsimp only [Act.put,Oper.dst]
         try dsimp only
         try simp only [List.getElem_toArray,List.getElem_cons_succ,List.getElem_cons_zero]
         try simp only [Act.put]
         try simp only [List.setIfInBounds_toArray]
         try simp only [List.set_cons_zero,List.set_cons_succ]
         go_wp2
         go_roundw
         case rel=>exact ⟨k+1,PB',cB',by go_num,by omega,Lib.hid (by rw [HF.out];exact HA'.out)⟩
         case measure=>simp [intOf];omega
        exact AllReadyH.nil
       exact AllReadyH.nil
      exact AllReadyH.nil
     exact AllReadyH.nil
    exact AllReadyH.nil
  ·obtain rfl:k=pl.length:=by omega
   rw [List.take_length] at haw
   obtain ⟨F,hF⟩:∃ F,F=pl.filter g1:=⟨_,rfl⟩
   rw [← hF] at haw
   replace HPP:=Lib.hid (HPP.out.trans hF.symm)
   clear hF
   have HAV:=Lib.hid (show Aw2 w1 none 0 [] F PB cB (preF l.length g2 0 0) none 0 wr from ⟨haw.out.bel,haw.out.box,haw.out.own,ownT_nil _ _,ownT_nil _ _,fun q h=>by cases h⟩)
   clear haw hlt HMA
   go_wp2
   go_loopw [12] (fun i wr=>∃ (d:Nat) (R:List Tp) (PC:Option Addr) (cC:Nat),i=.int .i64 d∧d≤61∧Hid (RdOk l.length g2 R d)∧Hid (Aw2 w1 none 0 [] F PB cB R PC cC wr)) (fun i _=>61 - (intOf i).toNat)
   case atStart=>exact ⟨0,_,none,0,rfl,by omega,Lib.hid ⟨Nat.zero_le _,Or.inl rfl⟩,HAV⟩
   case round =>
    clear HAV
    obtain ⟨d,R,PC,cC,rfl,hd,hrd,haw⟩:=hrel
    have hR60:=hrd.out.1
    obtain ⟨x0,x1⟩:=haw.out.box.cells
    by_cases hgo:d≤60∧R.length < 60
    ·have hd60:d≤60:=hgo.1
     have hl60:R.length < 60:=hgo.2
     have hdd:decide ((d:Int)≤60)=true:=decide_eq_true (by omega)
     have hdn:decide (d≤60)=true:=decide_eq_true hd60
     have hld:decide ((R.length:Int) < 60)=true:=decide_eq_true (by omega)
     have hln2:decide (R.length < 60)=true:=decide_eq_true hl60
     have hRE:R=preF l.length g2 d 0:=hrd.out.2.elim id (fun h=>absurd h.1 (by omega))
     have HRE:=Lib.hid hRE
     clear hgo hrd hRE
     go_wp2
     clear x0 x1 hld hln2 hl60
     have hRE:=HRE.out
     clear HRE
     subst hRE
     go_loopw [13] (fun i wr=>∃ (k:Nat) (PC:Option Addr) (cC:Nat),i=.int .i64 k∧k≤l.length∧Hid ((preF l.length g2 d k).length≤60)∧Hid (Aw2 w1 none 0 [] F PB cB (preF l.length g2 d k) PC cC wr)) (fun i _=>l.length - (intOf i).toNat)
     case atStart=>exact ⟨0,PC,cC,rfl,Nat.zero_le _,Lib.hid hR60,haw⟩
     case round =>
      clear haw hR60
      obtain ⟨k,PC,cC,rfl,hk,hlen,haw⟩:=hrel
      have FNw:=Lib.hid (FN.out.below haw.out.bel)
      obtain ⟨x0,x1⟩:=haw.out.box.cells
      obtain ⟨n0,n1,n2⟩:=FNw.out.cells
      have HFY:=Lib.hid (fun h=>preF_yes (n:=l.length) (f:=g2) (d:=d) (g:=k) h);have HFN:=Lib.hid (fun h=>preF_no (n:=l.length) (f:=g2) (d:=d) (g:=k) h)
      have HPF:=Lib.hid (fun h=>pre_filter (n:=l.length) (f:=g2) (d:=d) (k:=k) hd60 h)
      have HPD:=Lib.hid (preF_day l.length g2 d)
      have HKL:=Lib.hid (fun (h:k=l.length)=>show preF l.length g2 (d+1) 0=preF l.length g2 d k by rw [preF_day,h])
      generalize preF l.length g2 d k=R at *
      have hlen6:=hlen.out
      by_cases hkn:k < l.length
      ·have hki:(k:Int) < (l.length:Int):=by omega
       by_cases hl60:R.length < 60
       ·have hld:decide ((R.length:Int) < 60)=true:=decide_eq_true (by omega)
        have hln2:decide (R.length < 60)=true:=decide_eq_true hl60
        have FT:=Lib.hid (Box2.new (T:=32) (v0:=.int .i64 (k:Int)) (v1:=.int .i64 (d:Int)) wr)
        have hba:=(Below.refl wr.heap.size wr).alloc (Nat.le_refl _) (.cells #[.int .i64 (k:Int),.int .i64 (d:Int)] 32)
        have haw2:=Lib.hid (haw.out.below hba)
        have HAw:=Lib.hid (HA.out.below haw2.out.bel);have HDw:=Lib.hid (HD.out.below haw2.out.bel);have HEw:=Lib.hid (HE.out.below haw2.out.bel);replace FNw:=Lib.hid (FN.out.below haw2.out.bel)
        clear hba
        go_upto_region 15 with (fail)
        clear x0 x1 n0 n1 n2 haw hld hln2
        generalize wr.heap.size=XT at *
        generalize wr.alloc (.cells #[.int .i64 (k:Int),.int .i64 (d:Int)] 32)=w5 at *
        obtain ⟨n0,n1,n2⟩:=FNw.out.cells
        obtain ⟨t0,t1⟩:=FT.out.cells
        go_wp2_with fail
        clear n0 n1 n2 t0 t1
        have HC:=Lib.hid (HMR.out (k:Int) (d:Int) w5 HAw.out HDw.out HEw.out)
        clear HAw HDw HEw FNw
        cases hq:g2 ⟨(k:Int),(d:Int)⟩ with
        | false =>
         rw [hq] at HC
         have HF:=Lib.hid (HFN.out hq)
         clear hq HFY HFN
         refine HC.out.mono ?_;rintro e w6 ⟨rfl,hb6⟩
         replace haw2:=Lib.hid (haw2.out.below hb6)
         clear hb6
         go_wp2
         go_roundw
         case rel=>exact ⟨k+1,PC,cC,by go_num,by omega,Lib.hid (by rw [HF.out];exact hlen6),Lib.hid (by rw [HF.out];exact haw2.out)⟩
         case measure=>simp [intOf];omega
        | true =>
         rw [hq] at HC
         have HF:=Lib.hid (HFY.out hq)
         clear hq HFY HFN
         refine HC.out.mono ?_;rintro e w6 ⟨rfl,hb6⟩
         replace haw2:=Lib.hid (haw2.out.below hb6);replace FT:=Lib.hid (FT.out.below hb6)
         clear hb6 HC
         have HOW:=Lib.hid (World.ownsRow.alloc haw2.out.rid (.cells #[.int .i64 (k:Int),.int .i64 (d:Int)] 32))
         have hbs:=haw2.out.bel.size
         have hxl:=haw2.out.box.lt
         obtain ⟨x0,x1⟩:=haw2.out.box.cells
         obtain ⟨y0,y1⟩:=haw2.out.box.free
         obtain ⟨t0,t1⟩:=FT.out.cells
         go_wp2_with (at_builtin;refine wpList_append_own_at _ rfl _ _ 48 rfl (w1.heap.size+1) 32 j0 _ 2 16 Tryz.underlying48 hj0 hy0 hy1 hy2 rfl (by decide) _ R.length (R.flatMap tpC) rfl HOW.out ⟨w6.heap.size,0,none⟩ 1 1 (tpC ⟨(k:Int),(d:Int)⟩) rfl rfl (enc_news _ _ _) (one_tp9 _) (by unfold maxLen;omega) (by omega) (by rw [World.size_alloc];omega) ?_;intro v' w7 hown hgr hnil hob;obtain ⟨PC',cC',rfl,hx7,haw'⟩:=haw2.out.push (t:=⟨(k:Int),(d:Int)⟩) hown hgr hob;have HA':=Lib.hid haw';obtain ⟨z0,z1⟩:=hx7.cells;obtain ⟨u0,u1⟩:=hx7.free;clear hx7 haw' hown hgr hnil hob)
         go_roundw
         case rel=>exact ⟨k+1,PC',cC',by go_num,by omega,Lib.hid (by rw [HF.out,List.length_append];simp only [List.length_cons,List.length_nil];omega),Lib.hid (by rw [HF.out];exact HA'.out)⟩
         case measure=>simp [intOf];omega
       ·have hld:decide ((R.length:Int) < 60)=false:=decide_eq_false (by omega)
        have hln2:decide (R.length < 60)=false:=decide_eq_false hl60
        have hl6:R.length=60:=by omega
        have HRN:=Lib.hid (show RdOk l.length g2 R (d+1) from ⟨hlen6,Or.inr ⟨hl6,HPF.out hk⟩⟩)
        clear hl6
        go_wp2
        go_roundw
        case rel=>exact ⟨d+1,R,PC,cC,by go_num,by omega,HRN,haw⟩
        case measure=>simp [intOf];omega
      ·have hki:¬ (k:Int) < (l.length:Int):=by omega
       have HRN:=Lib.hid (show RdOk l.length g2 R (d+1) from ⟨hlen6,Or.inl (HKL.out (by omega)).symm⟩)
       go_wp2
       go_roundw
       case rel=>exact ⟨d+1,R,PC,cC,by go_num,by omega,HRN,haw⟩
       case measure=>simp [intOf];omega
    ·have HSE:=Lib.hid (rd_end hrd.out (by omega) hd)
     have FRw:=Lib.hid (FR.out.below haw.out.bel)
     have hbs:=haw.out.bel.size
     have hrl:=FR.out.lt
     have hrl2:B+1 < wr.heap.size:=by omega
     obtain ⟨r0,r1⟩:=FRw.out.cells
     obtain ⟨q0,q1⟩:=FRw.out.free
     have HBV:=HB.out.trans (haw.out.bel.mono HL.out)
     have hO1:=own_mono haw.out.own (show B+2≤w1.heap.size+1 by omega)
     have hO2:=OwnK.mono haw.out.rid (show B+2≤w1.heap.size+1 by omega)
     obtain ⟨zz,p1,p2,p3⟩:=bel_stored FRw.out hO1 hO2 HBV (by omega) (by omega)
     have HQ:=Lib.hid (And.intro zz (And.intro p1 (And.intro p2 p3)))
     clear zz p1 p2 p3 hO1 hO2 HBV
     have hdd:decide ((d:Int)≤60)=true ∨ decide ((d:Int)≤60)=false:=by cases decide ((d:Int)≤60) <;> simp
     by_cases hd6:d≤60
     ·have hdd:decide ((d:Int)≤60)=true:=decide_eq_true (by omega)
      have hld:decide ((R.length:Int) < 60)=false:=decide_eq_false (by omega)
      have hln2:decide (R.length < 60)=false:=decide_eq_false (by omega)
      go_wp2
      obtain ⟨y0,y1⟩:=HQ.out.1.cells
      refine bodyPost_ret (v:=.agg #[.slice PB F.length cB,.slice PC R.length cC]) (by simp [results,Tryz.results56,go_sem,y0,y1]) rfl ⟨⟨_,_,rfl,by rw [HPP.out];exact HQ.out.2.1,by rw [HSS.out,HSE.out];exact HQ.out.2.2.1⟩,HQ.out.2.2.2⟩
     ·have hdd:decide ((d:Int)≤60)=false:=decide_eq_false (by omega)
      go_wp2
      obtain ⟨y0,y1⟩:=HQ.out.1.cells
      refine bodyPost_ret (v:=.agg #[.slice PB F.length cB,.slice PC R.length cC]) (by simp [results,Tryz.results56,go_sem,y0,y1]) rfl ⟨⟨_,_,rfl,by rw [HPP.out];exact HQ.out.2.1,by rw [HSS.out,HSE.out];exact HQ.out.2.2.1⟩,HQ.out.2.2.2⟩
end Go.Proofs.YtinijleelhbpoaaGreat

/- The contract of impl.allWaysFrom. -/
import Derived.Test.YtinijleelhbpoaaGreatBelU
import Derived.Maps.AppendAt
namespace Go.Proofs.YtinijleelhbpoaaGreat
open Go.RowKit
theorem row_opens {w:World} {base n:Nat} {T:TypeId} {k:Nat} {v:Value} {cs:List Value} (h:w.ownsRow base T k v n cs):∃ (A:Option Addr) (cap:Nat),v=.slice A n cap:=by
 rcases h.2 with ⟨e,hn⟩ | ⟨g,c,cur,e,h1,h2,_⟩
 ·exact ⟨none,0,by rw [e,hn]⟩
 ·exact ⟨_,_,e⟩
theorem Box2.put0 {T:TypeId} {W:World} {B:Nat} {v0 v1:Value} (h:Box2 T W B v0 v1) (x:Value):Box2 T (W.setCell ⟨B,0,none⟩ x) B x v1:=heap_set h 0 x
theorem Box2.put1 {T:TypeId} {W:World} {B:Nat} {v0 v1:Value} (h:Box2 T W B v0 v1) (x:Value):Box2 T (W.setCell ⟨B,1,none⟩ x) B v0 x:=heap_set h 1 x
theorem pl_src {l:List Lg} {p:ByteArray} (h:p ∈ placesB l):∃ z ∈ l,p=z.f ∨ p=z.t:=by
 unfold placesB ofL at h
 rw [List.mem_map] at h
 obtain ⟨b,hb,rfl⟩:=h
 rw [pl_mem] at hb
 unfold lists at hb
 rw [List.mem_map] at hb
 obtain ⟨s,hs,rfl⟩:=hb
 unfold flatS at hs
 rw [List.mem_flatMap] at hs
 obtain ⟨z,hz,hs⟩:=hs
 refine ⟨z,hz,?_⟩
 simp only [List.mem_cons,List.not_mem_nil,or_false] at hs
 rcases hs with rfl | rfl
 ·exact Or.inl rfl
 ·exact Or.inr rfl
theorem pl_size {l:List Lg} {p:ByteArray} (hs:∀ z ∈ l,z.f.size≤maxLen∧z.t.size≤maxLen) (h:p ∈ placesB l):p.size≤maxLen:=by
 obtain ⟨z,hz,e | e⟩:=pl_src h
 ·rw [e];exact (hs z hz).1
 ·rw [e];exact (hs z hz).2
structure Aw1 (w1:World) (PA:Option Addr) (cp:Nat) (pl L:List ByteArray) (PB:Option Addr) (cB:Nat) (W:World):Prop where
 bel:Below w1.heap.size w1 W
 box:Box2 56 W w1.heap.size (.slice PB L.length cB) (.slice none 0 0)
 own:OwnStr W (w1.heap.size+1) (.slice PB L.length cB) L
 pls:OwnStr W (w1.heap.size+1) (.slice PA pl.length cp) pl
 ne:∀ q,(Value.slice PB L.length cB).ownBlock=some q→(Value.slice PA pl.length cp).ownBlock ≠ some q
theorem Aw1.below {w1:World} {PA:Option Addr} {cp:Nat} {pl L:List ByteArray} {PB:Option Addr} {cB:Nat} {W W':World} (h:Aw1 w1 PA cp pl L PB cB W) (hb:Below W.heap.size W W'):Aw1 w1 PA cp pl L PB cB W' :=
 ⟨h.bel.trans (hb.mono h.bel.size),h.box.below hb,own_below h.own hb,own_below h.pls hb,h.ne⟩
theorem Aw1.push {w1:World} {PA:Option Addr} {cp:Nat} {pl L:List ByteArray} {PB:Option Addr} {cB:Nat} {W W5:World} {o:Obj} {v':Value} {p:ByteArray} (h:Aw1 w1 PA cp pl L PB cB W) (hown:W5.ownsRow (w1.heap.size+1) 9 1 v' (L.length+1) (strV L ++ strV [p])) (hgr:(W.alloc o).grownBy W5 (Value.slice PB L.length cB).ownBlock) (hob:v'.ownBlock=(Value.slice PB L.length cB).ownBlock ∨ v'.ownBlock=some (W.alloc o).heap.size) :
  ∃ PB' cB',v'=.slice PB' (L.length+1) cB'∧Box2 56 W5 w1.heap.size (.slice PB L.length cB) (.slice none 0 0)∧Aw1 w1 PA cp pl (L ++ [p]) PB' cB' (W5.setCell ⟨w1.heap.size,0,none⟩ v'):=by
 obtain ⟨PB',cB',rfl⟩:=row_opens hown
 have hba:=(Below.refl W.heap.size W).alloc (Nat.le_refl _) o
 have hlt:∀ q,(Value.slice PB L.length cB).ownBlock=some q→w1.heap.size+1≤q∧q < W.heap.size:=fun q e=>World.ownsRow.lt h.own q e
 have hbs:=h.bel.size
 have hlen:(L ++ [p]).length=L.length+1:=by simp
 have hb5:Below w1.heap.size w1 W5:=(h.bel.trans (hba.mono hbs)).grown hgr (by rw [World.size_alloc];omega) (fun q e=>by have:=hlt q e;omega)
 have hx5:=(h.box.below hba).apart hgr (fun e=>by have:=hlt _ e.symm;omega)
 have hset:=only_set W5 w1.heap.size 0 (Value.slice PB' (L.length+1) cB')
 refine ⟨PB',cB',rfl,hx5,⟨hb5.setCell (Nat.le_refl _) _,?_,?_,?_,?_⟩⟩
 ·rw [hlen];exact hx5.put0 _
 ·rw [hlen]
  refine row_besides ?_ hset (fun q e=>by have:=(World.ownsRow.lt hown q e).1;omega)
  rw [hlen,strV_app];exact hown
 ·exact row_besides (row_apart (own_below h.pls hba) hgr (fun q e1 e2=>h.ne q e2 e1)) hset (fun q e=>by have:=(World.ownsRow.lt h.pls q e).1;omega)
 ·rw [hlen]
  intro q e
  rcases hob with e2 | e2
  ·rw [e2] at e;exact h.ne q e
  ·rw [e2] at e
   intro e3
   have e4:(W.alloc o).heap.size=q:=Option.some.inj e
   have:=(World.ownsRow.lt h.pls q e3).2
   rw [World.size_alloc] at e4
   omega
structure Aw2 (w1:World) (PT:Option Addr) (ct:Nat) (us:List Tp) (L:List ByteArray) (PB:Option Addr) (cB:Nat) (R:List Tp) (PC:Option Addr) (cC:Nat) (W:World):Prop where
 bel:Below w1.heap.size w1 W
 box:Box2 56 W w1.heap.size (.slice PB L.length cB) (.slice PC R.length cC)
 own:OwnStr W (w1.heap.size+1) (.slice PB L.length cB) L
 rid:OwnKtp W (w1.heap.size+1) (.slice PC R.length cC) R
 trs:OwnKtp W (w1.heap.size+1) (.slice PT us.length ct) us
 ne:∀ q,(Value.slice PC R.length cC).ownBlock=some q→(Value.slice PT us.length ct).ownBlock ≠ some q
theorem Aw2.below {w1:World} {PT:Option Addr} {ct:Nat} {us:List Tp} {L:List ByteArray} {PB:Option Addr} {cB:Nat} {R:List Tp} {PC:Option Addr} {cC:Nat} {W W':World} (h:Aw2 w1 PT ct us L PB cB R PC cC W) (hb:Below W.heap.size W W'):Aw2 w1 PT ct us L PB cB R PC cC W' :=
 ⟨h.bel.trans (hb.mono h.bel.size),h.box.below hb,own_below h.own hb,OwnK.below h.rid hb,OwnK.below h.trs hb,h.ne⟩
theorem Aw2.push {w1:World} {PT:Option Addr} {ct:Nat} {us:List Tp} {L:List ByteArray} {PB:Option Addr} {cB:Nat} {R:List Tp} {PC:Option Addr} {cC:Nat} {W W5:World} {o:Obj} {v':Value} {t:Tp} (h:Aw2 w1 PT ct us L PB cB R PC cC W) (hown:W5.ownsRow (w1.heap.size+1) 32 2 v' (R.length+1) (R.flatMap tpC ++ tpC t)) (hgr:(W.alloc o).grownBy W5 (Value.slice PC R.length cC).ownBlock) (hob:v'.ownBlock=(Value.slice PC R.length cC).ownBlock ∨ v'.ownBlock=some (W.alloc o).heap.size) :
  ∃ PC' cC',v'=.slice PC' (R.length+1) cC'∧Box2 56 W5 w1.heap.size (.slice PB L.length cB) (.slice PC R.length cC)∧Aw2 w1 PT ct us L PB cB (R ++ [t]) PC' cC' (W5.setCell ⟨w1.heap.size,1,none⟩ v'):=by
 obtain ⟨PC',cC',rfl⟩:=row_opens hown
 have hba:=(Below.refl W.heap.size W).alloc (Nat.le_refl _) o
 have hlt:∀ q,(Value.slice PC R.length cC).ownBlock=some q→w1.heap.size+1≤q∧q < W.heap.size:=fun q e=>World.ownsRow.lt h.rid q e
 have hbs:=h.bel.size
 have hlen:(R ++ [t]).length=R.length+1:=by simp
 have hb5:Below w1.heap.size w1 W5:=(h.bel.trans (hba.mono hbs)).grown hgr (by rw [World.size_alloc];omega) (fun q e=>by have:=hlt q e;omega)
 have hx5:=(h.box.below hba).apart hgr (fun e=>by have:=hlt _ e.symm;omega)
 have hset:=only_set W5 w1.heap.size 1 (Value.slice PC' (R.length+1) cC')
 refine ⟨PC',cC',rfl,hx5,⟨hb5.setCell (Nat.le_refl _) _,?_,?_,?_,?_,?_⟩⟩
 ·rw [hlen];exact hx5.put1 _
 ·exact row_besides (row_apart (own_below h.own hba) hgr (rows_apart h.own h.rid (by decide))) hset (fun q e=>by have:=(World.ownsRow.lt h.own q e).1;omega)
 ·rw [hlen]
  refine row_besides (OwnK.push hown rfl) hset (fun q e=>by have:=(World.ownsRow.lt hown q e).1;omega)
 ·exact row_besides (row_apart (OwnK.below h.trs hba) hgr (fun q e1 e2=>h.ne q e2 e1)) hset (fun q e=>by have:=(World.ownsRow.lt h.trs q e).1;omega)
 ·rw [hlen]
  intro q e
  rcases hob with e2 | e2
  ·rw [e2] at e;exact h.ne q e
  ·rw [e2] at e
   intro e3
   have e4:(W.alloc o).heap.size=q:=Option.some.inj e
   have:=(World.ownsRow.lt h.trs q e3).2
   rw [World.size_alloc] at e4
   omega
theorem fl_yes {α:Type} {g:α→Bool} {l:List α} {k:Nat} (hk:k < l.length) (h:g l[k]=true):(l.take (k+1)).filter g=(l.take k).filter g ++ [l[k]]:=by
 rw [List.take_succ_eq_append_getElem hk,List.filter_append];simp [h]
theorem fl_no {α:Type} {g:α→Bool} {l:List α} {k:Nat} (hk:k < l.length) (h:g l[k]=false):(l.take (k+1)).filter g=(l.take k).filter g:=by
 rw [List.take_succ_eq_append_getElem hk,List.filter_append];simp [h]
set_option maxRecDepth 100000 in
set_option maxHeartbeats 8000000 in
theorem allways_impl (gf:Nat) (lb:Array Value) (f:ByteArray→Int→Bool) (K:World→Prop) (hsy:SaysL gf lb f K) (hK:∀ W W',K W→Below W.heap.size W W'→K W') (eg2:∀ args w,(callFunc gf args).run Tryz.prog w=.ok (.enter gf args) w)
  (P:ByteArray) (T at_:Int) (hPs:P.size≤maxLen) (hT:-9223372036854775808≤T) (hat:-9223372036854775808≤at_) (A:Option Addr) (ca:Nat) (l:List Lg) (D:Option Addr) (cd:Nat) (zs:List Int) (x:Int) (w:World) (hA:InK 6 lgC w A l) (hD:IntsIn w D zs) (hs:∀ z ∈ l,z.f.size≤maxLen∧z.t.size≤maxLen) (hn:l.length≤1048576) (hm:zs.length≤1048576) (hN:netB l zs x=true) (hw:K w) :
  Calls Tryz.prog 169 #[.agg #[.slice A l.length ca,.slice D zs.length cd,.int .i64 x],.agg #[.string P,.int .i64 T],.int .i64 at_,.func (.func gf) #[] lb] w fun e w'=>BelPost w.heap.size ((placesB l).filter fun p=>inT l zs x P T p at_ && f p at_) ((undT l zs at_).filter fun t=>inT l zs x P T (lgAt l t.g).f (trS l t) && f (lgAt l t.g).t (trE l t)) e w'∧Below w.heap.size w w':=by
 have eg1:∀ args w,(callFunc 180 args).run Tryz.prog w=.ok (.enter 180 args) w:=enters_of Tryz.func180 (by kernel_rfl) rfl
 obtain ⟨i0,hi0,hz0,hz1,hz2⟩:=info_parts str_info
 obtain ⟨j0,hj0,hy0,hy1,hy2⟩:=info_parts tp_info
 have H3:=three w (.cells #[.slice A l.length ca,.slice D zs.length cd,.int .i64 x] 27) (.cells #[.string P,.int .i64 T] 127) (.cells #[.slice none 0 0,.slice none 0 0] 56)
 have FN:=Lib.hid (show Box3 27 _ w.heap.size _ _ _ from H3.1);have FS:=Lib.hid (show Box2 127 _ (w.heap.size+1) _ _ from H3.2.1);have FR:=Lib.hid (show Box2 56 _ (w.heap.size+1+1) _ _ from H3.2.2.1);have hb0:=H3.2.2.2.1
 clear H3
 have HA:=Lib.hid (hA.below hb0);have HD:=Lib.hid (hD.below hb0);have HB0:=Lib.hid hb0;have HW:=Lib.hid (hK _ _ hw hb0);have HL:=Lib.hid hb0.size
 have HRF:=Lib.hid (fun W (h1:InK 6 lgC W A l) (h2:IntsIn W D zs)=>reached_from P T hPs hT A ca l D cd zs x W h1 h2 hs hn hm)
 have HRS:=Lib.hid (fun X Y W q (h:ReachK A ca l D cd zs x (bestB l zs x P T ((placesB l).length:Nat)) X Y W)=>(show Calls Tryz.prog 180 #[.string q,.pointer (some ⟨X,0,none⟩),.pointer (some ⟨Y,0,none⟩)] W fun e w'=>e=.returned (.int .i64 (earB l zs x P q T))∧Below W.heap.size W w' from reach_says A ca l D cd zs x hn _ X Y W q h))
 have HIS:=Lib.hid (fun q u W=>(show Calls Tryz.prog 212 #[.int .i64 (earB l zs x P q T),.int .i64 u] W fun e w'=>e=.returned (.bool (inT l zs x P T q u))∧Below W.heap.size W w' from is_reached (earB l zs x P q T) u ((ear_bd l zs x P q T).elim Or.inl (fun h=>Or.inr h.1)) W))
 have HPL:=Lib.hid (fun W (h1:InK 6 lgC W A l)=>places_impl A ca l D cd zs.length x W h1 hn)
 have HUN:=Lib.hid (fun W (h1:InK 6 lgC W A l) (h2:IntsIn W D zs)=>under_impl at_ A ca l D cd zs x W h1 h2 hn hm hN)
 have HST:=Lib.hid (fun t (htr:trB l zs x t=true) W (h1:InK 6 lgC W A l) (h2:IntsIn W D zs)=>start_tp_impl t htr A ca D cd W h1 h2 hn)
 have HEN:=Lib.hid (fun t (htr:trB l zs x t=true) W (h1:InK 6 lgC W A l) (h2:IntsIn W D zs)=>end_tp_impl t htr A ca D cd W h1 h2 hn)
 have HSY:=Lib.hid hsy;have HK:=Lib.hid hK
 have HPZ:=Lib.hid (fun p (h:p ∈ placesB l)=>pl_size hs h)
 have HLT:=Lib.hid (fun z (h:z ∈ l)=>(hs z h).2)
 have hpl40:(placesB l).length≤40:=by have:=placesB_len l;have:=(net_at hN).1;omega
 have hun:(undT l zs at_).length≤1220:=by
  refine Nat.le_trans (List.length_filter_le _ _) ?_
  unfold allT
  rw [preT_len]
  have:=(net_at hN).1
  omega
 have HUT:=Lib.hid (fun t (h:t ∈ undT l zs at_)=>show trB l zs x t=true by
  unfold undT at h
  rw [List.mem_filter] at h
  rw [trB_run hN h.1]
  have h2:=h.2
  unfold undB at h2
  simp only [Bool.and_eq_true] at h2
  exact h2.2.2)
 clear hA hD hb0 hs hw hsy hK hN hm
 generalize bestB l zs x P T ((placesB l).length:Nat)=ts at *
 obtain ⟨g1,hg1⟩:∃ g1:ByteArray→Bool,g1=fun p=>inT l zs x P T p at_ && f p at_:=⟨_,rfl⟩
 obtain ⟨g2,hg2⟩:∃ g2:Tp→Bool,g2=fun t=>inT l zs x P T (lgAt l t.g).f (trS l t) && f (lgAt l t.g).t (trE l t):=⟨_,rfl⟩
 rw [← hg1,← hg2]
 have HG1:=Lib.hid (fun p=>congrFun hg1 p);have HG2:=Lib.hid (fun t=>congrFun hg2 t)
 clear hg1 hg2
 generalize placesB l=pl at *
 generalize undT l zs at_=us at *
 generalize hB:w.heap.size=B at *
 have HBE:=Lib.hid hB
 go_enter Tryz.func169,Tryz.ntmps169
 go_wp2_with fail
 clear hB
 generalize ((w.alloc (.cells #[.slice A l.length ca,.slice D zs.length cd,.int .i64 x] 27)).alloc (.cells #[.string P,.int .i64 T] 127)).alloc (.cells #[.slice none 0 0,.slice none 0 0] 56)=w0 at *
 refine (HRF.out w0 HA.out HD.out).mono ?_;rintro e w1 ⟨X,Y,rfl,hr,hb⟩
 replace FN:=Lib.hid (FN.out.below hb);replace FR:=Lib.hid (FR.out.below hb);replace HA:=Lib.hid (HA.out.below hb);replace HD:=Lib.hid (HD.out.below hb);replace HW:=Lib.hid (HK.out _ _ HW.out hb);replace HB0:=Lib.hid (HB0.out.trans (hb.mono HL.out));replace HL:=Lib.hid (Nat.le_trans HL.out hb.size)
 have HR:=Lib.hid hr
 clear hb hr HRF FS
 have hba:=(Below.refl w1.heap.size w1).alloc (Nat.le_refl _) (.cells #[.slice none 0 0,.slice none 0 0] 56)
 have FX:=Lib.hid (Box2.new (T:=56) (v0:=.slice none 0 0) (v1:=.slice none 0 0) w1)
 have HA2:=Lib.hid (HA.out.below hba);have FN2:=Lib.hid (FN.out.below hba);have HBA:=Lib.hid hba
 have hs2:(w1.alloc (.cells #[.slice none 0 0,.slice none 0 0] 56)).heap.size=w1.heap.size+1:=by simp
 have hBl:=FN.out.lt
 obtain ⟨n0,n1,n2⟩:=FN2.out.cells
 go_wp2_with fail
 clear n0 n1 n2 hba
 generalize w1.alloc (.cells #[.slice none 0 0,.slice none 0 0] 56)=w2 at *
 refine (HPL.out w2 HA2.out).mono ?_;rintro e w3 ⟨⟨vp,rfl,ho⟩,hb⟩
 obtain ⟨PA,cp,rfl,_⟩:=own_strs ho
 rw [hs2] at ho
 have HAW:=Lib.hid (show Aw1 w1 PA cp pl ((pl.take 0).filter g1) none 0 w3 from ⟨HBA.out.trans (hb.mono (by omega)),FX.out.below hb,own_nil _ _,ho,fun q h=>by cases h⟩)
 clear ho hb HA2 FN2 HPL FX HBA hs2
 go_wp2
 go_loopw [23] (fun i wr=>∃ (k:Nat) (PB:Option Addr) (cB:Nat),i=.int .i64 k∧k≤pl.length∧Hid (Aw1 w1 PA cp pl ((pl.take k).filter g1) PB cB wr)) (fun i _=>pl.length - (intOf i).toNat)
 case atStart=>exact ⟨0,none,0,rfl,Nat.zero_le _,HAW⟩
 case round =>
  clear HAW
  obtain ⟨k,PB,cB,rfl,hk,haw⟩:=hrel
  by_cases hlt:(k:Int) < (pl.length:Int)
  ·have hkl:k < pl.length:=by omega
   obtain ⟨A',c',e',hP⟩:=own_strs haw.out.pls
   cases e'
   obtain ⟨g,eqg,hg,hc⟩:=hP k hkl
   subst eqg
   have HRw:=Lib.hid (HR.out.below haw.out.bel);have HWw:=Lib.hid (HK.out _ _ HW.out haw.out.bel)
   have HC1:=Lib.hid (HRS.out X Y wr pl[k] HRw.out)
   have HPK:=Lib.hid (HPZ.out pl[k] (List.getElem_mem hkl))
   have HFY:=Lib.hid (fun h=>fl_yes (g:=g1) hkl h);have HFN:=Lib.hid (fun h=>fl_no (g:=g1) hkl h)
   have HGE:=Lib.hid (HG1.out pl[k])
   have hlenF:((pl.take k).filter g1).length≤40:=Nat.le_trans (List.length_filter_le _ _) (by rw [List.length_take];omega)
   clear hP
   generalize (pl.take k).filter g1=F at *
   generalize pl[k]=p at *
   go_wp2_with (go_at_fn 180;refine HC1.out.mono ?_;rintro e w4 ⟨rfl,hb4⟩)
   clear HC1 hc hg
   have HWx:=Lib.hid (HK.out _ _ HWw.out hb4)
   replace haw:=Lib.hid (haw.out.below hb4)
   clear hb4
   have HI1:=Lib.hid (HIS.out p at_ w4)
   cases hq:inT l zs x P T p at_ with
   | false =>
    rw [hq] at HI1 HGE
    have HF:=Lib.hid (HFN.out HGE.out)
    clear HFY HFN HGE hq
    refine HI1.out.mono ?_;rintro e w5 ⟨rfl,hb5⟩
    replace haw:=Lib.hid (haw.out.below hb5)
    clear hb5
    go_wp2
    go_roundw
    case rel=>exact ⟨k+1,PB,cB,by go_num,by omega,Lib.hid (by rw [HF.out];exact haw.out)⟩
    case measure=>simp [intOf];omega
   | true =>
    rw [hq,Bool.true_and] at HGE
    rw [hq] at HI1
    refine HI1.out.mono ?_;rintro e w5 ⟨rfl,hb5⟩
    replace haw:=Lib.hid (haw.out.below hb5)
    have HC2:=Lib.hid (HSY.out w5 p at_ HPK.out hat (HK.out _ _ HWx.out hb5))
    clear hb5 hq HI1
    cases hf:f p at_ with
    | false =>
     rw [hf] at HGE HC2
     have HF:=Lib.hid (HFN.out HGE.out)
     clear HFY HFN HGE hf
     go_wp2_with (go_at_fn gf;refine HC2.out.mono ?_;rintro e w6 ⟨rfl,hb6⟩)
     replace haw:=Lib.hid (haw.out.below hb6)
     clear hb6
     go_roundw
     case rel=>exact ⟨k+1,PB,cB,by go_num,by omega,Lib.hid (by rw [HF.out];exact haw.out)⟩
     case measure=>simp [intOf];omega
    | true =>
     rw [hf] at HGE HC2
     have HF:=Lib.hid (HFY.out HGE.out)
     clear HFY HFN HGE hf
     go_upto_region 7 with (go_at_fn gf;refine HC2.out.mono ?_;rintro e w6 ⟨rfl,hb6⟩)
     replace haw:=Lib.hid (haw.out.below hb6)
     clear hb6 HC2
     have HOW:=Lib.hid (World.ownsRow.alloc haw.out.own (.cells #[.string p] 9))
     have hbs:=haw.out.bel.size
     have hxl:=haw.out.box.lt
     obtain ⟨x0,x1⟩:=haw.out.box.cells
     obtain ⟨y0,y1⟩:=haw.out.box.free
     go_wp2_with (at_builtin;refine wpList_append_own_at _ rfl _ _ 54 rfl (w1.heap.size+1) 9 i0 _ 1 16 Tryz.underlying54 hi0 hz0 hz1 hz2 rfl (by decide) _ F.length (strV F) rfl HOW.out ⟨w6.heap.size,0,none⟩ 1 1 (strV [p]) rfl rfl (str_news _ _) (one_str _) (by unfold maxLen;omega) (by omega) (by rw [World.size_alloc];omega) ?_;intro v' w7 hown hgr hnil hob;obtain ⟨PB',cB',rfl,hx7,haw'⟩:=haw.out.push hown hgr hob;have HA':=Lib.hid haw';obtain ⟨z0,z1⟩:=hx7.cells;obtain ⟨u0,u1⟩:=hx7.free;clear hx7 haw' hown hgr hnil hob)
     go_roundw
     case rel=>exact ⟨k+1,PB',cB',by go_num,by omega,Lib.hid (by rw [HF.out];exact HA'.out)⟩
     case measure=>simp [intOf];omega
  ·obtain rfl:k=pl.length:=by omega
   rw [List.take_length] at haw
   have HAw:=Lib.hid (HA.out.below haw.out.bel);have HDw:=Lib.hid (HD.out.below haw.out.bel);have FNw:=Lib.hid (FN.out.below haw.out.bel)
   obtain ⟨F,hF⟩:∃ F,F=pl.filter g1:=⟨_,rfl⟩
   rw [← hF] at haw
   have HFE:=Lib.hid hF
   clear hF
   obtain ⟨n0,n1,n2⟩:=FNw.out.cells
   go_wp2_with fail
   clear n0 n1 n2
   refine (HUN.out wr HAw.out HDw.out).mono ?_;rintro e w4 ⟨vt,rfl,ho,hb⟩
   have hao:=OwnK.mono ho (show w1.heap.size+1≤wr.heap.size from haw.out.box.lt)
   obtain ⟨PT,ct,rfl⟩:=OwnK.opens hao
   have haw4:=haw.out.below hb
   have HAV:=Lib.hid (show Aw2 w1 PT ct us F PB cB ((us.take 0).filter g2) none 0 w4 from ⟨haw4.bel,haw4.box,haw4.own,ownT_nil _ _,hao,fun q h=>by cases h⟩)
   clear haw haw4 ho hao hb HAw HDw FNw HUN hlt
   go_wp2
   go_loopw [50] (fun i wr=>∃ (k:Nat) (PC:Option Addr) (cC:Nat),i=.int .i64 k∧k≤us.length∧Hid (Aw2 w1 PT ct us F PB cB ((us.take k).filter g2) PC cC wr)) (fun i _=>us.length - (intOf i).toNat)
   case atStart=>exact ⟨0,none,0,rfl,Nat.zero_le _,HAV⟩
   case round =>
    clear HAV
    obtain ⟨k,PC,cC,rfl,hk,haw⟩:=hrel
    by_cases hlt:(k:Int) < (us.length:Int)
    ·have hkl:k < us.length:=by omega
     have htm:=List.getElem_mem hkl
     have htr:=HUT.out us[k] htm
     have HRw:=Lib.hid (HR.out.below haw.out.bel);have HWw:=Lib.hid (HK.out _ _ HW.out haw.out.bel)
     have HAw:=Lib.hid (HA.out.below haw.out.bel);have HDw:=Lib.hid (HD.out.below haw.out.bel);have FNw:=Lib.hid (FN.out.below haw.out.bel)
     have HFY:=Lib.hid (fun h=>fl_yes (g:=g2) hkl h);have HFN:=Lib.hid (fun h=>fl_no (g:=g2) hkl h)
     have HGE:=Lib.hid (HG2.out us[k])
     have HSE:=Lib.hid (HST.out us[k] htr);have HEE:=Lib.hid (HEN.out us[k] htr)
     have hlenR:((us.take k).filter g2).length≤1220:=Nat.le_trans (List.length_filter_le _ _) (by rw [List.length_take];omega)
     obtain ⟨_,_,q,hg0,hql,hlg,_,hS0,hSE,_⟩:=trB_of htr
     have hE0:-9223372036854775808≤trE l us[k]:=by omega
     obtain ⟨gt,eqt,hgt,d0,d1⟩:=(ins_row haw.out.trs tpC_len rfl).tp k hkl
     subst eqt
     rw [hlg] at HGE
     have HTS:=Lib.hid (HLT.out l[q] (List.getElem_mem hql))
     clear htr htm hlg hS0 hSE
     generalize (us.take k).filter g2=R at *
     generalize us[k]=t at *
     obtain ⟨tg,td⟩:=t
     dsimp only at *
     subst hg0
     generalize trS l ⟨(q:Int),td⟩=S at *
     generalize trE l ⟨(q:Int),td⟩=Z at *
     have FT:=Lib.hid (Box2.new (T:=32) (v0:=.int .i64 (q:Int)) (v1:=.int .i64 td) wr)
     have hba:=(Below.refl wr.heap.size wr).alloc (Nat.le_refl _) (.cells #[.int .i64 (q:Int),.int .i64 td] 32)
     have HAx:=Lib.hid (HAw.out.below hba)
     have hs3:(wr.alloc (.cells #[.int .i64 (q:Int),.int .i64 td] 32)).heap.size=wr.heap.size+1:=by simp
     obtain ⟨g0,eq0,hgl,c0,c1,c2,c3,c4,c5⟩:=HAx.out.lg q hql
     subst eq0
     have hqi:(q:Int) < (l.length:Int):=by omega
     have hqz:¬ (q:Int) < 0:=by omega
     generalize l[q]=y at *
     obtain ⟨n0,n1,n2⟩:=(FNw.out.below hba).cells
     have hb2:=(Below.refl (wr.alloc (.cells #[.int .i64 (q:Int),.int .i64 td] 32)).heap.size (wr.alloc (.cells #[.int .i64 (q:Int),.int .i64 td] 32))).alloc (Nat.le_refl _) (.cells #[.string y.f,.string y.t,.int .i64 y.s,.int .i64 y.k,.int .i64 y.d,.int .i64 y.r] 62)
     have FG:=Lib.hid (show BoxS 62 _ (wr.heap.size+1) _ _ _ _ _ _ from hs3 ▸ BoxS.new (T:=62) (v0:=.string y.f) (v1:=.string y.t) (v2:=.int .i64 y.s) (v3:=.int .i64 y.k) (v4:=.int .i64 y.d) (v5:=.int .i64 y.r) (wr.alloc (.cells #[.int .i64 (q:Int),.int .i64 td] 32)))
     replace FT:=Lib.hid (FT.out.below hb2)
     have hb3:=hba.trans (hb2.mono hba.size)
     replace haw:=Lib.hid (haw.out.below hb3);replace HRw:=Lib.hid (HRw.out.below hb3);replace HWw:=Lib.hid (HK.out _ _ HWw.out hb3);replace HDw:=Lib.hid (HDw.out.below hb3);replace FNw:=Lib.hid (FNw.out.below hb3);replace HAx:=Lib.hid (HAx.out.below hb2)
     clear hba hb2 hb3 HAw hgl
     go_upto_region 13 with (fail)
     clear d0 d1 n0 n1 n2 c0 c1 c2 c3 c4 c5 hs3
     generalize (wr.alloc (.cells #[.int .i64 (q:Int),.int .i64 td] 32)).alloc (.cells #[.string y.f,.string y.t,.int .i64 y.s,.int .i64 y.k,.int .i64 y.d,.int .i64 y.r] 62)=w5 at *
     have hnl:=FNw.out.lt;have htl:=FT.out.lt;have hgl:=FG.out.lt
     obtain ⟨n0,n1,n2⟩:=FNw.out.cells
     obtain ⟨t0,t1⟩:=FT.out.cells
     obtain ⟨l0,l1,l2,l3,l4,l5⟩:=FG.out.cells
     have fn0:=far_cell hnl n0;have fn1:=far_cell hnl n1;have fn2:=far_cell hnl n2
     have ft0:=far_cell htl t0;have ft1:=far_cell htl t1
     have fl0:=far_cell hgl l0;have fl1:=far_cell hgl l1;have fl2:=far_cell hgl l2;have fl3:=far_cell hgl l3;have fl4:=far_cell hgl l4;have fl5:=far_cell hgl l5
     clear n0 n1 n2 t0 t1 l0 l1 l2 l3 l4 l5
     have HF0:=Lib.hid (fun u=>HRS.out X Y (far w5 u) y.f (HRw.out.below (below_far w5 u)))
     have HF1:=Lib.hid (fun u=>HSE.out (far w5 u) (HAx.out.below (below_far w5 u)) (HDw.out.below (below_far w5 u)))
     have HF2:=Lib.hid (fun u=>HIS.out y.f S (far w5 u))
     have HF3:=Lib.hid (fun u=>HEE.out (far w5 u) (HAx.out.below (below_far w5 u)) (HDw.out.below (below_far w5 u)))
     have HF4:=Lib.hid (fun u=>HSY.out (far w5 u) y.t Z HTS.out hE0 (HK.out _ _ HWw.out (below_far w5 u)))
     cases hq:inT l zs x P T y.f S with
     | false =>
      rw [hq] at HF2 HGE
      have HF:=Lib.hid (HFN.out HGE.out)
      clear HFY HFN HGE hq HF3 HF4
      refine wp_region_far (by kernel_rfl) (by kernel_rfl) ?_
      repeat (any_goals (first | go_big_quiet_step ((first | (go_at_call 180;with_reducible exact call_far (HF0.out _)) | (go_at_call 103;with_reducible exact call_far (HF1.out _)) | (go_at_call 212;with_reducible exact call_far (HF2.out _)))) | quiet_step ((first | (go_at_call 180;with_reducible exact call_far (HF0.out _)) | (go_at_call 103;with_reducible exact call_far (HF1.out _)) | (go_at_call 212;with_reducible exact call_far (HF2.out _))))))
      refine wpQuiet_nil ?_;intro w6 hw6
      have hb6:Below w5.heap.size w5 w6:=by obtain ⟨u,rfl⟩:=hw6;exact below_far w5 u
      clear hw6 fn0 fn1 fn2 ft0 ft1 fl0 fl1 fl2 fl3 fl4 fl5
      replace haw:=Lib.hid (haw.out.below hb6)
      clear hb6
      go_wp2
      go_roundw
      case rel=>exact ⟨k+1,PC,cC,by go_num,by omega,Lib.hid (by rw [HF.out];exact haw.out)⟩
      case measure=>simp [intOf];omega
     | true =>
      rw [hq,Bool.true_and] at HGE
      rw [hq] at HF2
      clear hq
      cases hf:f y.t Z with
      | false =>
       rw [hf] at HGE HF4
       have HF:=Lib.hid (HFN.out HGE.out)
       clear HFY HFN HGE hf
       refine wp_region_far (by kernel_rfl) (by kernel_rfl) ?_
       repeat (any_goals (first | go_big_quiet_step ((first | (go_at_call 180;with_reducible exact call_far (HF0.out _)) | (go_at_call 103;with_reducible exact call_far (HF1.out _)) | (go_at_call 212;with_reducible exact call_far (HF2.out _)) | (go_at_call 161;with_reducible exact call_far (HF3.out _)) | (go_at_fn gf;with_reducible exact call_far (HF4.out _)))) | quiet_step ((first | (go_at_call 180;with_reducible exact call_far (HF0.out _)) | (go_at_call 103;with_reducible exact call_far (HF1.out _)) | (go_at_call 212;with_reducible exact call_far (HF2.out _)) | (go_at_call 161;with_reducible exact call_far (HF3.out _)) | (go_at_fn gf;with_reducible exact call_far (HF4.out _))))))
       refine wpQuiet_nil ?_;intro w6 hw6
       have hb6:Below w5.heap.size w5 w6:=by obtain ⟨u,rfl⟩:=hw6;exact below_far w5 u
       clear hw6 fn0 fn1 fn2 ft0 ft1 fl0 fl1 fl2 fl3 fl4 fl5
       replace haw:=Lib.hid (haw.out.below hb6)
       clear hb6
       go_wp2
       go_roundw
       case rel=>exact ⟨k+1,PC,cC,by go_num,by omega,Lib.hid (by rw [HF.out];exact haw.out)⟩
       case measure=>simp [intOf];omega
      | true =>
       rw [hf] at HGE HF4
       have HF:=Lib.hid (HFY.out HGE.out)
       clear HFY HFN HGE hf
       refine wp_region_far (by kernel_rfl) (by kernel_rfl) ?_
       repeat (any_goals (first | go_big_quiet_step ((first | (go_at_call 180;with_reducible exact call_far (HF0.out _)) | (go_at_call 103;with_reducible exact call_far (HF1.out _)) | (go_at_call 212;with_reducible exact call_far (HF2.out _)) | (go_at_call 161;with_reducible exact call_far (HF3.out _)) | (go_at_fn gf;with_reducible exact call_far (HF4.out _)))) | quiet_step ((first | (go_at_call 180;with_reducible exact call_far (HF0.out _)) | (go_at_call 103;with_reducible exact call_far (HF1.out _)) | (go_at_call 212;with_reducible exact call_far (HF2.out _)) | (go_at_call 161;with_reducible exact call_far (HF3.out _)) | (go_at_fn gf;with_reducible exact call_far (HF4.out _))))))
       refine wpQuiet_nil ?_;intro w6 hw6
       have hb6:Below w5.heap.size w5 w6:=by obtain ⟨u,rfl⟩:=hw6;exact below_far w5 u
       clear hw6 fn0 fn1 fn2 ft0 ft1 fl0 fl1 fl2 fl3 fl4 fl5
       replace haw:=Lib.hid (haw.out.below hb6);replace FT:=Lib.hid (FT.out.below hb6)
       clear hb6 HF0 HF1 HF2 HF3 HF4
       have HOW:=Lib.hid (World.ownsRow.alloc haw.out.rid (.cells #[.int .i64 (q:Int),.int .i64 td] 32))
       have hbs:=haw.out.bel.size
       have hxl:=haw.out.box.lt
       obtain ⟨x0,x1⟩:=haw.out.box.cells
       obtain ⟨y0,y1⟩:=haw.out.box.free
       obtain ⟨t0,t1⟩:=FT.out.cells
       go_wp2_with (at_builtin;refine wpList_append_own_at _ rfl _ _ 48 rfl (w1.heap.size+1) 32 j0 _ 2 16 Tryz.underlying48 hj0 hy0 hy1 hy2 rfl (by decide) _ R.length (R.flatMap tpC) rfl HOW.out ⟨w6.heap.size,0,none⟩ 1 1 (tpC ⟨(q:Int),td⟩) rfl rfl (enc_news _ _ _) (one_tp9 _) (by unfold maxLen;omega) (by omega) (by rw [World.size_alloc];omega) ?_;intro v' w7 hown hgr hnil hob;obtain ⟨PC',cC',rfl,hx7,haw'⟩:=haw.out.push (t:=⟨(q:Int),td⟩) hown hgr hob;have HA':=Lib.hid haw';obtain ⟨z0,z1⟩:=hx7.cells;obtain ⟨u0,u1⟩:=hx7.free;clear hx7 haw' hown hgr hnil hob)
       go_roundw
       case rel=>exact ⟨k+1,PC',cC',by go_num,by omega,Lib.hid (by rw [HF.out];exact HA'.out)⟩
       case measure=>simp [intOf];omega
    ·obtain rfl:k=us.length:=by omega
     rw [List.take_length] at haw
     obtain ⟨R,hR⟩:∃ R,R=us.filter g2:=⟨_,rfl⟩
     rw [← hR] at haw
     have HRE:=Lib.hid hR
     clear hR
     have FRw:=Lib.hid (FR.out.below haw.out.bel)
     obtain ⟨x0,x1⟩:=haw.out.box.cells
     obtain ⟨r0,r1⟩:=FRw.out.cells
     obtain ⟨q0,q1⟩:=FRw.out.free
     have hbs:=haw.out.bel.size
     have hrl:=FR.out.lt
     have hrl2:B+1+1 < wr.heap.size:=by omega
     go_wp2
     have FR2:=box_put (v0:=.slice PB F.length cB) (v1:=.slice PC R.length cC) FRw.out
     have hgz:=only_trans (only_set wr (B+1+1) 0 (.slice PB F.length cB)) (only_set _ (B+1+1) 1 (.slice PC R.length cC))
     obtain ⟨y0,y1⟩:=FR2.cells
     have HL1:=HL.out
     refine bodyPost_ret (v:=.agg #[.slice PB F.length cB,.slice PC R.length cC]) (by simp [results,Tryz.results169,go_sem,y0,y1]) rfl ⟨⟨_,_,rfl,?_,?_⟩,?_⟩
     ·rw [← HFE.out];exact own_mono (row_besides haw.out.own hgz (fun q e=>by have:=(World.ownsRow.lt haw.out.own q e).1;omega)) (by omega)
     ·rw [← HRE.out];exact OwnK.mono (row_besides haw.out.rid hgz (fun q e=>by have:=(World.ownsRow.lt haw.out.rid q e).1;omega)) (by omega)
     ·exact ((HB0.out.trans (haw.out.bel.mono HL1)).setCell (by dsimp only;omega) _).setCell (by dsimp only;omega) _
end Go.Proofs.YtinijleelhbpoaaGreat

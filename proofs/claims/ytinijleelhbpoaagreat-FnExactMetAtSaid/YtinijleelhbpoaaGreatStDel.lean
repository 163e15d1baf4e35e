/- slices.IndexFunc and DeleteFunc on a row of texts. Written by mk/stdel.py. -/
import Derived.Test.YtinijleelhbpoaaGreatBs
import Derived.Test.YtinijleelhbpoaaGreatPlS
import Derived.Laws.CopyRow
import Derived.Shelf.Abstract
namespace Go.Proofs.YtinijleelhbpoaaGreat
open Go.RowKit
theorem strV_set (l:List ByteArray) (k:Nat) (s:ByteArray):strV (l.set k s)=(strV l).set k (.string s):=by simp [strV]
theorem strV_take (l:List ByteArray) (k:Nat):strV (l.take k)=(strV l).take k:=by simp [strV]
theorem rowS_put {w:World} {b G c k:Nat} {l:List ByteArray} (h:RowS w b G c l) (s:ByteArray):RowS (w.setCell ⟨G,k,none⟩ (.string s)) b G c (l.set k s):=by
 unfold RowS OwnStr
 rw [List.length_set,strV_set]
 exact (World.ownsRow.stored h k (.string s)).1
theorem zero_strs (m:Nat):((Builtin.zeroCells (Value.string ⟨#[]⟩).cells m).toList).length=m∧∀ v ∈ (Builtin.zeroCells (Value.string ⟨#[]⟩).cells m).toList,v.oneCell'=true:=by
 have h4:(Value.string ⟨#[]⟩).cells=#[.string ⟨#[]⟩]:=by simp [Value.cells]
 rw [h4]
 refine ⟨by simp [Builtin.zeroCells],fun v hv=>?_⟩
 simp only [Builtin.zeroCells,Array.toList_map,List.mem_map] at hv
 obtain ⟨i,_,rfl⟩:=hv
 have:i % 1=0:=by omega
 show ((#[.string ⟨#[]⟩]:Array Value)[i % 1]!).oneCell'=true
 rw [this]
 rfl
theorem clear_rowS {w:World} {b G c:Nat} {L:List ByteArray} (h:RowS w b G c L) (i:Nat) (hi:i≤L.length):∃ w',(∀ ty,(Builtin.clear_ #[54] ty #[.slice (some ⟨G,i,none⟩) (L.length - i) (c - i)]).run Tryz.prog w=.ok (.tuple #[]) w')∧RowS w' b G c (L.take i)∧w.grownBy w' (some G):=by
 rcases Nat.lt_or_ge i L.length with hlt | hge
 ·obtain ⟨m,hm⟩:∃ m,L.length - i=m+1:=⟨L.length - i - 1,by omega⟩
  rcases h.2 with ⟨e,_⟩ | ⟨g,cap,cur,e,hb,hg,hnc,hcm,hcs,htk⟩
  ·cases e
  ·cases e
   obtain ⟨hzl,hz1⟩:=zero_strs (m+1)
   generalize hZ:(Builtin.zeroCells (Value.string ⟨#[]⟩).cells (m+1)).toList=ZZ at hzl hz1
   have hst:=run_storeCells_at Tryz.prog G i 9 ZZ 0 cur w hg (by omega) hz1
   refine ⟨w.setRow G (cur.toList.take (i+0) ++ ZZ ++ cur.toList.drop (i+0+ZZ.length)).toArray,fun ty=>?_,?_,only_row _ _ _⟩
   ·rw [hm]
    simp [Builtin.clear_,run_underlying Tryz.underlying54,Tryz.zeroValue9,hZ,hst]
   ·have hl:(L.take i).length=i:=by rw [List.length_take];omega
    refine ⟨by rw [strV_len,Nat.mul_one],.inr ⟨G,c,_,rfl,hb,Go.setRow_heap w G cur _ _ _ hg,by omega,hcm,?_,?_⟩⟩
    ·simp;omega
    ·rw [hl,strV_take,← htk,List.take_take,Nat.min_eq_left (by omega)]
     simp only [Nat.add_zero,Nat.mul_one,List.append_assoc]
     rw [List.take_left' (by rw [List.length_take,Array.length_toList];omega)]
 ·obtain rfl:i=L.length:=by omega
  refine ⟨w,fun ty=>?_,by rw [List.take_length];exact h,only_same _ _⟩
  rw [Nat.sub_self]
  simp [Builtin.clear_,run_underlying Tryz.underlying54]
theorem strs_of {w:World} {b G c:Nat} {l:List ByteArray} (h:RowS w b G c l):StrsIn w (some ⟨G,0,none⟩) l:=by
 obtain ⟨A,c',e,hs⟩:=own_strs h
 cases e
 exact hs
theorem filtB_yes {q:ByteArray→Bool} {bs:List ByteArray} {j:Nat} (hj:j < bs.length) (h:q bs[j]=true):(bs.take (j+1)).filter q=(bs.take j).filter q ++ [bs[j]]:=by
 rw [List.take_succ_eq_append_getElem hj,List.filter_append]
 simp [h]
theorem filtB_no {q:ByteArray→Bool} {bs:List ByteArray} {j:Nat} (hj:j < bs.length) (h:q bs[j]=false):(bs.take (j+1)).filter q=(bs.take j).filter q:=by
 rw [List.take_succ_eq_append_getElem hj,List.filter_append]
 simp [h]
def SaysB (gf:Nat) (lb:Array Value) (p:ByteArray→Bool) (bs:List ByteArray) (K:World→Prop):Prop :=
 ∀ (W:World) (y:ByteArray),y ∈ bs→K W→Calls Tryz.prog gf (#[.string y] ++ lb) W fun e w'=>e=.returned (.bool (p y))∧Below W.heap.size W w'
def idxB (p:ByteArray→Bool) (bs:List ByteArray):Int:=match bs.findIdx? p with
 | none=>-1
 | some k=>k
theorem idxB_hit {p:ByteArray→Bool} {bs:List ByteArray} {k:Nat} (hk:k < bs.length) (hp:p bs[k]=true) (hn:∀ j (_:j < bs.length),j < k→p bs[j]=false):idxB p bs=k:=by
 unfold idxB
 rw [show bs.findIdx? p=some k from by rw [List.findIdx?_eq_some_iff_getElem];exact ⟨hk,hp,fun j hj=>by rw [hn j (by omega) hj];simp⟩]
theorem idxB_miss {p:ByteArray→Bool} {bs:List ByteArray} (hn:∀ j (_:j < bs.length),p bs[j]=false):idxB p bs=-1:=by
 unfold idxB
 rw [show bs.findIdx? p=none from by
  rw [List.findIdx?_eq_none_iff]
  intro x hx
  obtain ⟨j,hj,rfl⟩:=List.getElem_of_mem hx
  exact hn j hj]
set_option maxRecDepth 100000 in
set_option maxHeartbeats 2000000 in
theorem idxf_st (p:ByteArray→Bool) (gf:Nat) (lb:Array Value) (K:World→Prop) (hK:∀ W W',K W→Below W.heap.size W W'→K W') (eg:∀ args w,(callFunc gf args).run Tryz.prog w=.ok (.enter gf args) w) (A:Option Addr) (ca:Nat) (l:List ByteArray) (w:World) (hA:StrsIn w A l) (hn:l.length≤1048576) (hs:SaysB gf lb p l K) (hw:K w) :
  Calls Tryz.prog 183 #[.slice A l.length ca,.func (.func gf) #[] lb] w fun e w'=>e=.returned (.int .i64 (idxB p l))∧(∀ k:Nat,idxB p l=k→k < l.length∧(∃ h:k < l.length,p l[k]=true)∧∀ j (_:j < l.length),j < k→p l[j]=false)∧(idxB p l=-1→∀ j (_:j < l.length),p l[j]=false)∧Below w.heap.size w w':=by
 have HA:=Lib.hid hA;clear hA
 have HS:=Lib.hid hs;clear hs
 have HK:=Lib.hid hK;have HW:=Lib.hid hw;clear hK hw
 go_enter Tryz.func183,Tryz.ntmps183
 go_wp2
 go_loopw [8] (fun i wr=>∃ k:Nat,k≤l.length∧i=.int .i64 k∧Hid (∀ j (_:j < l.length),j < k→p l[j]=false)∧Below w.heap.size w wr) (fun i _=>l.length - (intOf i).toNat)
 case atStart=>exact ⟨0,Nat.zero_le _,rfl,Lib.hid (fun j _ h=>by omega),Below.refl _ _⟩
 case round =>
  obtain ⟨k,hk,rfl,hd,hb⟩:=hrel
  by_cases hlt:(k:Int) < (l.length:Int)
  ·have hkn:k < l.length:=by omega
   obtain ⟨g,rfl,hg,c0⟩:=(HA.out.below hb) k hkn
   have HC:=Lib.hid (HS.out wr l[k] (List.getElem_mem hkn) (HK.out w wr HW.out hb))
   have hbz:=hb.size
   have HP:=Lib.hid (fun h=>idxB_hit hkn h hd.out)
   have HP2:=Lib.hid (fun (h:p l[k]=true)=>(⟨hkn,h⟩:∃ h:k < l.length,p l[k]=true))
   have HQ:=Lib.hid (fun (h:p l[k]=false) j (hj:j < l.length) (hjk:j < k+1)=>show p l[j]=false by
    by_cases e:j=k
    ·subst e;exact h
    ·exact hd.out j hj (by omega))
   have HD:=Lib.hid hd.out
   clear hd
   generalize l[k]=y at c0 HC HP HQ HP2
   cases hq:p y with
   | true =>
    rw [hq] at HC
    have HV:=Lib.hid (HP.out hq)
    have HV2:=Lib.hid (HP2.out hq)
    clear HP HQ hq HP2
    go_wp2_with (go_at_fn gf;refine HC.out.mono ?_;rintro e w' ⟨rfl,hb'⟩)
    go_ret
    exact ⟨by rw [HV.out];rfl,fun k' hk'=>by
     rw [HV.out] at hk'
     obtain rfl:k=k':=by omega
     exact ⟨hkn,HV2.out,HD.out⟩,fun h=>by rw [HV.out] at h;omega,hb.trans (hb'.mono hbz)⟩
   | false =>
    rw [hq] at HC
    have HV:=Lib.hid (HQ.out hq)
    clear HP HQ hq HP2 HD
    go_wp2_with (go_at_fn gf;refine HC.out.mono ?_;rintro e w' ⟨rfl,hb'⟩)
    go_roundw
    case rel=>exact ⟨k+1,by omega,by go_num,HV,hb.trans (hb'.mono hbz)⟩
    case measure=>simp [intOf];omega
  ·obtain rfl:k=l.length:=by omega
   have HV:=Lib.hid (idxB_miss (fun j hj=>hd.out j hj hj))
   have HD:=Lib.hid (fun j (hj:j < l.length)=>hd.out j hj hj)
   clear hd
   go_wp2
   go_ret
   exact ⟨by rw [HV.out];rfl,fun k' hk'=>by rw [HV.out] at hk';omega,fun _=>HD.out,hb⟩
theorem delB_no {p:ByteArray→Bool} {bs:List ByteArray} (h:∀ j (_:j < bs.length),p bs[j]=false):bs.filter (fun y=>!p y)=bs:=by
 rw [List.filter_eq_self]
 intro y hy
 obtain ⟨j,hj,rfl⟩:=List.getElem_of_mem hy
 simp [h j hj]
theorem delB_first {p:ByteArray→Bool} {bs:List ByteArray} {k:Nat} (hk:k < bs.length) (hp:p bs[k]=true) (h:∀ j (_:j < bs.length),j < k→p bs[j]=false):(bs.take (k+1)).filter (fun y=>!p y)=bs.take k:=by
 rw [filtB_no hk (by simp [hp]),List.filter_eq_self]
 intro y hy
 obtain ⟨j,hj,rfl⟩:=List.getElem_of_mem hy
 have hj':j < k:=by rw [List.length_take] at hj;omega
 simp [h j (by omega) hj']
structure StruckB (p:ByteArray→Bool) (bs L:List ByteArray) (k j:Nat):Prop where
 len:L.length=bs.length
 lt:k < j
 le:j≤bs.length
 kept:L.take k=(bs.take j).filter (fun y=>!p y)
 rest:L.drop j=bs.drop j
theorem StruckB.get {p:ByteArray→Bool} {bs L:List ByteArray} {k j:Nat} (h:StruckB p bs L k j) (hj:j < bs.length):∃ h':j < L.length,L[j]=bs[j]:=by
 refine ⟨by rw [h.len];exact hj,?_⟩
 have h1:=congrArg (fun l=>l[0]?) h.rest
 simp only [List.getElem?_drop,Nat.add_zero] at h1
 rw [List.getElem?_eq_getElem (by rw [h.len];exact hj),List.getElem?_eq_getElem hj] at h1
 exact Option.some.inj h1
theorem StruckB.skip {p:ByteArray→Bool} {bs L:List ByteArray} {k j:Nat} (h:StruckB p bs L k j) (hj:j < bs.length) (hp:p bs[j]=true):StruckB p bs L k (j+1) :=
 ⟨h.len,by have:=h.lt;omega,hj,by rw [h.kept,filtB_no hj (by simp [hp])],by
  have h1:=congrArg (List.drop 1) h.rest
  rwa [List.drop_drop,List.drop_drop] at h1⟩
theorem StruckB.keep {p:ByteArray→Bool} {bs L:List ByteArray} {k j:Nat} (h:StruckB p bs L k j) (hj:j < bs.length) (hp:p bs[j]=false):StruckB p bs (L.set k bs[j]) (k+1) (j+1):=by
 have hlt:=h.lt
 have hl:=h.len
 refine ⟨by rw [List.length_set,hl],by omega,hj,?_,?_⟩
 ·rw [filtB_yes hj (by simp [hp]),← h.kept,List.take_succ_eq_append_getElem (by rw [List.length_set];omega),List.take_set_of_le (Nat.le_refl k),List.getElem_set_self]
 ·rw [List.drop_set_of_lt (by omega)]
  have h1:=congrArg (List.drop 1) h.rest
  rwa [List.drop_drop,List.drop_drop] at h1
theorem StruckB.done {p:ByteArray→Bool} {bs L:List ByteArray} {k:Nat} (h:StruckB p bs L k bs.length):L.take k=bs.filter (fun y=>!p y)∧(bs.filter (fun y=>!p y)).length=k∧k≤L.length:=by
 have h1:=h.kept
 rw [List.take_length] at h1
 exact ⟨h1,by rw [← h1,List.length_take,h.len];have:=h.lt;omega,by rw [h.len];have:=h.lt;omega⟩
set_option maxRecDepth 100000 in
set_option maxHeartbeats 4000000 in
theorem del_st (p:ByteArray→Bool) (gf:Nat) (lb:Array Value) (b G c:Nat) (K:World→Prop) (hK:∀ W W',K W→W.grownBy W' (some G)→K W') (eg:∀ args w,(callFunc gf args).run Tryz.prog w=.ok (.enter gf args) w) (bs:List ByteArray) (w:World) (hr:RowS w b G c bs) (hn:bs.length≤1048576) (hs:SaysB gf lb p bs K) (hw:K w) :
  Calls Tryz.prog 131 #[.slice (some ⟨G,0,none⟩) bs.length c,.func (.func gf) #[] lb] w fun e w'=>e=.returned (.slice (some ⟨G,0,none⟩) (bs.filter fun y=>!p y).length c)∧RowS w' b G c (bs.filter fun y=>!p y)∧w.grownBy w' (some G):=by
 have hK1:∀ W W',K W→Below W.heap.size W W'→K W':=fun W W' h hb=>hK W W' h (only_of_below hb G)
 have HIF:=Lib.hid (fun W hA hW=>idxf_st p gf lb K hK1 eg (some ⟨G,0,none⟩) c bs W hA hn hs hW)
 have HR:=Lib.hid hr;clear hr
 have HS:=Lib.hid hs;clear hs
 have HK:=Lib.hid hK;have HW:=Lib.hid hw;clear hK hw hK1
 have hc:bs.length≤c:=by
  rcases HR.out.2 with ⟨e,_⟩ | ⟨g,cap,cur,e,hb,hg,hnc,_⟩
  ·cases e
  ·cases e;exact hnc
 go_enter Tryz.func131,Tryz.ntmps131
 go_wp2_with fail
 refine (HIF.out w (strs_of HR.out) HW.out).mono ?_;rintro e w1 ⟨rfl,hhit,hmiss,hb1⟩
 have HR1:=Lib.hid (own_below HR.out hb1)
 have HW1:=Lib.hid (HK.out w w1 HW.out (only_of_below hb1 G))
 have HO1:=Lib.hid (only_of_below hb1 G)
 clear hb1 HIF
 by_cases hm:idxB p bs=-1
 ·have HF:=Lib.hid (delB_no (hmiss hm))
  clear hhit hmiss
  rw [hm]
  go_wp2
  go_ret
  rw [HF.out]
  exact ⟨rfl,HR1.out,HO1.out⟩
 ·obtain ⟨k0,hk0⟩:∃ k0:Nat,idxB p bs=k0:=by
   unfold idxB at hm ⊢
   cases h:bs.findIdx? p with
   | none=>rw [h] at hm;exact absurd rfl hm
   | some k=>exact ⟨k,rfl⟩
  obtain ⟨hkn,⟨_,hpk⟩,hbef⟩:=hhit k0 hk0
  have HS0:=Lib.hid (show StruckB p bs bs k0 (k0+1) from ⟨rfl,by omega,by omega,(delB_first hkn hpk hbef).symm,rfl⟩)
  clear hhit hmiss hpk hbef hm
  rw [hk0]
  clear hk0
  go_wp2
  rw [show ((k0:Int) == -1)=false from by rw [beq_eq_false_iff_ne];omega]
  go_loopw [5,6] (fun i j wr=>∃ k jj:Nat,i=.int .i64 k∧j=.int .i64 jj∧k < jj∧jj≤bs.length∧∃ L,Hid (StruckB p bs L k jj)∧Hid (RowS wr b G c L)∧Hid (K wr)∧w.grownBy wr (some G)) (fun i j _=>bs.length - (intOf j).toNat)
  case atStart=>exact ⟨k0,k0+1,rfl,by go_num,by omega,by omega,bs,HS0,HR1,HW1,HO1.out⟩
  case round =>
   obtain ⟨k,jj,rfl,rfl,hkj,hjn,L,hst,hrw,hkw,hgr⟩:=hrel
   have hLn:L.length=bs.length:=hst.out.len
   by_cases hlt:(jj:Int) < (bs.length:Int)
   ·have hj:jj < bs.length:=by omega
    obtain ⟨hj',hge⟩:=hst.out.get hj
    have hA:=strs_of hrw.out
    obtain ⟨g0,e0,hg0,c0⟩:=hA jj hj'
    obtain ⟨g1,e1,hg1,d0⟩:=hA k (by omega)
    cases e0;cases e1
    rw [hge] at c0
    have HC:=Lib.hid (HS.out wr bs[jj] (List.getElem_mem hj) hkw.out)
    have HY:=Lib.hid (fun h=>hst.out.skip hj h)
    have HN:=Lib.hid (fun h=>hst.out.keep hj h)
    have hkL:k < L.length:=by omega
    clear hA hg1 hst hge
    generalize bs[jj]=y at c0 HC HY HN
    have HGR:=Lib.hid hgr;clear hgr
    cases hq:p y with
    | true =>
     rw [hq] at HC
     have HT:=Lib.hid (HY.out hq)
     clear HY HN hq d0
     go_wp2_with (go_at_fn gf;refine HC.out.mono ?_;rintro e w' ⟨rfl,hb1⟩)
     have hb':Below wr.heap.size wr w':=hb1
     clear hb1
     go_roundw
     case rel=>exact ⟨k,jj+1,rfl,by go_num,by omega,by omega,L,HT,Lib.hid (own_below hrw.out hb'),Lib.hid (HK.out _ _ hkw.out (only_of_below hb' G)),only_trans HGR.out (only_of_below hb' G)⟩
     case measure=>simp [intOf];omega
    | false =>
     rw [hq] at HC
     have HT:=Lib.hid (HN.out hq)
     clear HY HN hq
     go_wp2_with fail
     go_at_fn gf
     refine HC.out.mono ?_;rintro e w' ⟨rfl,hb1⟩
     have hb':Below wr.heap.size wr w':=hb1
     clear hb1
     have hr':=own_below hrw.out hb'
     have d0':=(hb'.cell (p:=⟨G,k,none⟩) hg0).trans d0
     have hfr':∀ o,w'.frozen? ⟨G,o,none⟩=false:=fun o=>World.ownsRow.frozenAt hr' o
     have HRS:=Lib.hid (rowS_put (k:=k) hr' y)
     have HO':=Lib.hid (only_of_below hb' G)
     clear d0 c0 hr' hb' HC
     go_wp2
     go_roundw
     case rel=>exact ⟨k+1,jj+1,by go_num,by go_num,by omega,by omega,L.set k y,HT,HRS,Lib.hid (HK.out _ _ hkw.out (only_trans HO'.out (only_set _ G k (.string y)))),only_trans HGR.out (only_trans HO'.out (only_set _ G k (.string y)))⟩
     case measure=>simp [intOf];omega
   ·obtain rfl:jj=bs.length:=by omega
    obtain ⟨hd1,hd2,hd3⟩:=hst.out.done
    obtain ⟨w',hcl,hr',hg'⟩:=clear_rowS hrw.out k hd3
    rw [hd1] at hr'
    rw [hLn] at hcl
    have HRZ:=Lib.hid hr';have HGZ:=Lib.hid (only_trans hgr hg')
    clear hr' hg' hgr
    have hkc:(k:Int)≤(c:Int):=by omega
    go_wp2
    go_ret
    exact ⟨by first | rfl | (rw [hd2];rfl),HRZ.out,HGZ.out⟩
end Go.Proofs.YtinijleelhbpoaaGreat

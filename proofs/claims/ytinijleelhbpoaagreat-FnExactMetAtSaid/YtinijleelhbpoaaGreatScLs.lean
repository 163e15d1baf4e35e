/- LastScan, both texts. -/
import Derived.Test.YtinijleelhbpoaaGreatScNx
namespace Go.Proofs.YtinijleelhbpoaaGreat
open Go.RowKit
theorem cmpSc_a {a b:Sc} (h:cmpSc a b < 0):a.a≤b.a:=by
 rw [cmp6_eq] at h
 unfold cmp6 lexC at h
 by_cases e:cmpI a.a b.a=0
 ·have:=cmpI_zero e;omega
 ·rw [if_neg e] at h
  dsimp only at h
  rcases cmpI_cases a.a b.a with ⟨q,_⟩ | ⟨_,q⟩ | ⟨_,q⟩ <;> omega
theorem clU_up {l:List Lg} {zs:List Int} {x:Int} {V:List Sc} (hu:UpSc V):∀ (k:Nat),k≤V.length→UpSc (clU l zs x V k)
 | 0,_=>List.Pairwise.nil
 | k+1,hk=>by
  have ih:=clU_up (l:=l) (zs:=zs) (x:=x) hu k (by omega)
  have hput:UpSc (clU l zs x V k ++ [V[k]]):=List.pairwise_append.2 ⟨ih,List.pairwise_singleton _ _,fun a ha b hb=>by
   rw [List.mem_singleton] at hb
   subst hb
   obtain ⟨j,hj,hjk,rfl⟩:=clU_mem k (by omega) a ha
   exact List.pairwise_iff_getElem.1 hu j k hj (by omega) hjk⟩
  rw [clU_succ (by omega)]
  unfold addC
  split
  ·exact hput
  ·split
   ·exact hput
   ·exact ih
theorem clB_up {l:List Lg} {zs:List Int} {x:Int} {ls:List Sc} {th:Int}:UpSc (clB l zs x ls th):=clU_up scOf_up _ (Nat.le_refl _)
def lsT (C:List Sc) (at_:Int):Sc:=if fstA C at_=0 then zSc else C.getD (fstA C at_ - 1) zSc
def lsOk (C:List Sc) (at_:Int):Bool:=decide (fstA C at_ ≠ 0)
theorem ls_hit {C:List Sc} {at_:Int} {n:Nat} (hn:n < C.length) (e:fstA C at_=n+1):lsT C at_=C[n]∧lsOk C at_=true:=by
 unfold lsT lsOk
 rw [e,if_neg (by omega)]
 exact ⟨by simp [List.getD,hn],decide_eq_true (by omega)⟩
theorem ls_miss {C:List Sc} {at_:Int} (e:fstA C at_=0):lsT C at_=zSc∧lsOk C at_=false:=by
 unfold lsT lsOk
 rw [e,if_pos rfl]
 exact ⟨rfl,decide_eq_false (by omega)⟩
theorem fstA_zero {C:List Sc} {at_:Int} (h:∀ j (_:j < C.length),at_ < C[j].a):fstA C at_=0:=by
 by_cases e:C.length=0
 ·rw [fstA_miss (fun j hj=>absurd hj (by omega)),e]
 ·exact fstA_hit (by omega) (h 0 (by omega)) (fun j _ hj=>absurd hj (by omega))
theorem fstA_last {C:List Sc} {at_:Int} {n:Nat} (hu:UpSc C) (hn:n < C.length) (h:C[n].a≤at_) (ha:∀ j (_:j < C.length),n+1≤j→at_ < C[j].a):fstA C at_=n+1:=by
 have hb:∀ j (_:j < C.length),j < n+1→¬ at_ < C[j].a:=fun j hj hjn=>by
  by_cases e:j=n
  ·subst e;omega
  ·have:=cmpSc_a (List.pairwise_iff_getElem.1 hu j n hj hn (by omega));omega
 by_cases e:n+1 < C.length
 ·exact fstA_hit e (ha (n+1) e (Nat.le_refl _)) hb
 ·rw [fstA_miss (fun j hj=>hb j hj (by omega))];omega
set_option maxRecDepth 100000 in
set_option maxHeartbeats 2000000 in
theorem lss_spec (A:Option Addr) (ca:Nat) (l:List Lg) (D:Option Addr) (cd:Nat) (zs:List Int) (x:Int) (E:Option Addr) (ce:Nat) (ls:List Sc) (th at_:Int) (w:World) (hA:InK 6 lgC w A l) (hD:IntsIn w D zs) (hs:∀ z ∈ l,z.f.size≤maxLen∧z.t.size≤maxLen) (hn:l.length≤1048576) (hm:zs.length≤1048576) (hE:InK 6 scC w E ls) (hk:ls.length≤1048576) (hce:ls.length≤ce) :
  Calls Tryz.prog 30 #[.agg #[.slice A l.length ca,.slice D zs.length cd,.int .i64 x],.slice E ls.length ce,.int .i64 th,.int .i64 at_] w fun e w'=>e=.returned (.tuple #[.agg #[.int .i64 (lsT (clB l zs x ls th) at_).h,.int .i64 (lsT (clB l zs x ls th) at_).a,.int .i64 (lsT (clB l zs x ls th) at_).k,.string (lsT (clB l zs x ls th) at_).p,.int .i64 (lsT (clB l zs x ls th) at_).g,.int .i64 (lsT (clB l zs x ls th) at_).d],.bool (lsOk (clB l zs x ls th) at_)])∧Below w.heap.size w w':=by
 have H2:=two w (.cells #[.slice A l.length ca,.slice D zs.length cd,.int .i64 x] 27) (.cells #[.int .i64 0,.int .i64 0,.int .i64 0,.string ⟨#[]⟩,.int .i64 0,.int .i64 0] 34)
 have HZ:=Lib.hid (show BoxS 34 _ (w.heap.size+1) _ _ _ _ _ _ from H2.2.1);have hb1:=H2.2.2.1;have hz2:=H2.2.2.2
 clear H2
 have HCL:=Lib.hid (cl_spec A ca l D cd zs x E ce ls th ((w.alloc (.cells #[.slice A l.length ca,.slice D zs.length cd,.int .i64 x] 27)).alloc (.cells #[.int .i64 0,.int .i64 0,.int .i64 0,.string ⟨#[]⟩,.int .i64 0,.int .i64 0] 34)) (hA.below hb1) (hD.below hb1) hs hn hm (hE.below hb1) hk hce)
 have hvl:=clB_len (l:=l) (zs:=zs) (x:=x) (ls:=ls) (th:=th)
 have HB0:=Lib.hid hb1
 clear hb1 hA hD hE hs
 generalize hB:w.heap.size=B at *
 have HBE:=Lib.hid hB
 have HUP:=Lib.hid (clB_up (l:=l) (zs:=zs) (x:=x) (ls:=ls) (th:=th))
 generalize clB l zs x ls th=V at *
 go_enter Tryz.func30,Tryz.ntmps30
 go_wp2_with fail
 clear hB
 generalize (w.alloc (.cells #[.slice A l.length ca,.slice D zs.length cd,.int .i64 x] 27)).alloc (.cells #[.int .i64 0,.int .i64 0,.int .i64 0,.string ⟨#[]⟩,.int .i64 0,.int .i64 0] 34)=W2 at *
 refine HCL.out.mono ?_;rintro e w1 ⟨v,rfl,ho,hb⟩
 obtain ⟨Av,cv,rfl⟩:=OwnK.opens (k:=6) (enc:=scC) ho
 have HIn:=Lib.hid (ins_row ho scC_len rfl)
 have HB1:=Lib.hid (HB0.out.trans (hb.mono (by omega)))
 have HZ1:=Lib.hid (HZ.out.below hb)
 have hs1:=hb.size
 clear ho hb HCL
 go_wp2
 go_loopw [11] (fun i wr=>∃ k:Nat,i=.int .i64 ((k:Int) - 1)∧k≤V.length∧Hid (∀ j (_:j < V.length),k≤j→at_ < V[j].a)∧wr=w1) (fun i _=>(intOf i+1).toNat)
 case atStart=>exact ⟨V.length,rfl,Nat.le_refl _,Lib.hid (fun j _ h=>absurd h (by omega)),rfl⟩
 case round =>
  obtain ⟨k,rfl,hkm,hall,rfl⟩:=hrel
  by_cases hk0:k=0
  ·subst hk0
   have HX:=Lib.hid (ls_miss (fstA_zero (fun j hj=>hall.out j hj (Nat.zero_le _))))
   clear hall
   have hm1:((0:Nat):Int) - 1=-1:=by omega
   obtain ⟨r0,r1,r2,r3,r4,r5⟩:=HZ1.out.cells
   have z0:=HZ1.out.free 0;have z1:=HZ1.out.free 1;have z2:=HZ1.out.free 2;have z3:=HZ1.out.free 3;have z4:=HZ1.out.free 4;have z5:=HZ1.out.free 5
   have hzl:=HZ1.out.lt
   go_wp2
   exact bodyPost_ret (v:=.tuple #[.agg #[.int .i64 0,.int .i64 0,.int .i64 0,.string ⟨#[]⟩,.int .i64 0,.int .i64 0],.bool false]) (by simp [results,Tryz.results30,go_sem,r0,r1,r2,r3,r4,r5]) rfl ⟨by rw [HX.out.1,HX.out.2];first | done | rfl,((((((HB1.out.setCell (by dsimp only;omega) _).setCell (by dsimp only;omega) _).setCell (by dsimp only;omega) _).setCell (by dsimp only;omega) _).setCell (by dsimp only;omega) _).setCell (by dsimp only;omega) _)⟩
  ·obtain ⟨n,rfl⟩:∃ n,k=n+1:=⟨k - 1,by omega⟩
   have hni:((n+1:Nat):Int) - 1=(n:Int):=by omega
   rw [hni]
   have hnV:n < V.length:=by omega
   obtain ⟨g0,e0,hg0,c0,c1,c2,c3,c4,c5⟩:=HIn.out.sc n hnV
   subst e0
   have HHit:=Lib.hid (fun (h:V[n].a≤at_)=>ls_hit hnV (fstA_last HUP.out hnV h hall.out))
   have HNo:=Lib.hid (fun (h:¬ V[n].a≤at_) j (hj:j < V.length) (hjk:n≤j)=>show at_ < V[j].a by
    by_cases e:j=n
    ·subst e;omega
    ·exact hall.out j hj (by omega))
   clear hall hni hk0
   have hni2:(n:Int) < (V.length:Int):=by omega
   generalize V[n]=y at c0 c1 c2 c3 c4 c5 HHit HNo
   by_cases hq:y.a≤at_
   ·have HX:=Lib.hid (HHit.out hq)
    clear HHit HNo
    obtain ⟨r0,r1,r2,r3,r4,r5⟩:=HZ1.out.cells
    have z0:=HZ1.out.free 0;have z1:=HZ1.out.free 1;have z2:=HZ1.out.free 2;have z3:=HZ1.out.free 3;have z4:=HZ1.out.free 4;have z5:=HZ1.out.free 5
    have hzl:=HZ1.out.lt
    go_wp2
    exact bodyPost_ret (v:=.tuple #[.agg #[.int .i64 y.h,.int .i64 y.a,.int .i64 y.k,.string y.p,.int .i64 y.g,.int .i64 y.d],.bool true]) (by simp [results,Tryz.results30,go_sem,r0,r1,r2,r3,r4,r5]) rfl ⟨by rw [HX.out.1,HX.out.2];first | done | rfl,((((((HB1.out.setCell (by dsimp only;omega) _).setCell (by dsimp only;omega) _).setCell (by dsimp only;omega) _).setCell (by dsimp only;omega) _).setCell (by dsimp only;omega) _).setCell (by dsimp only;omega) _)⟩
   ·have HX:=Lib.hid (HNo.out hq)
    clear HHit HNo
    go_wp2
    go_roundw
    case rel=>exact ⟨n,by go_num,by omega,HX,trivial⟩
    case measure=>simp [intOf]
end Go.Proofs.YtinijleelhbpoaaGreat

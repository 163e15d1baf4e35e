/- The contract of impl.underWay. -/
import Derived.Test.YtinijleelhbpoaaGreatBelT
import Derived.Test.YtinijleelhbpoaaGreatApp
namespace Go.Proofs.YtinijleelhbpoaaGreat
open Go.RowKit
theorem one_tp9 (t:Tp):∀ u ∈ tpC t,u.oneCell'=true:=by
 intro u hu
 simp only [tpC,List.mem_cons,List.not_mem_nil,or_false] at hu
 rcases hu with rfl | rfl <;> rfl
def preF (n:Nat) (f:Tp→Bool) (d g:Nat):List Tp:=(preT n d g).filter f
theorem preF_zero (n:Nat) (f:Tp→Bool):preF n f 0 0=[]:=rfl
theorem preF_day (n:Nat) (f:Tp→Bool) (d:Nat):preF n f (d+1) 0=preF n f d n:=by unfold preF;rw [preT_day]
theorem preF_yes {n:Nat} {f:Tp→Bool} {d g:Nat} (h:f ⟨(g:Int),(d:Int)⟩=true):preF n f d (g+1)=preF n f d g ++ [⟨(g:Int),(d:Int)⟩]:=by
 unfold preF;rw [preT_step,List.filter_append];simp [h]
theorem preF_no {n:Nat} {f:Tp→Bool} {d g:Nat} (h:f ⟨(g:Int),(d:Int)⟩=false):preF n f d (g+1)=preF n f d g:=by
 unfold preF;rw [preT_step,List.filter_append];simp [h]
theorem preF_len {n:Nat} {f:Tp→Bool} {d g:Nat} (hn:n≤20) (hd:d≤61) (hg:g≤n):(preF n f d g).length≤1300:=by
 refine Nat.le_trans (List.length_filter_le _ _) ?_
 rw [preT_len]
 have:d*n≤61*20:=Nat.mul_le_mul hd hn
 omega
set_option maxRecDepth 100000 in
set_option maxHeartbeats 4000000 in
theorem under_impl (at_:Int) (A:Option Addr) (ca:Nat) (l:List Lg) (D:Option Addr) (cd:Nat) (zs:List Int) (x:Int) (w:World) (hA:InK 6 lgC w A l) (hD:IntsIn w D zs) (hn:l.length≤1048576) (hm:zs.length≤1048576) (hN:netB l zs x=true) :
  Calls Tryz.prog 213 #[.agg #[.slice A l.length ca,.slice D zs.length cd,.int .i64 x],.int .i64 at_] w fun e w'=>∃ v,e=.returned v∧OwnKtp w' w.heap.size v (undT l zs at_)∧Below w.heap.size w w':=by
 obtain ⟨i0,hi0,hz0,hz1,hz2⟩:=info_parts tp_info
 have hl20:=(net_at hN).1
 have HST:=Lib.hid (fun k (hk:k < l.length) (d:Nat) (hd:d≤60) W (h1:InK 6 lgC W A l) (h2:IntsIn W D zs)=>start_impl A ca l D cd zs x k (d:Int) W h1 h2 hk hn ⟨by omega,by omega⟩ (leg_bd ((net_at hN).2.1 k hk)).1)
 have HEN:=Lib.hid (fun k (hk:k < l.length) (d:Nat) (hd:d≤60) W (h1:InK 6 lgC W A l) (h2:IntsIn W D zs)=>end_impl A ca l D cd zs x k (d:Int) W h1 h2 hk hn ⟨by omega,by omega⟩ (leg_bd ((net_at hN).2.1 k hk)).1 (leg_bd ((net_at hN).2.1 k hk)).2.1)
 have HRU:=Lib.hid (fun k (hk:k < l.length) (d:Nat) (hd:d≤60) W (h1:InK 6 lgC W A l) (h2:IntsIn W D zs)=>runs_impl A ca l D cd zs x k (d:Int) W h1 h2 hk hn hm ⟨by omega,by omega⟩)
 have HUD:=Lib.hid (fun k (hk:k < l.length) (d:Nat)=>show undB l zs at_ ⟨(k:Int),(d:Int)⟩=(decide ((d:Int)*1440+l[k].s≤at_) && (decide (at_ < (d:Int)*1440+l[k].s+l[k].k) && runB l[k] zs (d:Int))) by unfold undB trS trE;dsimp only;rw [lgAt_get hk])
 have HY:=Lib.hid (fun d g h=>preF_yes (n:=l.length) (f:=undB l zs at_) (d:=d) (g:=g) h)
 have HNO:=Lib.hid (fun d g h=>preF_no (n:=l.length) (f:=undB l zs at_) (d:=d) (g:=g) h)
 have HPL:=Lib.hid (fun d g h1 h2=>preF_len (n:=l.length) (f:=undB l zs at_) (d:=d) (g:=g) hl20 h1 h2)
 have HPD:=Lib.hid (fun d=>preF_day l.length (undB l zs at_) d)
 have HRS:=Lib.hid (show undT l zs at_=preF l.length (undB l zs at_) 61 0 from rfl)
 have HO0:=Lib.hid (show OwnKtp _ _ _ (preF l.length (undB l zs at_) 0 0) from OwnK.fresh (w.alloc (.cells #[.slice A l.length ca,.slice D zs.length cd,.int .i64 x] 27)) 32 2 tpC)
 have FN0:=Lib.hid (Box3.new (T:=27) (v0:=.slice A l.length ca) (v1:=.slice D zs.length cd) (v2:=.int .i64 x) w)
 have hb0:=(Below.refl w.heap.size w).alloc (Nat.le_refl _) (.cells #[.slice A l.length ca,.slice D zs.length cd,.int .i64 x] 27)
 have hz0':(w.alloc (.cells #[.slice A l.length ca,.slice D zs.length cd,.int .i64 x] 27)).heap.size=w.heap.size+1:=by simp
 have hb1:=(Below.refl (w.alloc (.cells #[.slice A l.length ca,.slice D zs.length cd,.int .i64 x] 27)).heap.size (w.alloc (.cells #[.slice A l.length ca,.slice D zs.length cd,.int .i64 x] 27))).alloc (Nat.le_refl _) (.cells #[] 32)
 have HB0:=Lib.hid (hb0.trans (hb1.mono hb0.size))
 replace FN0:=Lib.hid (FN0.out.below hb1)
 have HA:=Lib.hid hA;have HD:=Lib.hid hD
 clear hA hD hb0 hb1 hN
 rw [hz0'] at HO0
 clear hz0'
 generalize undB l zs at_=U at *
 generalize hB:w.heap.size=B at *
 have HBE:=Lib.hid hB
 go_enter Tryz.func213,Tryz.ntmps213
 go_wp2
 clear hB
 generalize (w.alloc (.cells #[.slice A l.length ca,.slice D zs.length cd,.int .i64 x] 27)).alloc (.cells #[] 32)=W0 at *
 obtain ⟨V0,hV0⟩:∃ V0:Value,V0=.slice (some ⟨B+1,0,none⟩) 0 0:=⟨_,rfl⟩
 rw [← hV0] at HO0
 rw [← hV0]
 clear hV0
 go_loopw [10,5] (fun i v wr=>∃ d:Nat,i=.int .i64 d∧d≤61∧Hid (OwnKtp wr (B+1) v (preF l.length U d 0))∧Hid (Below B w wr)∧Hid (Box3 27 wr B (.slice A l.length ca) (.slice D zs.length cd) (.int .i64 x))) (fun i _ _=>61 - (intOf i).toNat)
 case atStart=>exact ⟨0,rfl,by omega,HO0,HB0,FN0⟩
 case round =>
  clear HO0 HB0 FN0
  obtain ⟨d,rfl,hd,ho,hbw,hnw⟩:=hrel
  by_cases hlt:(d:Int) < 61
  ·have hd60:d≤60:=by omega
   obtain ⟨n0,n1,n2⟩:=hnw.out.cells
   go_wp2
   clear n0 n1 n2
   generalize wr=wo at *
   go_loopw [16,5] (fun i v wr=>∃ k:Nat,i=.int .i64 k∧k≤l.length∧Hid (OwnKtp wr (B+1) v (preF l.length U d k))∧Hid (Below B w wr)∧Hid (Box3 27 wr B (.slice A l.length ca) (.slice D zs.length cd) (.int .i64 x))) (fun i _ _=>l.length - (intOf i).toNat)
   case atStart=>exact ⟨0,rfl,Nat.zero_le _,ho,hbw,hnw⟩
   case round =>
    clear ho hbw hnw
    obtain ⟨k,rfl,hk,ho,hbw,hnw⟩:=hrel
    by_cases hlk:(k:Int) < (l.length:Int)
    ·have hkn:k < l.length:=by omega
     have hlen:=HPL.out d k hd hk
     have hBr:=hnw.out.lt
     have FT:=Lib.hid (Box2.new (T:=32) (v0:=.int .i64 (k:Int)) (v1:=.int .i64 (d:Int)) wr)
     have hba:=(Below.refl wr.heap.size wr).alloc (Nat.le_refl _) (.cells #[.int .i64 (k:Int),.int .i64 (d:Int)] 32)
     have HO:=Lib.hid (OwnK.below ho.out hba);have HB:=Lib.hid (hbw.out.trans (hba.mono (by omega)));have FN:=Lib.hid (hnw.out.below hba)
     have hb':Below w.heap.size w (wr.alloc (.cells #[.int .i64 (k:Int),.int .i64 (d:Int)] 32)):=by rw [HBE.out];exact HB.out
     have HAw:=Lib.hid (HA.out.below hb');have HDw:=Lib.hid (HD.out.below hb')
     have HS:=Lib.hid (HST.out k hkn d hd60);have HE:=Lib.hid (HEN.out k hkn d hd60);have HR:=Lib.hid (HRU.out k hkn d hd60)
     have HU:=Lib.hid (HUD.out k hkn d)
     have HY1:=Lib.hid (HY.out d k);have HN1:=Lib.hid (HNO.out d k)
     clear ho hbw hnw hba hb'
     generalize preF l.length U d k=F at *
     generalize l[k]=y at *
     generalize U ⟨(k:Int),(d:Int)⟩=u at *
     generalize (d:Int)*1440+y.s=S at *
     generalize S+y.k=Z at *
     generalize runB y zs (d:Int)=R at *
     have hsz:(wr.alloc (.cells #[.int .i64 (k:Int),.int .i64 (d:Int)] 32)).heap.size=wr.heap.size+1:=by simp
     have hXB:B < wr.heap.size:=hBr
     obtain ⟨n0,n1,n2⟩:=FN.out.cells
     obtain ⟨t0,t1⟩:=FT.out.cells
     go_wp2_with fail
     clear n0 n1 n2 t0 t1
     generalize wr.heap.size=X at *
     generalize wr.alloc (.cells #[.int .i64 (k:Int),.int .i64 (d:Int)] 32)=w1 at *
     refine (HS.out w1 HAw.out HDw.out).mono ?_;rintro e w2 ⟨rfl,hb⟩
     replace HO:=Lib.hid (OwnK.below HO.out hb);replace HB:=Lib.hid (HB.out.trans (hb.mono (by omega)));replace FN:=Lib.hid (FN.out.below hb);replace FT:=Lib.hid (FT.out.below hb);replace HAw:=Lib.hid (HAw.out.below hb);replace HDw:=Lib.hid (HDw.out.below hb);have hs2:=hb.size
     clear hb HS
     obtain ⟨n0,n1,n2⟩:=FN.out.cells
     obtain ⟨t0,t1⟩:=FT.out.cells
     by_cases hS:S≤at_
     ·have hSd:decide (S≤at_)=true:=decide_eq_true hS
      rw [hSd,Bool.true_and] at HU
      go_wp2_with fail
      refine (HE.out w2 HAw.out HDw.out).mono ?_;rintro e w3 ⟨rfl,hb⟩
      replace HO:=Lib.hid (OwnK.below HO.out hb);replace HB:=Lib.hid (HB.out.trans (hb.mono (by omega)));replace FN:=Lib.hid (FN.out.below hb);replace FT:=Lib.hid (FT.out.below hb);replace HAw:=Lib.hid (HAw.out.below hb);replace HDw:=Lib.hid (HDw.out.below hb);have hs3:=hb.size
      clear hb HE n0 n1 n2 t0 t1
      obtain ⟨n0,n1,n2⟩:=FN.out.cells
      obtain ⟨t0,t1⟩:=FT.out.cells
      by_cases hZ:at_ < Z
      ·have hZd:decide (at_ < Z)=true:=decide_eq_true hZ
       rw [hZd,Bool.true_and] at HU
       go_wp2_with fail
       refine (HR.out w3 HAw.out HDw.out).mono ?_;rintro e w4 ⟨rfl,hb⟩
       replace HO:=Lib.hid (OwnK.below HO.out hb);replace HB:=Lib.hid (HB.out.trans (hb.mono (by omega)));replace FN:=Lib.hid (FN.out.below hb);replace FT:=Lib.hid (FT.out.below hb);have hs4:=hb.size
       clear hb HR n0 n1 n2 t0 t1 HAw HDw
       obtain ⟨t0,t1⟩:=FT.out.cells
       cases R with
       | true =>
        have HF:=Lib.hid (HY1.out HU.out)
        clear HY1 HN1 HU
        obtain ⟨n,hn'⟩:∃ n,n=F.length:=⟨_,rfl⟩
        have hnk:n≤1300:=by omega
        have HNL:=Lib.hid hn'.symm
        clear hn' hlen
        have HO1:=Lib.hid (World.ownsRow.alloc (OwnK.atN HO.out HNL.out) (.cells #[.int .i64 (k:Int),.int .i64 (d:Int)] 32))
        have hbx:=(Below.refl w4.heap.size w4).alloc (Nat.le_refl _) (.cells #[.int .i64 (k:Int),.int .i64 (d:Int)] 32)
        go_wp2_with (at_builtin;refine wpList_append_own _ rfl _ _ 48 rfl (B+1) 32 i0 _ 2 16 Tryz.underlying48 hi0 hz0 hz1 hz2 rfl (by decide) _ n (F.flatMap tpC) rfl HO1.out ⟨w4.heap.size,0,none⟩ 1 1 (tpC ⟨(k:Int),(d:Int)⟩) rfl rfl (enc_news _ _ _) (one_tp9 _) (by unfold maxLen;omega) (by omega) (by rw [World.size_alloc];omega) ?_;intro v' w5 hown' hgr hnil)
        have HB5:=Lib.hid ((HB.out.trans (hbx.mono (by omega))).grown hgr (by rw [World.size_alloc];omega) (fun q h=>by have:=(World.ownsRow.lt HO.out q h).1;omega))
        have FN5:=Lib.hid ((FN.out.below hbx).apart hgr (fun h=>by have:=(World.ownsRow.lt HO.out B h.symm).1;omega))
        go_roundw
        case rel=>exact ⟨k+1,by go_num,by omega,Lib.hid (by rw [HF.out];exact OwnK.push hown' HNL.out),HB5,FN5⟩
        case measure=>simp [intOf];omega
       | false =>
        have HF:=Lib.hid (HN1.out HU.out)
        go_wp2
        go_roundw
        case rel=>exact ⟨k+1,by go_num,by omega,Lib.hid (by rw [HF.out];exact HO.out),HB,FN⟩
        case measure=>simp [intOf];omega
      ·have hZd:decide (at_ < Z)=false:=decide_eq_false hZ
       rw [hZd,Bool.false_and] at HU
       have HF:=Lib.hid (HN1.out HU.out)
       go_wp2
       go_roundw
       case rel=>exact ⟨k+1,by go_num,by omega,Lib.hid (by rw [HF.out];exact HO.out),HB,FN⟩
       case measure=>simp [intOf];omega
     ·have hSd:decide (S≤at_)=false:=decide_eq_false hS
      rw [hSd,Bool.false_and] at HU
      have HF:=Lib.hid (HN1.out HU.out)
      go_wp2
      go_roundw
      case rel=>exact ⟨k+1,by go_num,by omega,Lib.hid (by rw [HF.out];exact HO.out),HB,FN⟩
      case measure=>simp [intOf];omega
    ·obtain rfl:k=l.length:=by omega
     go_wp2
     go_roundw
     case rel=>exact ⟨d+1,by go_num,by omega,Lib.hid (by rw [HPD.out];exact ho.out),hbw,hnw⟩
     case measure=>simp [intOf];omega
  ·obtain rfl:d=61:=by omega
   go_wp2
   go_ret
   exact ⟨_,rfl,by rw [HRS.out];exact OwnK.mono ho.out (by omega),hbw.out⟩
end Go.Proofs.YtinijleelhbpoaaGreat

/- Comparing, marking and holding texts and beliefs of the call's own. -/
import Derived.Test.YtinijleelhbpoaaGreatMark
import Derived.Test.YtinijleelhbpoaaGreatTripMk
import Derived.Test.YtinijleelhbpoaaGreatBc
namespace Go.Proofs.YtinijleelhbpoaaGreat
open Go.RowKit
section
variable {w w':World} {b g:Nat} {v u:Value} {l:List ByteArray}
theorem OwnStr.below (h:OwnStr w b v l) (hb:Below w.heap.size w w'):OwnStr w' b v l:=own_below h hb
theorem OwnStr.besides (h:OwnStr w b v l) (hg:w.grownBy w' (some g)) (hd:∀ q,v.ownBlock=some q→g ≠ q):OwnStr w' b v l:=row_besides h hg hd
theorem OwnStr.apart (h:OwnStr w b v l) (hg:w.grownBy w' u.ownBlock) (hd:∀ q,v.ownBlock=some q→u.ownBlock ≠ some q):OwnStr w' b v l:=row_apart h hg hd
end
theorem eqo_st (u v:Value) (l:List ByteArray) (b c:Nat) (w:World) (hu:OwnStr w b u l) (hv:OwnStr w c v l) (hn:l.length≤1048576) :
  Calls Tryz.prog 67 #[u,v] w fun e w'=>e=.returned (.bool true)∧Below w.heap.size w w':=eq_strs u v l b c w hu hv (by omega)
theorem mark_st (v:Value) (k0 b:Nat) (l:List ByteArray) (w:World) (hv:OwnStr w b v l) (hn:l.length≤1048576) (h0:0 < k0) (hk:k0≤1000000) :
  Calls Tryz.prog 68 #[v,.int .i64 k0] w fun e w'=>e=.returned (.int .i64 ((k0+l.length:Nat):Int))∧OwnStr w' b v (mks k0 l.length)∧w.grownBy w' v.ownBlock:=by
 by_cases hl:l=[]
 ·subst hl
  obtain ⟨A,cap,rfl⟩:=own_empty hv
  refine (mark_none A cap k0 w).mono ?_
  rintro e w' ⟨rfl,rfl⟩
  exact ⟨rfl,hv,⟨rfl,rfl,rfl,Nat.le_refl _,fun _ _ _=>rfl⟩⟩
 ·obtain ⟨g,cap,rfl,_⟩:=own_slice hv hl
  exact mark_strs g cap k0 b l w hv (by omega) h0 hk
theorem held_st (v:Value) (k0 b n:Nat) (w:World) (hv:OwnStr w b v (mks k0 n)) (hn:n≤1048576) (h0:0 < k0) (hk:k0≤1000000) :
  Calls Tryz.prog 69 #[v,.int .i64 k0] w fun e w'=>e=.returned (.int .i64 ((k0+n:Nat):Int))∧Below w.heap.size w w':=by
 have hl:(mks k0 n).length=n:=by simp [mks]
 by_cases h:mks k0 n=[]
 ·have hn0:n=0:=by rw [← hl,h];rfl
  subst hn0
  obtain ⟨A,cap,rfl⟩:=own_empty (show OwnStr w b v [] from h ▸ hv)
  refine (held_none A cap k0 w).mono ?_
  rintro e w' ⟨rfl,rfl⟩
  exact ⟨rfl,Below.refl _ _⟩
 ·obtain ⟨g,cap,rfl,_⟩:=own_slice hv h
  rw [hl] at hv ⊢
  exact held_strs g cap k0 b n w hv (by omega) h0 hk
set_option maxRecDepth 100000 in
theorem eq_bel (A1 A2 B1 B2:Option Addr) (n1 n2 m1 m2:Nat) (l:List ByteArray) (ts:List Tp) (b1 b2 c1 c2:Nat) (w:World) (h1:OwnStr w b1 (.slice A1 l.length n1) l) (h2:OwnStr w c1 (.slice B1 l.length m1) l) (h3:OwnKtp w b2 (.slice A2 ts.length n2) ts) (h4:OwnKtp w c2 (.slice B2 ts.length m2) ts) (hl:l.length≤1048576) (ht:ts.length≤1048576) :
  Calls Tryz.prog 57 #[.agg #[.slice A1 l.length n1,.slice A2 ts.length n2],.agg #[.slice B1 l.length m1,.slice B2 ts.length m2]] w fun e w'=>e=.returned (.bool true)∧Below w.heap.size w w':=by
 have H2:=two w (.cells #[.slice A1 l.length n1,.slice A2 ts.length n2] 56) (.cells #[.slice B1 l.length m1,.slice B2 ts.length m2] 56)
 have FA:=Lib.hid (show Box2 56 _ w.heap.size _ _ from H2.1);have FB:=Lib.hid (show Box2 56 _ (w.heap.size+1) _ _ from H2.2.1);have hb0:=H2.2.2.1
 clear H2
 have HE1:=Lib.hid (eqo_st _ _ l b1 c1 _ (own_below h1 hb0) (own_below h2 hb0) hl)
 have HO3:=Lib.hid (OwnK.below h3 hb0);have HO4:=Lib.hid (OwnK.below h4 hb0)
 have HB:=Lib.hid hb0;have HL:=Lib.hid hb0.size
 clear h1 h2 h3 h4 hb0
 generalize hB:w.heap.size=B at *
 go_enter Tryz.func57,Tryz.ntmps57
 go_wp2_with fail
 clear hB
 generalize (w.alloc (.cells #[.slice A1 l.length n1,.slice A2 ts.length n2] 56)).alloc (.cells #[.slice B1 l.length m1,.slice B2 ts.length m2] 56)=w0 at *
 refine HE1.out.mono ?_;rintro e w1 ⟨rfl,hb⟩
 have HE2:=Lib.hid (eqo_tp _ _ ts b2 c2 w1 (OwnK.below HO3.out hb) (OwnK.below HO4.out hb) ht)
 replace FA:=Lib.hid (FA.out.below hb);replace FB:=Lib.hid (FB.out.below hb);replace HB:=Lib.hid (HB.out.trans (hb.mono HL.out));replace HL:=Lib.hid (Nat.le_trans HL.out hb.size)
 clear hb HE1 HO3 HO4
 obtain ⟨x0,x1⟩:=FA.out.cells
 obtain ⟨y0,y1⟩:=FB.out.cells
 go_wp2_with fail
 refine HE2.out.mono ?_;rintro e w2 ⟨rfl,hb⟩
 go_wp2
 go_ret
 exact ⟨rfl,HB.out.trans (hb.mono HL.out)⟩
set_option maxRecDepth 100000 in
theorem mark_bel (A1 A2:Option Addr) (n1 n2:Nat) (l:List ByteArray) (ts:List Tp) (b1 b2:Nat) (w:World) (h1:OwnStr w b1 (.slice A1 l.length n1) l) (h3:OwnKtp w b2 (.slice A2 ts.length n2) ts) (hl:l.length≤1048576) (ht:ts.length≤1048576) :
  Calls Tryz.prog 60 #[.agg #[.slice A1 l.length n1,.slice A2 ts.length n2],.int .i64 1] w fun e w'=>e=.returned (.int .i64 ((1+l.length+2*ts.length:Nat):Int))∧OwnStr w' b1 (.slice A1 l.length n1) (mks 1 l.length)∧OwnKtp w' b2 (.slice A2 ts.length n2) (mk_tp (1+l.length) ts.length)∧∃ u0 u,Below w.heap.size w u0∧u0.grownBy u (Value.slice A1 l.length n1).ownBlock∧u.grownBy w' (Value.slice A2 ts.length n2).ownBlock:=by
 have hb0:=(Below.refl w.heap.size w).alloc (Nat.le_refl _) (.cells #[.slice A1 l.length n1,.slice A2 ts.length n2] 56)
 have FA:=Lib.hid (Box2.new (T:=56) (v0:=.slice A1 l.length n1) (v1:=.slice A2 ts.length n2) w)
 have HX:=Lib.hid (rows_apart h1 h3 (by decide))
 have HQ:=Lib.hid (fun q e=>(World.ownsRow.lt h1 q e).2)
 have HM1:=Lib.hid (mark_st _ 1 b1 l _ (own_below h1 hb0) hl (by omega) (by omega))
 have HO3:=Lib.hid (OwnK.below h3 hb0)
 have HB:=Lib.hid hb0
 clear h1 h3 hb0
 go_enter Tryz.func60,Tryz.ntmps60
 go_wp2_with fail
 refine HM1.out.mono ?_;rintro e w1 ⟨rfl,hm1,hg1⟩
 replace FA:=Lib.hid (FA.out.apart hg1 (fun e=>by have:=HQ.out _ e.symm;omega))
 have HO3':=Lib.hid (row_apart HO3.out hg1 (fun q e1 e2=>HX.out q e2 e1))
 have HM:=Lib.hid hm1;have HG:=Lib.hid hg1
 clear hm1 hg1 HM1
 have HM2:=Lib.hid (mark_tp _ (1+l.length) b2 ts w1 HO3'.out ht (by omega) (by omega))
 obtain ⟨x0,x1⟩:=FA.out.cells
 have hc:((1+l.length:Nat):Int)=1+(l.length:Int):=by omega
 go_wp2_with fail
 first
  | (refine HM2.out.mono ?_;rintro e w2 ⟨rfl,hm2,hg2⟩)
  | (rw [← hc];refine HM2.out.mono ?_;rintro e w2 ⟨rfl,hm2,hg2⟩)
 have hs:=row_apart HM.out hg2 HX.out
 go_wp2
 go_ret
 exact ⟨rfl,hs,hm2,_,w1,HB.out,HG.out,hg2⟩
set_option maxRecDepth 100000 in
theorem held_bel (A1 A2:Option Addr) (n1 n2 n m:Nat) (b1 b2:Nat) (w:World) (h1:OwnStr w b1 (.slice A1 n n1) (mks 1 n)) (h3:OwnKtp w b2 (.slice A2 m n2) (mk_tp (1+n) m)) (hl:n≤1048576) (ht:m≤1048576) :
  Calls Tryz.prog 61 #[.agg #[.slice A1 n n1,.slice A2 m n2],.int .i64 1] w fun e w'=>e=.returned (.int .i64 ((1+n+2*m:Nat):Int))∧Below w.heap.size w w':=by
 have hb0:=(Below.refl w.heap.size w).alloc (Nat.le_refl _) (.cells #[.slice A1 n n1,.slice A2 m n2] 56)
 have FA:=Lib.hid (Box2.new (T:=56) (v0:=.slice A1 n n1) (v1:=.slice A2 m n2) w)
 have HM1:=Lib.hid (held_st _ 1 b1 n _ (own_below h1 hb0) hl (by omega) (by omega))
 have HO3:=Lib.hid (OwnK.below h3 hb0)
 have HB:=Lib.hid hb0
 clear h1 h3 hb0
 go_enter Tryz.func61,Tryz.ntmps61
 go_wp2_with fail
 refine HM1.out.mono ?_;rintro e w1 ⟨rfl,hb⟩
 replace FA:=Lib.hid (FA.out.below hb)
 have HM2:=Lib.hid (held_tp _ (1+n) b2 m w1 (OwnK.below HO3.out hb) ht (by omega) (by omega))
 replace HB:=Lib.hid (HB.out.trans (hb.mono HB.out.size))
 clear hb HM1 HO3
 obtain ⟨x0,x1⟩:=FA.out.cells
 obtain ⟨q,hq⟩:∃ q:Nat,q=1+n:=⟨_,rfl⟩
 rw [← hq] at HM2 ⊢
 have hqn:¬ (q:Int) < 0:=by omega
 have hqd:decide ((q:Int) < 0)=false:=decide_eq_false hqn
 have HQE:=Lib.hid hq;clear hq
 go_wp2_with fail
 refine HM2.out.mono ?_;rintro e w2 ⟨rfl,hb⟩
 have hrn:¬ ((q+2*m:Nat):Int) < 0:=by omega
 replace HB:=Lib.hid (HB.out.trans (hb.mono HB.out.size))
 clear hb HM2
 obtain ⟨r,hr⟩:∃ r:Nat,r=q+2*m:=⟨_,rfl⟩
 rw [← hr] at hrn ⊢
 have HRE:=Lib.hid hr;clear hr
 go_wp2
 go_ret
 exact ⟨congrArg (fun v:Nat=>Ending.returned (.int .i64 (v:Int))) (show r=1+n+2*m by rw [HRE.out,HQE.out]),HB.out⟩
end Go.Proofs.YtinijleelhbpoaaGreat

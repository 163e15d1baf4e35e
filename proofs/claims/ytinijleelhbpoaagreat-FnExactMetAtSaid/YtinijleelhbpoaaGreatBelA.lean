/- What may be believed, the plain mathematics without scans. -/
import Derived.Test.YtinijleelhbpoaaGreatBi
namespace Go.Proofs.YtinijleelhbpoaaGreat
open Go.RowKit
theorem filter_one {α:Type} [DecidableEq α] (q:α):∀ L:List α,L.Nodup→q ∈ L→L.filter (fun p=>decide (p=q))=[q]
 | [],_,h=>absurd h (by simp)
 | a :: L,hn,h=>by
  rw [List.nodup_cons] at hn
  by_cases e:a=q
  ·subst e
   rw [List.filter_cons_of_pos (by simp)]
   congr 1
   rw [List.filter_eq_nil_iff]
   intro p hp he
   have:=of_decide_eq_true he
   subst this
   exact hn.1 hp
  ·rw [List.filter_cons_of_neg (by simpa using e)]
   exact filter_one q L hn.2 ((List.mem_cons.1 h).resolve_left (fun h=>e h.symm))
theorem filter_none {α:Type} {f:α→Bool} {L:List α} (h:∀ p ∈ L,f p=false):L.filter f=[]:=by
 rw [List.filter_eq_nil_iff]
 intro p hp
 rw [h p hp]
 exact Bool.false_ne_true
def rowT (n d:Nat):List Tp:=(List.range n).map fun g:Nat=>(⟨(g:Int),(d:Int)⟩:Tp)
def preT (n d g:Nat):List Tp:=(List.range d).flatMap (rowT n) ++ rowT g d
def allT (n:Nat):List Tp:=preT n 61 0
theorem preT_zero (n:Nat):preT n 0 0=[]:=rfl
theorem preT_step (n d g:Nat):preT n d (g+1)=preT n d g ++ [⟨(g:Int),(d:Int)⟩]:=by
 simp [preT,rowT,List.range_succ]
theorem preT_day (n d:Nat):preT n (d+1) 0=preT n d n:=by
 simp [preT,rowT,List.range_succ]
theorem preT_mem {n d g:Nat} {t:Tp}:t ∈ preT n d g ↔ ∃ a b:Nat,t.g=a∧t.d=b∧((b < d∧a < n) ∨ (b=d∧a < g)):=by
 simp only [preT,rowT,List.mem_append,List.mem_flatMap,List.mem_map,List.mem_range]
 constructor
 ·rintro (⟨b,hb,a,ha,rfl⟩ | ⟨a,ha,rfl⟩)
  ·exact ⟨a,b,rfl,rfl,Or.inl ⟨hb,ha⟩⟩
  ·exact ⟨a,d,rfl,rfl,Or.inr ⟨rfl,ha⟩⟩
 ·rintro ⟨a,b,h1,h2,(⟨hb,ha⟩ | ⟨rfl,ha⟩)⟩
  ·exact Or.inl ⟨b,hb,a,ha,by cases t;simp_all⟩
  ·exact Or.inr ⟨a,ha,by cases t;simp_all⟩
theorem allT_mem {n:Nat} {t:Tp}:t ∈ allT n ↔ ∃ a b:Nat,t.g=a∧t.d=b∧b≤60∧a < n:=by
 unfold allT
 rw [preT_mem]
 constructor
 ·rintro ⟨a,b,h1,h2,(⟨hb,ha⟩ | ⟨_,ha⟩)⟩
  ·exact ⟨a,b,h1,h2,by omega,ha⟩
  ·omega
 ·rintro ⟨a,b,h1,h2,hb,ha⟩
  exact ⟨a,b,h1,h2,Or.inl ⟨by omega,ha⟩⟩
theorem rowT_nodup (n d:Nat):(rowT n d).Nodup:=by
 unfold rowT List.Nodup
 rw [List.pairwise_map]
 exact List.nodup_range.imp (fun h e=>h (by injection e with e1 _;omega))
theorem allT_nodup (n:Nat):(allT n).Nodup:=by
 unfold allT preT
 rw [show rowT 0 61=[] from rfl,List.append_nil]
 unfold List.Nodup
 rw [List.pairwise_flatMap]
 refine ⟨fun d _=>rowT_nodup n d,List.nodup_range.imp (fun {a b} h x hx y hy e=>h ?_)⟩
 subst e
 simp only [rowT,List.mem_map] at hx hy
 obtain ⟨p,_,rfl⟩:=hx
 obtain ⟨q,_,e⟩:=hy
 injection e with _ e2
 omega
theorem preT_len (n d g:Nat):(preT n d g).length=d*n+g:=by
 unfold preT rowT
 rw [List.length_append,List.length_map,List.length_range]
 congr 1
 induction d with
 | zero=>simp
 | succ d ih=>rw [List.range_succ,List.flatMap_append,List.length_append,ih];simp [Nat.succ_mul]
theorem preT_pre (n d g:Nat) (hd:d≤60) (hg:g≤n):preT n d g <+: allT n:=by
 have row:∀ g,g≤n→preT n d g <+: preT n d n:=fun g hg=>by
  obtain ⟨k,rfl⟩:∃ k,n=g+k:=⟨n - g,by omega⟩
  clear hg
  have:∀ k m,preT m d g <+: preT m d (g+k):=fun k m=>by
   induction k with
   | zero=>exact List.prefix_rfl
   | succ k ih=>rw [show g+(k+1)=(g+k)+1 from rfl,preT_step];exact ih.trans (List.prefix_append _ _)
  exact this k _
 have day:∀ j,preT n (d+1) 0 <+: preT n (d+1+j) 0:=fun j=>by
  induction j with
  | zero=>exact List.prefix_rfl
  | succ j ih =>
   rw [show d+1+(j+1)=(d+1+j)+1 from rfl,preT_day n (d+1+j)]
   refine ih.trans ?_
   unfold preT
   rw [show rowT 0 (d+1+j)=[] from rfl,List.append_nil]
   exact List.prefix_append _ _
 have h:=day (60 - d)
 rw [show d+1+(60 - d)=61 from by omega,preT_day] at h
 exact (row g hg).trans h
def meetB (l:List Lg) (zs:List Int) (x:Int) (P:ByteArray) (T:Int) (b:Sc) (more:Bool):Bool :=
 !more || (decide (0≤reachB l zs x P T (befP l zs x b)) && decide (reachB l zs x P T (befP l zs x b)≤befA l zs x b))
def mayAt (l:List Lg) (zs:List Int) (x:Int) (a:Sc) (ok:Bool) (b:Sc) (more:Bool) (at_:Int) (p:ByteArray):Bool :=
 if ok=false ∨ a.k=4 ∨ idxI (placesB l) p < 0 then false
 else if more=true∧b.k=2∧trS l ⟨b.g,b.d⟩≤at_ then decide (trE l ⟨b.g,b.d⟩≤at_) && decide (p=(lgAt l b.g).t)
 else if a.k=3∧at_ < trE l ⟨a.g,a.d⟩ then decide (at_ < trS l ⟨a.g,a.d⟩) && decide (p=(lgAt l a.g).f)
 else (decide (0≤reachB l zs x (behP l zs x a) (behA l zs x a) p) && decide (reachB l zs x (behP l zs x a) (behA l zs x a) p≤at_)) && meetB l zs x p at_ b more
def mayRide (l:List Lg) (zs:List Int) (x:Int) (a:Sc) (ok:Bool) (b:Sc) (more:Bool) (at_:Int) (t:Tp):Bool :=
 if trB l zs x t=false ∨ at_ < trS l t ∨ trE l t≤at_ then false
 else if ok=false ∨ a.k=4 then false
 else if more=true∧b.k=2∧trS l ⟨b.g,b.d⟩≤at_ then decide (b.g=t.g∧b.d=t.d)
 else if a.k=3∧at_ < trE l ⟨a.g,a.d⟩ then decide (a.g=t.g∧a.d=t.d)
 else (decide (0≤reachB l zs x (behP l zs x a) (behA l zs x a) (lgAt l t.g).f) && decide (reachB l zs x (behP l zs x a) (behA l zs x a) (lgAt l t.g).f≤trS l t)) && meetB l zs x (lgAt l t.g).t (trE l t) b more
def alP (l:List Lg) (t:Tp) (at_:Int):List ByteArray:=if at_ < trS l t then [(lgAt l t.g).f] else if at_ < trE l t then [] else [(lgAt l t.g).t]
def alR (l:List Lg) (t:Tp) (at_:Int):List Tp:=if at_ < trS l t then [] else if at_ < trE l t then [t] else []
def inT (l:List Lg) (zs:List Int) (x:Int) (P:ByteArray) (T:Int) (q:ByteArray) (U:Int):Bool:=decide (0≤earB l zs x P q T) && decide (earB l zs x P q T≤U)
def leadB (l:List Lg) (zs:List Int) (x:Int) (b:Sc) (more:Bool) (P:ByteArray) (T:Int):Bool:=!more || inT l zs x P T (befP l zs x b) (befA l zs x b)
def undB (l:List Lg) (zs:List Int) (at_:Int) (t:Tp):Bool:=decide (trS l t≤at_) && (decide (at_ < trE l t) && runB (lgAt l t.g) zs t.d)
def undT (l:List Lg) (zs:List Int) (at_:Int):List Tp:=(allT l.length).filter (undB l zs at_)
def freeP9 (l:List Lg) (zs:List Int) (x:Int) (P:ByteArray) (T at_:Int) (b:Sc) (more:Bool) (p:ByteArray):Bool:=inT l zs x P T p at_ && leadB l zs x b more p at_
def freeR9 (l:List Lg) (zs:List Int) (x:Int) (P:ByteArray) (T:Int) (b:Sc) (more:Bool) (t:Tp):Bool:=inT l zs x P T (lgAt l t.g).f (trS l t) && leadB l zs x b more (lgAt l t.g).t (trE l t)
theorem reach_in {l:List Lg} {zs:List Int} {x:Int} {P q:ByteArray} {T:Int} (hn:netB l zs x=true) (hp:P ∈ placesB l) (ht:0≤T∧T≤100000):reachB l zs x P T q=earB l zs x P q T:=by
 unfold reachB
 by_cases e:P=q
 ·rw [if_pos e,← e,ear_self hn hp ht]
 ·rw [if_neg e]
theorem tr_ends {l:List Lg} {zs:List Int} {x:Int} {t:Tp} (h:trB l zs x t=true):netB l zs x=true∧t ∈ allT l.length∧(lgAt l t.g).f ∈ placesB l∧(lgAt l t.g).t ∈ placesB l∧0≤trS l t∧trS l t < trE l t∧trE l t≤100000:=by
 obtain ⟨hn,hd,k,hg,hk,hl,_,h1,h2,h3⟩:=trB_of h
 refine ⟨hn,allT_mem.2 ⟨k,t.d.toNat,hg,by omega,by omega,hk⟩,?_,?_,h1,h2,h3⟩
 ·rw [hl];exact (pl_place (List.getElem_mem hk)).1
 ·rw [hl];exact (pl_place (List.getElem_mem hk)).2
theorem trB_run {l:List Lg} {zs:List Int} {x:Int} {t:Tp} (hn:netB l zs x=true) (h:t ∈ allT l.length):trB l zs x t=runB (lgAt l t.g) zs t.d:=by
 obtain ⟨a,b,h1,h2,hb,ha⟩:=allT_mem.1 h
 unfold trB ronB
 rw [hn,decide_eq_true (by omega),inB_iff.2 (show (0:Int)≤t.d∧t.d≤60 by omega)]
 rfl
theorem idx_in {l:List Lg} {p:ByteArray} (h:p ∈ placesB l):¬ idxI (placesB l) p < 0:=by
 obtain ⟨k,hk,_⟩:=idx_mem (pl_nodup l) h
 omega
theorem al_at {l:List Lg} {zs:List Int} {x:Int} {t:Tp} {at_:Int} (h:trB l zs x t=true):∀ (f:ByteArray→Bool),(∀ p ∈ placesB l,f p=if at_ < trS l t then decide (p=(lgAt l t.g).f) else (decide (trE l t≤at_) && decide (p=(lgAt l t.g).t)))→(placesB l).filter f=alP l t at_:=by
 intro f hf
 obtain ⟨_,_,hF,hT,_⟩:=tr_ends h
 rw [List.filter_congr hf]
 unfold alP
 by_cases h1:at_ < trS l t
 ·simp only [if_pos h1]
  exact filter_one _ _ (pl_nodup l) hF
 ·simp only [if_neg h1]
  by_cases h2:at_ < trE l t
  ·rw [if_pos h2]
   exact filter_none fun p _=>by rw [decide_eq_false (by omega)];rfl
  ·rw [if_neg h2]
   simp only [decide_eq_true (show trE l t≤at_ by omega),Bool.true_and]
   exact filter_one _ _ (pl_nodup l) hT
instance:DecidableEq Tp:=fun a b=>by
 cases a;cases b
 rename_i g d g' d'
 exact if h:g=g'∧d=d' then isTrue (by rw [h.1,h.2]) else isFalse (fun e=>h (by injection e with e1 e2;exact ⟨e1,e2⟩))
theorem al_ride {l:List Lg} {zs:List Int} {x:Int} {t:Tp} {at_:Int} (h:trB l zs x t=true):∀ (f:Tp→Bool),(∀ u ∈ allT l.length,f u=if trB l zs x u=false ∨ at_ < trS l u ∨ trE l u≤at_ then false else decide (t.g=u.g∧t.d=u.d))→(allT l.length).filter f=alR l t at_:=by
 intro f hf
 obtain ⟨_,hA,_⟩:=tr_ends h
 have hq:∀ u:Tp,decide (t.g=u.g∧t.d=u.d)=decide (u=t):=fun u=>by
  rw [decide_eq_decide]
  constructor
  ·rintro ⟨h1,h2⟩;cases t;cases u;simp_all
  ·rintro rfl;exact ⟨rfl,rfl⟩
 unfold alR
 by_cases h1:at_ < trS l t
 ·rw [if_pos h1]
  refine filter_none fun u hu=>?_
  rw [hf u hu]
  split
  ·rfl
  ·rename_i hno
   rw [hq,decide_eq_false]
   rintro rfl
   exact hno (Or.inr (Or.inl h1))
 ·rw [if_neg h1]
  by_cases h2:at_ < trE l t
  ·rw [if_pos h2,← filter_one t _ (allT_nodup l.length) hA]
   refine List.filter_congr fun u hu=>?_
   rw [hf u hu]
   split
   ·rename_i hno
    rw [eq_comm,decide_eq_false]
    rintro rfl
    rcases hno with h' | h' | h'
    ·rw [h] at h';cases h'
    ·omega
    ·omega
   ·exact hq u
  ·rw [if_neg h2]
   refine filter_none fun u hu=>?_
   rw [hf u hu]
   split
   ·rfl
   ·rename_i hno
    rw [hq,decide_eq_false]
    rintro rfl
    exact hno (Or.inr (Or.inr (by omega)))
end Go.Proofs.YtinijleelhbpoaaGreat

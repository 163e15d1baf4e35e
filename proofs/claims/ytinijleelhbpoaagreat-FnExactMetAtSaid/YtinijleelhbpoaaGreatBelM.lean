/- What may be believed, the plain mathematics. -/
import Derived.Test.YtinijleelhbpoaaGreatScLs
import Derived.Test.YtinijleelhbpoaaGreatBelA
namespace Go.Proofs.YtinijleelhbpoaaGreat
open Go.RowKit
def atC (l:List Lg) (zs:List Int) (x:Int) (C:List Sc) (at_:Int) (p:ByteArray):Bool:=mayAt l zs x (lsT C at_) (lsOk C at_) (nxT C at_) (nxOk C at_) at_ p
def rideC (l:List Lg) (zs:List Int) (x:Int) (C:List Sc) (at_:Int) (t:Tp):Bool:=mayRide l zs x (lsT C at_) (lsOk C at_) (nxT C at_) (nxOk C at_) at_ t
def belP (l:List Lg) (zs:List Int) (x:Int) (C:List Sc) (at_:Int):List ByteArray:=(placesB l).filter (atC l zs x C at_)
def belR (l:List Lg) (zs:List Int) (x:Int) (C:List Sc) (at_:Int):List Tp:=(allT l.length).filter (rideC l zs x C at_)
theorem clB_mem {l:List Lg} {zs:List Int} {x:Int} {ls:List Sc} {th:Int} {y:Sc} (h:y ∈ clB l zs x ls th):scB l zs x y=true:=by
 obtain ⟨j,hj,_,rfl⟩:=clU_mem _ (Nat.le_refl _) y h
 exact (scOf_mem (List.getElem_mem hj)).1
theorem ls_get {C:List Sc} {at_:Int} (h:lsOk C at_=true):∃ n,∃ hn:n < C.length,fstA C at_=n+1∧lsT C at_=C[n]∧C[n].a≤at_:=by
 have h1:fstA C at_ ≠ 0:=of_decide_eq_true h
 have hle:=fstA_le (C:=C) (at_:=at_)
 obtain ⟨n,e⟩:∃ n,fstA C at_=n+1:=⟨fstA C at_ - 1,by omega⟩
 have hn:n < C.length:=by omega
 refine ⟨n,hn,e,(ls_hit hn e).1,?_⟩
 have:=List.not_of_lt_findIdx (p:=fun y:Sc=>decide (at_ < y.a)) (xs:=C) (i:=n) (show n < fstA C at_ by omega)
 simpa using this
theorem nx_get {C:List Sc} {at_:Int} (h:nxOk C at_=true):∃ hn:fstA C at_ < C.length,nxT C at_=C[fstA C at_]∧at_ < C[fstA C at_].a:=by
 have h1:fstA C at_ < C.length:=of_decide_eq_true h
 refine ⟨h1,(nx_hit h1 rfl).1,?_⟩
 have:=List.findIdx_getElem (p:=fun y:Sc=>decide (at_ < y.a)) (xs:=C) (w:=h1)
 exact of_decide_eq_true this
theorem bel_none {l:List Lg} {zs:List Int} {x:Int} {C:List Sc} {at_:Int} (h:lsOk C at_=false ∨ (lsT C at_).k=4):belP l zs x C at_=[]∧belR l zs x C at_=[]:=by
 constructor
 ·refine filter_none fun p _=>?_
  unfold atC mayAt
  rw [if_pos (h.elim Or.inl (fun h=>Or.inr (Or.inl h)))]
 ·refine filter_none fun t _=>?_
  unfold rideC mayRide
  rw [if_pos h,ite_self]
theorem bel_drop {l:List Lg} {zs:List Int} {x:Int} {C:List Sc} {at_:Int} (ho:lsOk C at_=true) (h4:(lsT C at_).k ≠ 4) (hm:nxOk C at_=true) (hk:(nxT C at_).k=2) (hs:trS l ⟨(nxT C at_).g,(nxT C at_).d⟩≤at_) (ht:trB l zs x ⟨(nxT C at_).g,(nxT C at_).d⟩=true) :
  belP l zs x C at_=alP l ⟨(nxT C at_).g,(nxT C at_).d⟩ at_∧belR l zs x C at_=alR l ⟨(nxT C at_).g,(nxT C at_).d⟩ at_:=by
 constructor
 ·refine al_at ht _ fun p hp=>?_
  unfold atC mayAt
  rw [if_neg (by rw [ho];simp [h4,idx_in hp]),if_pos ⟨hm,hk,hs⟩,if_neg (by omega)]
 ·refine al_ride ht _ fun u hu=>?_
  unfold rideC mayRide
  rw [if_neg (show ¬ (lsOk C at_=false ∨ (lsT C at_).k=4) by rw [ho];simp [h4]),if_pos (show nxOk C at_=true∧(nxT C at_).k=2∧trS l ⟨(nxT C at_).g,(nxT C at_).d⟩≤at_ from ⟨hm,hk,hs⟩)]
theorem bel_load {l:List Lg} {zs:List Int} {x:Int} {C:List Sc} {at_:Int} (ho:lsOk C at_=true) (hk:(lsT C at_).k=3) (hd:¬ (nxOk C at_=true∧(nxT C at_).k=2∧trS l ⟨(nxT C at_).g,(nxT C at_).d⟩≤at_)) (hs:at_ < trE l ⟨(lsT C at_).g,(lsT C at_).d⟩) (ht:trB l zs x ⟨(lsT C at_).g,(lsT C at_).d⟩=true) :
  belP l zs x C at_=alP l ⟨(lsT C at_).g,(lsT C at_).d⟩ at_∧belR l zs x C at_=alR l ⟨(lsT C at_).g,(lsT C at_).d⟩ at_:=by
 have h4:(lsT C at_).k ≠ 4:=by omega
 constructor
 ·refine al_at ht _ fun p hp=>?_
  unfold atC mayAt
  rw [if_neg (by rw [ho];simp [h4,idx_in hp]),if_neg hd,if_pos ⟨hk,hs⟩]
  dsimp only at hs ⊢
  by_cases h1:at_ < trS l ⟨(lsT C at_).g,(lsT C at_).d⟩
  ·rw [if_pos h1,decide_eq_true h1];rfl
  ·rw [if_neg h1,decide_eq_false h1,decide_eq_false (show ¬ trE l ⟨(lsT C at_).g,(lsT C at_).d⟩≤at_ by omega)];rfl
 ·refine al_ride ht _ fun u hu=>?_
  unfold rideC mayRide
  rw [if_neg (show ¬ (lsOk C at_=false ∨ (lsT C at_).k=4) by rw [ho];simp [h4]),if_neg hd,if_pos (show (lsT C at_).k=3∧at_ < trE l ⟨(lsT C at_).g,(lsT C at_).d⟩ from ⟨hk,hs⟩)]
theorem bel_free {l:List Lg} {zs:List Int} {x:Int} {C:List Sc} {at_:Int} (hC:∀ y ∈ C,scB l zs x y=true) (ho:lsOk C at_=true) (h4:(lsT C at_).k ≠ 4) (hd:¬ (nxOk C at_=true∧(nxT C at_).k=2∧trS l ⟨(nxT C at_).g,(nxT C at_).d⟩≤at_)) (hl:¬ ((lsT C at_).k=3∧at_ < trE l ⟨(lsT C at_).g,(lsT C at_).d⟩)) :
  belP l zs x C at_=(placesB l).filter (freeP9 l zs x (behP l zs x (lsT C at_)) (behA l zs x (lsT C at_)) at_ (nxT C at_) (nxOk C at_)) ∧
  belR l zs x C at_=(undT l zs at_).filter (freeR9 l zs x (behP l zs x (lsT C at_)) (behA l zs x (lsT C at_)) (nxT C at_) (nxOk C at_)):=by
 obtain ⟨n,hn,_,e1,ha⟩:=ls_get ho
 have hv:scB l zs x (lsT C at_)=true:=by rw [e1];exact hC _ (List.getElem_mem hn)
 obtain ⟨hN,hB,hB0,hB1⟩:=beh_place hv
 have hup:nxOk C at_=true→at_≤100000:=fun h=>by
  obtain ⟨h1,_,h3⟩:=nx_get h
  have:=(scB_iff.1 (hC _ (List.getElem_mem h1))).2.2.1
  omega
 have hat:0≤at_:=by
  have:=(scB_iff.1 (hC _ (List.getElem_mem hn))).2.2.1
  omega
 have lead:∀ P T,P ∈ placesB l→0≤T∧T≤100000→meetB l zs x P T (nxT C at_) (nxOk C at_)=leadB l zs x (nxT C at_) (nxOk C at_) P T:=fun P T hP hT=>by
  unfold meetB leadB inT
  rw [reach_in hN hP hT]
 constructor
 ·refine List.filter_congr fun p hp=>?_
  unfold atC mayAt freeP9
  rw [if_neg (by rw [ho];simp [h4,idx_in hp]),if_neg hd,if_neg hl,reach_in hN hB ⟨hB0,hB1⟩]
  show (inT l zs x _ _ p at_ && _)=_
  congr 1
  cases hm:nxOk C at_ with
  | false=>rfl
  | true=>rw [← hm];exact lead p at_ hp ⟨hat,hup hm⟩
 ·unfold belR undT
  rw [List.filter_filter]
  refine List.filter_congr fun t ht=>?_
  unfold rideC mayRide undB
  by_cases hb:trB l zs x t=false ∨ at_ < trS l t ∨ trE l t≤at_
  ·rw [if_pos hb]
   rcases hb with h | h | h
   ·rw [trB_run hN ht] at h;rw [h];simp
   ·rw [decide_eq_false (show ¬ trS l t≤at_ by omega)];simp
   ·rw [decide_eq_false (show ¬ at_ < trE l t by omega)];simp
  ·rw [if_neg hb]
   have hb1:trB l zs x t=true:=by
    cases e:trB l zs x t with
    | false=>exact absurd (Or.inl e) hb
    | true=>rfl
   obtain ⟨_,_,_,hT,hS,hSE,hE⟩:=tr_ends hb1
   rw [if_neg (show ¬ (lsOk C at_=false ∨ (lsT C at_).k=4) by rw [ho];simp [h4]),if_neg hd,if_neg hl,reach_in hN hB ⟨hB0,hB1⟩,lead _ _ hT ⟨by omega,hE⟩,← trB_run hN ht,hb1,decide_eq_true (show trS l t≤at_ by omega),decide_eq_true (show at_ < trE l t by omega)]
   show freeR9 l zs x _ _ _ _ t=_
   simp
theorem belP_len {l:List Lg} {zs:List Int} {x:Int} {C:List Sc} {at_:Int}:(belP l zs x C at_).length≤2*l.length:=Nat.le_trans (List.length_filter_le _ _) (placesB_len l)
theorem belR_len {l:List Lg} {zs:List Int} {x:Int} {C:List Sc} {at_:Int}:(belR l zs x C at_).length≤61*l.length:=by
 refine Nat.le_trans (List.length_filter_le _ _) ?_
 unfold allT
 rw [preT_len]
 omega
theorem bel_len {l:List Lg} {zs:List Int} {x:Int} {C:List Sc} {at_:Int} (hC:∀ y ∈ C,scB l zs x y=true):(belP l zs x C at_).length≤40∧(belR l zs x C at_).length≤1220:=by
 cases ho:lsOk C at_ with
 | false =>
  rw [(bel_none (Or.inl ho)).1,(bel_none (Or.inl ho)).2]
  exact ⟨Nat.zero_le _,Nat.zero_le _⟩
 | true =>
  obtain ⟨n,hn,_⟩:=ls_get ho
  have h:=(net_at (scB_iff.1 (hC _ (List.getElem_mem hn))).1).1
  have h1:=belP_len (l:=l) (zs:=zs) (x:=x) (C:=C) (at_:=at_)
  have h2:=belR_len (l:=l) (zs:=zs) (x:=x) (C:=C) (at_:=at_)
  omega
end Go.Proofs.YtinijleelhbpoaaGreat

/- What is reached from a spot: reachedFrom, leadsTo, and their closures. Written by mk/belr.py. -/
import Derived.Test.YtinijleelhbpoaaGreatBelA
import Derived.Test.YtinijleelhbpoaaGreatBi
import Derived.Test.YtinijleelhbpoaaGreatBh
import Derived.Test.YtinijleelhbpoaaGreatBestA
import Derived.Test.YtinijleelhbpoaaGreatBg
import Derived.Test.YtinijleelhbpoaaGreatBa
import Derived.BigQuiet
import Derived.Shelf.Abstract
import Derived.Deep.RegionHeld3
namespace Go.Proofs.YtinijleelhbpoaaGreat
open Go.RowKit
def Box1 (T:TypeId) (W:World) (B:Nat) (v:Value):Prop:=W.heap[B]?=some (.cells #[v] T (0,0))
section
variable {T:TypeId} {W W':World} {B:Nat} {v:Value}
theorem Box1.lt (h:Box1 T W B v):B < W.heap.size:=(Array.getElem?_eq_some_iff.1 h).1
theorem Box1.below (h:Box1 T W B v) (hb:Below W.heap.size W W'):Box1 T W' B v:=(hb.block B h.lt).trans h
theorem Box1.cell (h:Box1 T W B v):W.cell? ⟨B,0,none⟩=some v:=by unfold Box1 at h;simp [World.cell?,h]
theorem Box1.free (h:Box1 T W B v):W.frozen? ⟨B,0,none⟩=false:=by unfold Box1 at h;simp [World.frozen?,h]
theorem Box1.new (w:World):Box1 T (w.alloc (.cells #[v] T)) w.heap.size v:=heap_alloc_new w _
theorem Box1.put {u:Value} (h:Box1 T W B u):Box1 T (W.setCell ⟨B,0,none⟩ v) B v:=heap_set h 0 v
end
def SaysT (gf:Nat) (lb:Array Value) (f:ByteArray→Int) (K:World→Prop):Prop :=
 ∀ (W:World) (q:ByteArray),K W→Calls Tryz.prog gf (#[.string q] ++ lb) W fun e w'=>e=.returned (.int .i64 (f q))∧Below W.heap.size W w'
def SaysL (gf:Nat) (lb:Array Value) (f:ByteArray→Int→Bool) (K:World→Prop):Prop :=
 ∀ (W:World) (P:ByteArray) (T:Int),P.size≤maxLen→-9223372036854775808≤T→K W→Calls Tryz.prog gf (#[.agg #[.string P,.int .i64 T]] ++ lb) W fun e w'=>e=.returned (.bool (f P T))∧Below W.heap.size W w'
structure ReachK (A:Option Addr) (ca:Nat) (l:List Lg) (D:Option Addr) (cd:Nat) (zs:List Int) (x:Int) (ts:List Int) (X Y:Nat) (W:World):Prop where
 n:Box3 27 W X (.slice A l.length ca) (.slice D zs.length cd) (.int .i64 x)
 g:InK 6 lgC W A l
 a:∃ E ce,Box1 25 W Y (.slice E ts.length ce)∧IntsIn W E ts
theorem ReachK.below {A:Option Addr} {ca:Nat} {l:List Lg} {D:Option Addr} {cd:Nat} {zs:List Int} {x:Int} {ts:List Int} {X Y:Nat} {W W':World} (h:ReachK A ca l D cd zs x ts X Y W) (hb:Below W.heap.size W W'):ReachK A ca l D cd zs x ts X Y W':=by
 obtain ⟨E,ce,h1,h2⟩:=h.a
 exact ⟨h.n.below hb,h.g.below hb,E,ce,h1.below hb,h2.below hb⟩
theorem in_bd {v:Int} {u:Int} (h:v=-1 ∨ 0≤v):(decide (v ≠ -1) && decide (v≤u))=(decide (0≤v) && decide (v≤u)):=by
 rcases h with h | h
 ·subst h;rfl
 ·rw [decide_eq_true h,decide_eq_true (show v ≠ -1 by omega)]
theorem is_reached (v u:Int) (h:v=-1 ∨ 0≤v) (w:World) :
  Calls Tryz.prog 212 #[.int .i64 v,.int .i64 u] w fun e w'=>e=.returned (.bool (decide (0≤v) && decide (v≤u)))∧Below w.heap.size w w':=by
 rw [← in_bd h]
 by_cases hv:v=-1
 ·subst hv
  go_enter Tryz.func212,Tryz.ntmps212
  go_wp2
  go_ret
  exact ⟨rfl,Below.refl _ _⟩
 ·have h1:(v != -1)=true:=by simp [hv]
  have HV:=Lib.hid (show (decide (v ≠ -1) && decide (v≤u))=decide (v≤u) by rw [decide_eq_true hv];rfl)
  rw [HV.out]
  clear hv h
  go_enter Tryz.func212,Tryz.ntmps212
  go_wp2
  go_ret
  exact ⟨rfl,Below.refl _ _⟩
theorem reach_says (A:Option Addr) (ca:Nat) (l:List Lg) (D:Option Addr) (cd:Nat) (zs:List Int) (x:Int) (hn:l.length≤1048576) (ts:List Int) (X Y:Nat):SaysT 180 #[.pointer (some ⟨X,0,none⟩),.pointer (some ⟨Y,0,none⟩)] (fun q=>timeB (placesB l) q ts) (ReachK A ca l D cd zs x ts X Y):=by
 intro W q hK
 obtain ⟨hN,hA,E,ce,hY,hE⟩:=hK
 have HTO:=Lib.hid (time_of q E ce ts A ca l D cd zs.length x W hA hE hn)
 obtain ⟨b0,b1,b2⟩:=hN.cells
 have y0:=hY.cell
 have hX:=hN.lt;have hYl:=hY.lt
 clear hN hA hY hE
 dsimp only
 generalize timeB (placesB l) q ts=V at *
 show Calls _ _ #[.string q,.pointer (some ⟨X,0,none⟩),.pointer (some ⟨Y,0,none⟩)] _ _
 go_enter Tryz.func180,Tryz.ntmps180
 go_wp2_with fail
 refine HTO.out.mono ?_;rintro e w1 ⟨rfl,hb⟩
 go_wp2
 go_ret
 exact ⟨rfl,hb⟩
set_option maxRecDepth 100000 in
set_option maxHeartbeats 4000000 in
theorem reached_from (P:ByteArray) (T:Int) (hf:P.size≤maxLen) (hat2:-9223372036854775808≤T) (A:Option Addr) (ca:Nat) (l:List Lg) (D:Option Addr) (cd:Nat) (zs:List Int) (x:Int) (w:World) (hA:InK 6 lgC w A l) (hD:IntsIn w D zs) (hs:∀ z ∈ l,z.f.size≤maxLen∧z.t.size≤maxLen) (hn:l.length≤1048576) (hm:zs.length≤1048576) :
  Calls Tryz.prog 129 #[.agg #[.slice A l.length ca,.slice D zs.length cd,.int .i64 x],.agg #[.string P,.int .i64 T]] w fun e w'=>∃ X Y,e=.returned (.func (.func 180) #[] #[.pointer (some ⟨X,0,none⟩),.pointer (some ⟨Y,0,none⟩)])∧ReachK A ca l D cd zs x (bestB l zs x P T ((placesB l).length:Nat)) X Y w'∧Below w.heap.size w w':=by
 have hmf:∀ (fn:Fn) (first cap:Array Value) (w:World),(Instr.makeFunc fn first cap).run Tryz.prog w=.ok (.func fn first cap) w:=fun _ _ _ _=>rfl
 have H2:=two w (.cells #[.slice A l.length ca,.slice D zs.length cd,.int .i64 x] 27) (.cells #[.string P,.int .i64 T] 127)
 have FN:=Lib.hid (show Box3 27 _ w.heap.size _ _ _ from H2.1);have FS:=Lib.hid (show Box2 127 _ (w.heap.size+1) _ _ from H2.2.1);have hb0:=H2.2.2.1;have hz0:=H2.2.2.2
 clear H2
 have HA:=Lib.hid (hA.below hb0);have HD:=Lib.hid (hD.below hb0);have HB0:=Lib.hid hb0
 have HMO:=Lib.hid (fun W (h1:InK 6 lgC W A l)=>most_legs A ca l D cd zs.length x W h1 hn)
 have HBA:=Lib.hid (fun W (h1:InK 6 lgC W A l) (h2:IntsIn W D zs)=>best_impl P T ((placesB l).length:Nat) A ca l D cd zs x W h1 h2 hs hn hm hf (by have:=placesB_len l;omega) hat2)
 clear hs hA hD hb0
 generalize bestB l zs x P T ((placesB l).length:Nat)=ts at *
 obtain ⟨Q,hQ⟩:∃ Q,Q=(placesB l).length:=⟨_,rfl⟩
 rw [← hQ] at HMO HBA
 clear hQ
 generalize hB:w.heap.size=B at *
 have HBE:=Lib.hid hB
 go_enter Tryz.func129,Tryz.ntmps129
 go_wp2_with fail
 clear hB
 generalize (w.alloc (.cells #[.slice A l.length ca,.slice D zs.length cd,.int .i64 x] 27)).alloc (.cells #[.string P,.int .i64 T] 127)=WW at *
 have hBr:B < WW.heap.size:=by omega
 have hBr1:B+1 < WW.heap.size:=by omega
 obtain ⟨b0,b1,b2⟩:=FN.out.cells
 obtain ⟨s0,s1⟩:=FS.out.cells
 refine wp_region_held_drew (S:=fun w'=>Below WW.heap.size WW w') (by kernel_rfl) (Below.refl _ _).drew (fun hHeld=>?_)
 try dsimp only
 try simp only [Act.put]
 try simp only [List.setIfInBounds_toArray]
 try simp only [List.set_cons_zero,List.set_cons_succ]
 refine wpAnyH_take (i:=0) (oi:=_) (v:=?vq0) rfl (by kernel_rfl) (by kernel_rfl) (by kernel_rfl) (fun _ _ _ h=>h) (Or.inl ⟨by rfl,?hyq0⟩) (by assumption) ?restq0
 case hyq0=>(intro w hSw;(have y0:=(Below.cell (show Below WW.heap.size WW w from hSw) (p:=⟨B,0,none⟩) hBr).trans b0);(have y1:=(Below.cell (show Below WW.heap.size WW w from hSw) (p:=⟨B,1,none⟩) hBr).trans b1);(have y2:=(Below.cell (show Below WW.heap.size WW w from hSw) (p:=⟨B,2,none⟩) hBr).trans b2);(have z0:=(Below.cell (show Below WW.heap.size WW w from hSw) (p:=⟨B+1,0,none⟩) hBr1).trans s0);(have z1:=(Below.cell (show Below WW.heap.size WW w from hSw) (p:=⟨B+1,1,none⟩) hBr1).trans s1);clear hSw;go_simp <;> try with_reducible rfl)
 try dsimp only
 try simp only [List.getElem_toArray,List.getElem_cons_zero]
 try simp only [Act.put]
 try simp only [List.setIfInBounds_toArray]
 try simp only [List.set_cons_zero,List.set_cons_succ]
 refine wpAnyH_take (i:=1) (oi:=_) (v:=?vq1) rfl (by kernel_rfl) (by kernel_rfl) (by kernel_rfl) (fun _ _ _ h=>h) (Or.inl ⟨by rfl,?hyq1⟩) (by assumption) ?restq1
 case hyq1=>(intro w hSw;(have y0:=(Below.cell (show Below WW.heap.size WW w from hSw) (p:=⟨B,0,none⟩) hBr).trans b0);(have y1:=(Below.cell (show Below WW.heap.size WW w from hSw) (p:=⟨B,1,none⟩) hBr).trans b1);(have y2:=(Below.cell (show Below WW.heap.size WW w from hSw) (p:=⟨B,2,none⟩) hBr).trans b2);(have z0:=(Below.cell (show Below WW.heap.size WW w from hSw) (p:=⟨B+1,0,none⟩) hBr1).trans s0);(have z1:=(Below.cell (show Below WW.heap.size WW w from hSw) (p:=⟨B+1,1,none⟩) hBr1).trans s1);clear hSw;go_simp <;> try with_reducible rfl)
 try dsimp only
 try simp only [List.getElem_toArray,List.getElem_cons_succ,List.getElem_cons_zero]
 try simp only [Act.put]
 try simp only [List.setIfInBounds_toArray]
 try simp only [List.set_cons_zero,List.set_cons_succ]
 refine wpAnyH_take (i:=2) (oi:=_) (v:=?vq2) rfl (by kernel_rfl) (by kernel_rfl) (by kernel_rfl) (fun _ _ _ h=>h) (Or.inl ⟨by rfl,?hyq2⟩) (by assumption) ?restq2
 case hyq2=>(intro w hSw;(have y0:=(Below.cell (show Below WW.heap.size WW w from hSw) (p:=⟨B,0,none⟩) hBr).trans b0);(have y1:=(Below.cell (show Below WW.heap.size WW w from hSw) (p:=⟨B,1,none⟩) hBr).trans b1);(have y2:=(Below.cell (show Below WW.heap.size WW w from hSw) (p:=⟨B,2,none⟩) hBr).trans b2);(have z0:=(Below.cell (show Below WW.heap.size WW w from hSw) (p:=⟨B+1,0,none⟩) hBr1).trans s0);(have z1:=(Below.cell (show Below WW.heap.size WW w from hSw) (p:=⟨B+1,1,none⟩) hBr1).trans s1);clear hSw;go_simp <;> try with_reducible rfl)
 try dsimp only
 try simp only [List.getElem_toArray,List.getElem_cons_succ,List.getElem_cons_zero]
 try simp only [Act.put]
 try simp only [List.setIfInBounds_toArray]
 try simp only [List.set_cons_zero,List.set_cons_succ]
 refine wpAnyH_take (i:=3) (oi:=_) (v:=?vq3) rfl (by kernel_rfl) (by kernel_rfl) (by kernel_rfl) (fun _ _ _ h=>h) (Or.inl ⟨by rfl,?hyq3⟩) (by assumption) ?restq3
 case hyq3=>(intro w hSw;(have y0:=(Below.cell (show Below WW.heap.size WW w from hSw) (p:=⟨B,0,none⟩) hBr).trans b0);(have y1:=(Below.cell (show Below WW.heap.size WW w from hSw) (p:=⟨B,1,none⟩) hBr).trans b1);(have y2:=(Below.cell (show Below WW.heap.size WW w from hSw) (p:=⟨B,2,none⟩) hBr).trans b2);(have z0:=(Below.cell (show Below WW.heap.size WW w from hSw) (p:=⟨B+1,0,none⟩) hBr1).trans s0);(have z1:=(Below.cell (show Below WW.heap.size WW w from hSw) (p:=⟨B+1,1,none⟩) hBr1).trans s1);clear hSw;go_simp <;> try with_reducible rfl)
 try dsimp only
 try simp only [List.getElem_toArray,List.getElem_cons_succ,List.getElem_cons_zero]
 try simp only [Act.put]
 try simp only [List.setIfInBounds_toArray]
 try simp only [List.set_cons_zero,List.set_cons_succ]
 refine wpAnyH_take (i:=4) (oi:=_) (v:=?vq4) rfl (by kernel_rfl) (by kernel_rfl) (by kernel_rfl) (fun _ _ _ h=>h) (Or.inl ⟨by rfl,?hyq4⟩) (by assumption) ?restq4
 case hyq4=>(intro w hSw;(have y0:=(Below.cell (show Below WW.heap.size WW w from hSw) (p:=⟨B,0,none⟩) hBr).trans b0);(have y1:=(Below.cell (show Below WW.heap.size WW w from hSw) (p:=⟨B,1,none⟩) hBr).trans b1);(have y2:=(Below.cell (show Below WW.heap.size WW w from hSw) (p:=⟨B,2,none⟩) hBr).trans b2);(have z0:=(Below.cell (show Below WW.heap.size WW w from hSw) (p:=⟨B+1,0,none⟩) hBr1).trans s0);(have z1:=(Below.cell (show Below WW.heap.size WW w from hSw) (p:=⟨B+1,1,none⟩) hBr1).trans s1);clear hSw;go_simp <;> try with_reducible rfl)
 try dsimp only
 try simp only [List.getElem_toArray,List.getElem_cons_succ,List.getElem_cons_zero]
 try simp only [Act.put]
 try simp only [List.setIfInBounds_toArray]
 try simp only [List.set_cons_zero,List.set_cons_succ]
 refine wpAnyH_take (i:=5) (oi:=_) (v:=?vq5) rfl (by kernel_rfl) (by kernel_rfl) (by kernel_rfl) (fun _ _ _ h=>h) (Or.inl ⟨by rfl,?hyq5⟩) (by assumption) ?restq5
 case hyq5=>(intro w hSw;(have y0:=(Below.cell (show Below WW.heap.size WW w from hSw) (p:=⟨B,0,none⟩) hBr).trans b0);(have y1:=(Below.cell (show Below WW.heap.size WW w from hSw) (p:=⟨B,1,none⟩) hBr).trans b1);(have y2:=(Below.cell (show Below WW.heap.size WW w from hSw) (p:=⟨B,2,none⟩) hBr).trans b2);(have z0:=(Below.cell (show Below WW.heap.size WW w from hSw) (p:=⟨B+1,0,none⟩) hBr1).trans s0);(have z1:=(Below.cell (show Below WW.heap.size WW w from hSw) (p:=⟨B+1,1,none⟩) hBr1).trans s1);clear hSw;go_simp <;> try with_reducible rfl)
 try dsimp only
 try simp only [List.getElem_toArray,List.getElem_cons_succ,List.getElem_cons_zero]
 try simp only [Act.put]
 try simp only [List.setIfInBounds_toArray]
 try simp only [List.set_cons_zero,List.set_cons_succ]
 clear b0 b1 b2 s0 s1
 generalize WW.drew=V0 at *
 refine wpAnyH_ready (rs:=[6,8]) (by kernel_rfl) (by simp) ?_
 refine AllReadyH.cons (o:=_) rfl (fun K hK=>?_) ?_
 ·skip
  go_simp
  go_at_call 91
  refine (HMO.out V0 (HA.out.below hHeld)).mono ?_;rintro e V1 ⟨rfl,hu⟩
  have hbu:Below WW.heap.size WW V1:=hHeld.trans (hu.mono hHeld.size)
  clear hu hHeld
  refine hK.out _ _ ?_ (fun hH1=>?_)
  ·exact hbu
  clear hK K
  clear hbu
  try dsimp only
  try simp only [List.getElem_toArray,List.getElem_cons_succ,List.getElem_cons_zero]
  try simp only [Act.put]
  try simp only [List.setIfInBounds_toArray]
  try simp only [List.set_cons_zero,List.set_cons_succ]
  refine wpAnyH_ready (rs:=[7,8]) (by kernel_rfl) (by simp) ?_
  refine AllReadyH.cons (o:=_) rfl (fun K hK=>?_) ?_
  ·skip
   go_simp
   go_at_call 179
   refine (HBA.out V1 (HA.out.below hH1) (HD.out.below hH1)).mono ?_;rintro e V2 ⟨v,rfl,ho,hu⟩
   obtain ⟨EA,ce,rfl⟩:=ho.opens
   have hbu:Below WW.heap.size WW V2:=hH1.trans (hu.mono hH1.size)
   have HO:=Lib.hid (show OwnI V2 WW.heap.size _ ts from ho.mono hH1.size)
   clear ho
   clear hu hH1
   refine hK.out _ _ ?_ (fun hH2=>?_)
   ·exact hbu
   clear hK K
   clear hbu
   try dsimp only
   try simp only [List.getElem_toArray,List.getElem_cons_succ,List.getElem_cons_zero]
   try simp only [Act.put]
   try simp only [List.setIfInBounds_toArray]
   try simp only [List.set_cons_zero,List.set_cons_succ]
   refine wpAnyH_ready (rs:=[8]) (by kernel_rfl) (by simp) ?_
   refine AllReadyH.cons (o:=_) rfl (fun K hK=>?_) ?_
   ·skip
    go_simp
    have hba:=hH2.alloc hH2.size (.cells #[.slice none 0 0] 25)
    have FX:=Lib.hid (Box1.new (T:=25) (v:=.slice none 0 0) V2)
    have hlX:=hH2.size
    have hXn:=Lib.hid (show ∀ q,(Value.slice EA ts.length ce).ownBlock=some q→¬ q=V2.heap.size from fun q h=>by have:=World.ownsRow.lt HO.out q h;omega)
    replace HO:=Lib.hid (OwnI.below HO.out ((Below.refl _ _).alloc (Nat.le_refl _) (.cells #[.slice none 0 0] 25)))
    clear hH2
    refine hK.out _ _ ?_ (fun hH3=>?_)
    ·exact hba
    clear hK K
    clear hba
    generalize V2.heap.size=X at *
    generalize V2.alloc (.cells #[.slice none 0 0] 25)=V3 at *
    try dsimp only
    try simp only [List.getElem_toArray,List.getElem_cons_succ,List.getElem_cons_zero]
    try simp only [Act.put]
    try simp only [List.setIfInBounds_toArray]
    try simp only [List.set_cons_zero,List.set_cons_succ]
    refine wpAnyH_ready (rs:=[9]) (by kernel_rfl) (by simp) ?_
    refine AllReadyH.cons (o:=_) rfl (fun K hK=>?_) ?_
    ·skip
     have x0:=FX.out.cell
     have y0:=FX.out.free
     go_simp
     clear x0 y0
     have hba:=hH3.setCell (p:=⟨X,0,none⟩) hlX (.slice EA ts.length ce)
     have FY:=Lib.hid (FX.out.put (v:=.slice EA ts.length ce))
     have HE:=Lib.hid ((HO.out.besides (only_set V3 X 0 (.slice EA ts.length ce)) (fun q h=>by exact fun e=>hXn.out q h e.symm)).ins.2)
     clear hH3 FX HO
     refine hK.out _ _ ?_ (fun hH4=>?_)
     ·exact hba
     clear hK K
     clear hba
     generalize V3.setCell ⟨X,0,none⟩ (.slice EA ts.length ce)=V4 at *
     try dsimp only
     try simp only [List.getElem_toArray,List.getElem_cons_succ,List.getElem_cons_zero]
     try simp only [Act.put]
     try simp only [List.setIfInBounds_toArray]
     try simp only [List.set_cons_zero,List.set_cons_succ]
     refine wpAnyH_done (by kernel_rfl) ?_ _
     try dsimp only [Act.put,Oper.dst]
     try dsimp only
     try simp only [List.getElem_toArray,List.getElem_cons_succ,List.getElem_cons_zero]
     try simp only [Act.put]
     try simp only [List.setIfInBounds_toArray]
     try simp only [List.set_cons_zero,List.set_cons_succ]
     go_wp2
     go_ret
     exact ⟨B,X,rfl,⟨FN.out.below hH4,HA.out.below hH4,EA,ce,FY.out,HE.out⟩,HB0.out.trans (hH4.mono (by omega))⟩
    exact AllReadyH.nil
   exact AllReadyH.nil
  refine AllReadyH.cons (o:=_) rfl (fun K hK=>?_) ?_
  ·skip
   go_simp
   have hba:=hH1.alloc hH1.size (.cells #[.slice none 0 0] 25)
   have FX:=Lib.hid (Box1.new (T:=25) (v:=.slice none 0 0) V1)
   have hlX:=hH1.size
   clear hH1
   refine hK.out _ _ ?_ (fun hH2=>?_)
   ·exact hba
   clear hK K
   clear hba
   generalize V1.heap.size=X at *
   generalize V1.alloc (.cells #[.slice none 0 0] 25)=V2 at *
   try dsimp only
   try simp only [List.getElem_toArray,List.getElem_cons_succ,List.getElem_cons_zero]
   try simp only [Act.put]
   try simp only [List.setIfInBounds_toArray]
   try simp only [List.set_cons_zero,List.set_cons_succ]
   refine wpAnyH_ready (rs:=[7]) (by kernel_rfl) (by simp) ?_
   refine AllReadyH.cons (o:=_) rfl (fun K hK=>?_) ?_
   ·skip
    go_simp
    go_at_call 179
    refine (HBA.out V2 (HA.out.below hH2) (HD.out.below hH2)).mono ?_;rintro e V3 ⟨v,rfl,ho,hu⟩
    obtain ⟨EA,ce,rfl⟩:=ho.opens
    have hbu:Below WW.heap.size WW V3:=hH2.trans (hu.mono hH2.size)
    have hXo:=FX.out.lt
    replace FX:=Lib.hid (FX.out.below hu)
    have HO:=Lib.hid (show OwnI V3 (X+1) _ ts from ho.mono (by omega))
    clear hXo
    clear ho
    clear hu hH2
    refine hK.out _ _ ?_ (fun hH3=>?_)
    ·exact hbu
    clear hK K
    clear hbu
    try dsimp only
    try simp only [List.getElem_toArray,List.getElem_cons_succ,List.getElem_cons_zero]
    try simp only [Act.put]
    try simp only [List.setIfInBounds_toArray]
    try simp only [List.set_cons_zero,List.set_cons_succ]
    refine wpAnyH_ready (rs:=[9]) (by kernel_rfl) (by simp) ?_
    refine AllReadyH.cons (o:=_) rfl (fun K hK=>?_) ?_
    ·skip
     have x0:=FX.out.cell
     have y0:=FX.out.free
     go_simp
     clear x0 y0
     have hba:=hH3.setCell (p:=⟨X,0,none⟩) hlX (.slice EA ts.length ce)
     have FY:=Lib.hid (FX.out.put (v:=.slice EA ts.length ce))
     have HE:=Lib.hid ((HO.out.besides (only_set V3 X 0 (.slice EA ts.length ce)) (fun q h=>by have:=World.ownsRow.lt HO.out q h;omega)).ins.2)
     clear hH3 FX HO
     refine hK.out _ _ ?_ (fun hH4=>?_)
     ·exact hba
     clear hK K
     clear hba
     generalize V3.setCell ⟨X,0,none⟩ (.slice EA ts.length ce)=V4 at *
     try dsimp only
     try simp only [List.getElem_toArray,List.getElem_cons_succ,List.getElem_cons_zero]
     try simp only [Act.put]
     try simp only [List.setIfInBounds_toArray]
     try simp only [List.set_cons_zero,List.set_cons_succ]
     refine wpAnyH_done (by kernel_rfl) ?_ _
     try dsimp only [Act.put,Oper.dst]
     try dsimp only
     try simp only [List.getElem_toArray,List.getElem_cons_succ,List.getElem_cons_zero]
     try simp only [Act.put]
     try simp only [List.setIfInBounds_toArray]
     try simp only [List.set_cons_zero,List.set_cons_succ]
     go_wp2
     go_ret
     exact ⟨B,X,rfl,⟨FN.out.below hH4,HA.out.below hH4,EA,ce,FY.out,HE.out⟩,HB0.out.trans (hH4.mono (by omega))⟩
    exact AllReadyH.nil
   exact AllReadyH.nil
  exact AllReadyH.nil
 refine AllReadyH.cons (o:=_) rfl (fun K hK=>?_) ?_
 ·skip
  go_simp
  have hba:=hHeld.alloc hHeld.size (.cells #[.slice none 0 0] 25)
  have FX:=Lib.hid (Box1.new (T:=25) (v:=.slice none 0 0) V0)
  have hlX:=hHeld.size
  clear hHeld
  refine hK.out _ _ ?_ (fun hH1=>?_)
  ·exact hba
  clear hK K
  clear hba
  generalize V0.heap.size=X at *
  generalize V0.alloc (.cells #[.slice none 0 0] 25)=V1 at *
  try dsimp only
  try simp only [List.getElem_toArray,List.getElem_cons_succ,List.getElem_cons_zero]
  try simp only [Act.put]
  try simp only [List.setIfInBounds_toArray]
  try simp only [List.set_cons_zero,List.set_cons_succ]
  refine wpAnyH_ready (rs:=[6]) (by kernel_rfl) (by simp) ?_
  refine AllReadyH.cons (o:=_) rfl (fun K hK=>?_) ?_
  ·skip
   go_simp
   go_at_call 91
   refine (HMO.out V1 (HA.out.below hH1)).mono ?_;rintro e V2 ⟨rfl,hu⟩
   have hbu:Below WW.heap.size WW V2:=hH1.trans (hu.mono hH1.size)
   skip
   replace FX:=Lib.hid (FX.out.below hu)
   clear hu hH1
   refine hK.out _ _ ?_ (fun hH2=>?_)
   ·exact hbu
   clear hK K
   clear hbu
   try dsimp only
   try simp only [List.getElem_toArray,List.getElem_cons_succ,List.getElem_cons_zero]
   try simp only [Act.put]
   try simp only [List.setIfInBounds_toArray]
   try simp only [List.set_cons_zero,List.set_cons_succ]
   refine wpAnyH_ready (rs:=[7]) (by kernel_rfl) (by simp) ?_
   refine AllReadyH.cons (o:=_) rfl (fun K hK=>?_) ?_
   ·skip
    go_simp
    go_at_call 179
    refine (HBA.out V2 (HA.out.below hH2) (HD.out.below hH2)).mono ?_;rintro e V3 ⟨v,rfl,ho,hu⟩
    obtain ⟨EA,ce,rfl⟩:=ho.opens
    have hbu:Below WW.heap.size WW V3:=hH2.trans (hu.mono hH2.size)
    have hXo:=FX.out.lt
    replace FX:=Lib.hid (FX.out.below hu)
    have HO:=Lib.hid (show OwnI V3 (X+1) _ ts from ho.mono (by omega))
    clear hXo
    clear ho
    clear hu hH2
    refine hK.out _ _ ?_ (fun hH3=>?_)
    ·exact hbu
    clear hK K
    clear hbu
    try dsimp only
    try simp only [List.getElem_toArray,List.getElem_cons_succ,List.getElem_cons_zero]
    try simp only [Act.put]
    try simp only [List.setIfInBounds_toArray]
    try simp only [List.set_cons_zero,List.set_cons_succ]
    refine wpAnyH_ready (rs:=[9]) (by kernel_rfl) (by simp) ?_
    refine AllReadyH.cons (o:=_) rfl (fun K hK=>?_) ?_
    ·skip
     have x0:=FX.out.cell
     have y0:=FX.out.free
     go_simp
     clear x0 y0
     have hba:=hH3.setCell (p:=⟨X,0,none⟩) hlX (.slice EA ts.length ce)
     have FY:=Lib.hid (FX.out.put (v:=.slice EA ts.length ce))
     have HE:=Lib.hid ((HO.out.besides (only_set V3 X 0 (.slice EA ts.length ce)) (fun q h=>by have:=World.ownsRow.lt HO.out q h;omega)).ins.2)
     clear hH3 FX HO
     refine hK.out _ _ ?_ (fun hH4=>?_)
     ·exact hba
     clear hK K
     clear hba
     generalize V3.setCell ⟨X,0,none⟩ (.slice EA ts.length ce)=V4 at *
     try dsimp only
     try simp only [List.getElem_toArray,List.getElem_cons_succ,List.getElem_cons_zero]
     try simp only [Act.put]
     try simp only [List.setIfInBounds_toArray]
     try simp only [List.set_cons_zero,List.set_cons_succ]
     refine wpAnyH_done (by kernel_rfl) ?_ _
     try dsimp only [Act.put,Oper.dst]
     try dsimp only
     try simp only [List.getElem_toArray,List.getElem_cons_succ,List.getElem_cons_zero]
     try simp only [Act.put]
     try simp only [List.setIfInBounds_toArray]
     try simp only [List.set_cons_zero,List.set_cons_succ]
     go_wp2
     go_ret
     exact ⟨B,X,rfl,⟨FN.out.below hH4,HA.out.below hH4,EA,ce,FY.out,HE.out⟩,HB0.out.trans (hH4.mono (by omega))⟩
    exact AllReadyH.nil
   exact AllReadyH.nil
  exact AllReadyH.nil
 exact AllReadyH.nil
theorem leads_on:SaysL 166 #[] (fun _ _=>true) (fun _=>True):=by
 intro W P T _ _ _
 have hb:=(Below.refl W.heap.size W).alloc (Nat.le_refl _) (.cells #[.string P,.int .i64 T] 127)
 show Calls _ _ #[.agg #[.string P,.int .i64 T]] _ _
 go_enter Tryz.func166,Tryz.ntmps166
 go_wp2
 go_ret
 exact ⟨rfl,hb⟩
structure LeadK (A:Option Addr) (ca:Nat) (l:List Lg) (D:Option Addr) (cd:Nat) (zs:List Int) (x:Int) (FP:ByteArray) (FT:Int) (X Y:Nat) (W:World):Prop where
 n:Box3 27 W X (.slice A l.length ca) (.slice D zs.length cd) (.int .i64 x)
 g:InK 6 lgC W A l
 d:IntsIn W D zs
 b:Box2 127 W Y (.string FP) (.int .i64 FT)
theorem LeadK.below {A:Option Addr} {ca:Nat} {l:List Lg} {D:Option Addr} {cd:Nat} {zs:List Int} {x:Int} {FP:ByteArray} {FT:Int} {X Y:Nat} {W W':World} (h:LeadK A ca l D cd zs x FP FT X Y W) (hb:Below W.heap.size W W'):LeadK A ca l D cd zs x FP FT X Y W' :=
 ⟨h.n.below hb,h.g.below hb,h.d.below hb,h.b.below hb⟩
set_option maxRecDepth 100000 in
set_option maxHeartbeats 4000000 in
theorem lead_says (A:Option Addr) (ca:Nat) (l:List Lg) (D:Option Addr) (cd:Nat) (zs:List Int) (x:Int) (FP:ByteArray) (FT:Int) (X Y:Nat) (hs:∀ z ∈ l,z.f.size≤maxLen∧z.t.size≤maxLen) (hn:l.length≤1048576) (hm:zs.length≤1048576):SaysL 211 #[.pointer (some ⟨X,0,none⟩),.pointer (some ⟨Y,0,none⟩)] (fun P T=>inT l zs x P T FP FT) (LeadK A ca l D cd zs x FP FT X Y):=by
 intro W0 P T hf hat2 hK0
 have eg:∀ args w,(callFunc 180 args).run Tryz.prog w=.ok (.enter 180 args) w:=enters_of Tryz.func180 (by kernel_rfl) rfl
 have hb0:=(Below.refl W0.heap.size W0).alloc (Nat.le_refl _) (.cells #[.string P,.int .i64 T] 127)
 have FS:=Lib.hid (Box2.new (T:=127) (v0:=.string P) (v1:=.int .i64 T) W0)
 have HK:=Lib.hid (hK0.below hb0);have HB0:=Lib.hid hb0
 clear hK0 hb0
 have HRF:=Lib.hid (fun W (h1:InK 6 lgC W A l) (h2:IntsIn W D zs)=>reached_from P T hf hat2 A ca l D cd zs x W h1 h2 hs hn hm)
 have HRS:=Lib.hid (fun X' Y' W (h:ReachK A ca l D cd zs x (bestB l zs x P T ((placesB l).length:Nat)) X' Y' W)=>(show Calls Tryz.prog 180 #[.string FP,.pointer (some ⟨X',0,none⟩),.pointer (some ⟨Y',0,none⟩)] W fun e w'=>e=.returned (.int .i64 (earB l zs x P FP T))∧Below W.heap.size W w' from reach_says A ca l D cd zs x hn _ X' Y' W FP h))
 have HED:=Lib.hid (show earB l zs x P FP T=-1 ∨ 0≤earB l zs x P FP T from (ear_bd l zs x P FP T).elim Or.inl (fun h=>Or.inr h.1))
 have HV:=Lib.hid (show inT l zs x P T FP FT=(decide (0≤earB l zs x P FP T) && decide (earB l zs x P FP T≤FT)) from rfl)
 have HIS:=Lib.hid (fun W=>is_reached (earB l zs x P FP T) FT HED.out W)
 clear hs hf hat2
 dsimp only
 generalize inT l zs x P T FP FT=V at *
 generalize bestB l zs x P T ((placesB l).length:Nat)=ts at *
 generalize earB l zs x P FP T=E at *
 show Calls _ _ #[.agg #[.string P,.int .i64 T],.pointer (some ⟨X,0,none⟩),.pointer (some ⟨Y,0,none⟩)] _ _
 go_enter Tryz.func211,Tryz.ntmps211
 go_wp2_with fail
 generalize hB:W0.heap.size=B at *
 have HBE:=Lib.hid hB;clear hB
 generalize W0.alloc (.cells #[.string P,.int .i64 T] 127)=WW at *
 obtain ⟨b0,b1,b2⟩:=HK.out.n.cells
 obtain ⟨s0,s1⟩:=FS.out.cells
 obtain ⟨y0,y1⟩:=HK.out.b.cells
 have hBr:=FS.out.lt;have hXr:=HK.out.n.lt;have hYr:=HK.out.b.lt
 go_region_held3 (fun w'=>w'.cell? ⟨B,0,none⟩=some (.string P)∧w'.cell? ⟨B,1,none⟩=some (.int .i64 T)∧w'.cell? ⟨X,0,none⟩=some (.slice A l.length ca)∧w'.cell? ⟨X,1,none⟩=some (.slice D zs.length cd)∧w'.cell? ⟨X,2,none⟩=some (.int .i64 x)∧w'.cell? ⟨Y,0,none⟩=some (.string FP)∧w'.cell? ⟨Y,1,none⟩=some (.int .i64 FT))
  (go_keep)
  (first
   | (go_at_call 129;refine (HRF.out _ (HK.out.g.below ?_) (HK.out.d.below ?_)).mono ?_;(focus (first | exact Below.refl _ _ | exact (Below.refl _ _).drew));(focus (first | exact Below.refl _ _ | exact (Below.refl _ _).drew));(rintro e u1 ⟨X1,Y1,rfl,hr,hu⟩;(have HR1:=Lib.hid hr);(first | (have hb1:Below WW.heap.size WW u1:=below_undrew hu) | (have hb1:Below WW.heap.size WW u1:=hu));(clear b0 b1 b2 s0 s1 y0 y1);(obtain ⟨b0,b1,b2⟩:=(HK.out.n.below hb1).cells);(obtain ⟨s0,s1⟩:=(FS.out.below hb1).cells);(obtain ⟨y0,y1⟩:=(HK.out.b.below hb1).cells);clear hu hr))
   | (go_at_call 180;refine (HRS.out X1 Y1 _ (HR1.out.below ?_)).mono ?_;(focus (first | exact Below.refl _ _ | exact (Below.refl _ _).drew));(rintro e u2 ⟨rfl,hu⟩;(first | (have hb2:Below WW.heap.size WW u2:=chain hb1 hu) | (have hb2:Below WW.heap.size WW u2:=chain hb1.drew hu));(clear b0 b1 b2 s0 s1 y0 y1);(obtain ⟨b0,b1,b2⟩:=(HK.out.n.below hb2).cells);(obtain ⟨s0,s1⟩:=(FS.out.below hb2).cells);(obtain ⟨y0,y1⟩:=(HK.out.b.below hb2).cells);clear hu))
   | (go_at_call 212;refine (HIS.out _).mono ?_;(rintro e u3 ⟨rfl,hu⟩;(first | (have hb3:Below WW.heap.size WW u3:=chain hb2 hu) | (have hb3:Below WW.heap.size WW u3:=chain hb2.drew hu));(clear b0 b1 b2 s0 s1 y0 y1);(obtain ⟨b0,b1,b2⟩:=(HK.out.n.below hb3).cells);(obtain ⟨s0,s1⟩:=(FS.out.below hb3).cells);(obtain ⟨y0,y1⟩:=(HK.out.b.below hb3).cells);clear hu))
   | fail)
 all_goals
  go_wp2
  go_ret
  exact ⟨ret_bool HV.out.symm,by rw [HBE.out];exact HB0.out.trans (hb3.mono (Nat.le_of_lt hBr))⟩
set_option maxRecDepth 100000 in
set_option maxHeartbeats 4000000 in
theorem leads_to (h a k:Int) (p:ByteArray) (g d:Int) (A:Option Addr) (ca:Nat) (l:List Lg) (D:Option Addr) (cd:Nat) (zs:List Int) (x:Int) (w:World) (hA:InK 6 lgC w A l) (hD:IntsIn w D zs) (hs:∀ z ∈ l,z.f.size≤maxLen∧z.t.size≤maxLen) (hn:l.length≤1048576) (hm:zs.length≤1048576) :
  Calls Tryz.prog 168 #[.agg #[.slice A l.length ca,.slice D zs.length cd,.int .i64 x],.agg #[.int .i64 h,.int .i64 a,.int .i64 k,.string p,.int .i64 g,.int .i64 d]] w fun e w'=>∃ X Y,e=.returned (.func (.func 211) #[] #[.pointer (some ⟨X,0,none⟩),.pointer (some ⟨Y,0,none⟩)])∧LeadK A ca l D cd zs x (befP l zs x ⟨h,a,k,p,g,d⟩) (befA l zs x ⟨h,a,k,p,g,d⟩) X Y w'∧Below w.heap.size w w':=by
 have hmf:∀ (fn:Fn) (first cap:Array Value) (w:World),(Instr.makeFunc fn first cap).run Tryz.prog w=.ok (.func fn first cap) w:=fun _ _ _ _=>rfl
 have H2:=two w (.cells #[.slice A l.length ca,.slice D zs.length cd,.int .i64 x] 27) (.cells #[.int .i64 h,.int .i64 a,.int .i64 k,.string p,.int .i64 g,.int .i64 d] 34)
 have FN:=Lib.hid (show Box3 27 _ w.heap.size _ _ _ from H2.1);have FS:=Lib.hid (show BoxS 34 _ (w.heap.size+1) _ _ _ _ _ _ from H2.2.1);have hb0:=H2.2.2.1;have hz0:=H2.2.2.2
 clear H2
 have HA:=Lib.hid (hA.below hb0);have HD:=Lib.hid (hD.below hb0);have HB0:=Lib.hid hb0
 have HBF:=Lib.hid (fun W (h1:InK 6 lgC W A l) (h2:IntsIn W D zs)=>before_impl h a k p g d A ca l D cd zs x W h1 h2 hs hn hm)
 clear hs hA hD hb0
 generalize befP l zs x ⟨h,a,k,p,g,d⟩=FP at *
 generalize befA l zs x ⟨h,a,k,p,g,d⟩=FT at *
 generalize hB:w.heap.size=B at *
 have HBE:=Lib.hid hB
 go_enter Tryz.func168,Tryz.ntmps168
 go_wp2_with fail
 clear hB
 generalize (w.alloc (.cells #[.slice A l.length ca,.slice D zs.length cd,.int .i64 x] 27)).alloc (.cells #[.int .i64 h,.int .i64 a,.int .i64 k,.string p,.int .i64 g,.int .i64 d] 34)=WW at *
 have hBr:B < WW.heap.size:=by omega
 have hBr1:B+1 < WW.heap.size:=by omega
 obtain ⟨b0,b1,b2⟩:=FN.out.cells
 obtain ⟨s0,s1,s2,s3,s4,s5⟩:=FS.out.cells
 go_wp2_with fail
 refine (HBF.out WW HA.out HD.out).mono ?_;rintro e w1 ⟨rfl,hb1⟩
 clear b0 b1 b2 s0 s1 s2 s3 s4 s5
 have hba:=hb1.trans ((Below.refl w1.heap.size w1).alloc (Nat.le_refl _) (.cells #[.string FP,.int .i64 FT] 127) |>.mono hb1.size)
 have FB:=Lib.hid (Box2.new (T:=127) (v0:=.string FP) (v1:=.int .i64 FT) w1)
 have HKK:=Lib.hid (show LeadK A ca l D cd zs x FP FT B w1.heap.size (w1.alloc (.cells #[.string FP,.int .i64 FT] 127)) from ⟨FN.out.below hba,HA.out.below hba,HD.out.below hba,FB.out⟩)
 have HBB:=Lib.hid (HB0.out.trans (hba.mono (by omega)))
 clear hba FB hb1
 go_wp2
 go_ret
 exact ⟨B,w1.heap.size,rfl,HKK.out,HBB.out⟩
end Go.Proofs.YtinijleelhbpoaaGreat

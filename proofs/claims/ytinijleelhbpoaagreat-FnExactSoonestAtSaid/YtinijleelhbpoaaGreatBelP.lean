/- What rests on believed: MayBeAt, MayRide, Doubt, and what slices.Contains says of trips. -/
import Derived.Test.YtinijleelhbpoaaGreatBelB
namespace Go.Proofs.YtinijleelhbpoaaGreat
open Go.RowKit
def hasTp (l : List Tp) (g d : Int) : Bool := l.any fun u => g == u.g && d == u.d
theorem hasTp_hit {l : List Tp} {g d : Int} {k : Nat} (hk : k < l.length) (h : (g == l[k].g && d == l[k].d) = true) : hasTp l g d = true := by
 unfold hasTp
 rw [List.any_eq_true]
 exact ⟨l[k], List.getElem_mem hk, h⟩
theorem hasTp_miss {l : List Tp} {g d : Int} (h : ∀ j (_ : j < l.length), (g == l[j].g && d == l[j].d) = false) : hasTp l g d = false := by
 unfold hasTp
 rw [List.any_eq_false]
 intro u hu
 obtain ⟨j, hj, rfl⟩ := List.getElem_of_mem hu
 rw [h j hj]
 exact Bool.false_ne_true
theorem hasTp_mem {l : List Tp} {g d : Int} : hasTp l g d = true ↔ (⟨g, d⟩ : Tp) ∈ l := by
 unfold hasTp
 rw [List.any_eq_true]
 constructor
 ·rintro ⟨u, hu, h⟩
  simp only [Bool.and_eq_true, beq_iff_eq] at h
  obtain ⟨rfl, rfl⟩ := h
  exact hu
 ·intro h
  exact ⟨_, h, by simp⟩
theorem belP_has {l : List Lg} {zs : List Int} {x : Int} {C : List Sc} {at_ : Int} {p : ByteArray} : Lib.containsS (belP l zs x C at_) p = atC l zs x C at_ p := by
 rw [Bool.eq_iff_iff, Lib.containsS_iff]
 unfold belP
 rw [List.mem_filter]
 constructor
 ·exact fun h => h.2
 ·intro h
  refine ⟨?_, h⟩
  unfold atC mayAt at h
  by_cases hi : idxI (placesB l) p < 0
  ·rw [if_pos (Or.inr (Or.inr hi))] at h; cases h
  ·exact (Lib.idxOfS_nonneg_iff _ _).1 (show 0 ≤ idxI (placesB l) p by omega)
theorem belR_has {l : List Lg} {zs : List Int} {x : Int} {C : List Sc} {at_ g d : Int} : hasTp (belR l zs x C at_) g d = rideC l zs x C at_ ⟨g, d⟩ := by
 rw [Bool.eq_iff_iff, hasTp_mem]
 unfold belR
 rw [List.mem_filter]
 constructor
 ·exact fun h => h.2
 ·intro h
  refine ⟨?_, h⟩
  unfold rideC mayRide at h
  by_cases ht : trB l zs x ⟨g, d⟩ = true
  ·exact (tr_ends ht).2.1
  ·rw [if_pos (Or.inl (by simpa using ht))] at h; cases h
set_option maxRecDepth 100000 in
set_option maxHeartbeats 2000000 in
theorem index_tp (g d : Int) (A : Option Addr) (ca : Nat) (l : List Tp) (w : World) (hA : InK 2 tpC w A l) (hn : l.length ≤ 1048576) :
  Calls Tryz.prog 171 #[.slice A l.length ca, .agg #[.int .i64 g, .int .i64 d]] w fun e w' => (∃ r : Int, e = .returned (.int .i64 r) ∧ decide (0 ≤ r) = hasTp l g d) ∧ Below w.heap.size w w' := by
 have FT := Lib.hid (Box2.new (T := 32) (v0 := .int .i64 g) (v1 := .int .i64 d) w)
 have hb0 := (Below.refl w.heap.size w).alloc (Nat.le_refl _) (.cells #[.int .i64 g, .int .i64 d] 32)
 have HA := Lib.hid (hA.below hb0); have HB := Lib.hid hb0; have HL := Lib.hid hb0.size
 clear hA hb0
 generalize hB : w.heap.size = B at *
 go_enter Tryz.func171, Tryz.ntmps171
 go_wp2
 clear hB
 generalize w.alloc (.cells #[.int .i64 g, .int .i64 d] 32) = W0 at *
 go_loopw [8] (fun i wr => ∃ k : Nat, i = .int .i64 k ∧ k ≤ l.length ∧ Hid (∀ j (_ : j < l.length), j < k → (g == l[j].g && d == l[j].d) = false) ∧ Hid (Below W0.heap.size W0 wr)) (fun i _ => l.length - (intOf i).toNat)
 case atStart => exact ⟨0, rfl, Nat.zero_le _, Lib.hid (fun j _ h => absurd h (by omega)), Lib.hid (Below.refl _ _)⟩
 case round =>
  obtain ⟨k, rfl, hk, hall, hbw⟩ := hrel
  have FTw := Lib.hid (FT.out.below hbw.out)
  have HBw := Lib.hid (HB.out.trans (hbw.out.mono HL.out))
  by_cases hlt : (k : Int) < (l.length : Int)
  ·have hkl : k < l.length := by omega
   obtain ⟨b, rfl, hb, c0, c1⟩ := (HA.out.below hbw.out).tp k hkl
   have HH := Lib.hid (fun h => hasTp_hit (g := g) (d := d) hkl h)
   have HN := Lib.hid (fun (h : (g == l[k].g && d == l[k].d) = false) j (hj : j < l.length) (hjk : j < k + 1) => show (g == l[j].g && d == l[j].d) = false by
    by_cases e : j = k
    ·subst e; exact h
    ·exact hall.out j hj (by omega))
   clear hall
   have hEQ := trip_eql g d l[k].g l[k].d
   generalize l[k] = y at *
   obtain ⟨t0, t1⟩ := FTw.out.cells
   cases hq : (g == y.g && d == y.d) with
   | true =>
    rw [hq] at hEQ
    have HV := Lib.hid (HH.out hq)
    clear HH HN hq
    go_wp2_with fail
    go_quiet (fail)
    go_wp2
    go_ret
    exact ⟨⟨_, rfl, by rw [HV.out]; exact decide_eq_true (by omega)⟩, by first | exact HBw.out | exact below_drewN HBw.out _⟩
   | false =>
    rw [hq] at hEQ
    have HV := Lib.hid (HN.out hq)
    clear HH HN hq
    go_wp2_with fail
    go_quiet (fail)
    go_wp2
    go_roundw
    case rel => exact ⟨k + 1, by go_num, by omega, HV, Lib.hid (by first | exact hbw.out | exact below_drewN hbw.out _)⟩
    case measure => simp [intOf]; omega
  ·obtain rfl : k = l.length := by omega
   have HV := Lib.hid (hasTp_miss (fun j hj => hall.out j hj hj))
   clear hall
   go_wp2
   go_ret
   exact ⟨⟨_, rfl, by rw [HV.out]; exact decide_eq_false (by omega)⟩, HBw.out⟩
set_option maxRecDepth 100000 in
set_option maxHeartbeats 1000000 in
theorem contains_tp (g d : Int) (A : Option Addr) (ca : Nat) (l : List Tp) (w : World) (hA : InK 2 tpC w A l) (hn : l.length ≤ 1048576) :
  Calls Tryz.prog 104 #[.slice A l.length ca, .agg #[.int .i64 g, .int .i64 d]] w fun e w' => e = .returned (.bool (hasTp l g d)) ∧ Below w.heap.size w w' := by
 have hb0 := (Below.refl w.heap.size w).alloc (Nat.le_refl _) (.cells #[.int .i64 g, .int .i64 d] 32)
 have HI := Lib.hid (index_tp g d A ca l _ (hA.below hb0) hn)
 have HB := Lib.hid hb0; have HL := Lib.hid hb0.size
 clear hA hb0
 generalize hB : w.heap.size = B at *
 go_enter Tryz.func104, Tryz.ntmps104
 go_wp2_with fail
 clear hB
 refine HI.out.mono ?_; rintro e w1 ⟨⟨r, rfl, hr⟩, hb⟩
 have HR := Lib.hid hr
 replace HB := Lib.hid (HB.out.trans (hb.mono HL.out))
 clear hr hb
 go_wp2
 go_ret
 exact ⟨ret_bool HR.out, HB.out⟩
theorem doubt_impl (A1 A2 : Option Addr) (n1 c1 n2 c2 : Nat) (w : World) (h1 : n1 ≤ 4000000) (h2 : n2 ≤ 4000000) :
  Calls Tryz.prog 40 #[.agg #[.slice A1 n1 c1, .slice A2 n2 c2]] w fun e w' => e = .returned (.int .i64 ((n1 + n2 : Nat) : Int)) ∧ Below w.heap.size w w' := by
 have hb0 := (Below.refl w.heap.size w).alloc (Nat.le_refl _) (.cells #[.slice A1 n1 c1, .slice A2 n2 c2] 56)
 go_enter Tryz.func40, Tryz.ntmps40
 go_wp2
 go_ret
 exact ⟨by go_num, hb0⟩
theorem doubt_spec (A1 A2 : Option Addr) (n1 c1 n2 c2 : Nat) (w : World) (h1 : n1 ≤ 4000000) (h2 : n2 ≤ 4000000) :
  Calls Tryz.prog 128 #[.agg #[.slice A1 n1 c1, .slice A2 n2 c2]] w fun e w' => e = .returned (.int .i64 ((n1 + n2 : Nat) : Int)) ∧ Below w.heap.size w w' := by
 have hb0 := (Below.refl w.heap.size w).alloc (Nat.le_refl _) (.cells #[.slice A1 n1 c1, .slice A2 n2 c2] 56)
 go_enter Tryz.func128, Tryz.ntmps128
 go_wp2
 go_ret
 exact ⟨by go_num, hb0⟩
theorem fld0 (v1 v2 : Value) : ∀ w : World, (Instr.field 56 (.agg #[v1, v2]) 0).run Tryz.prog w = .ok v1 w := fun _ => by kernel_rfl
theorem fld1 (v1 v2 : Value) : ∀ w : World, (Instr.field 56 (.agg #[v1, v2]) 1).run Tryz.prog w = .ok v2 w := fun _ => by kernel_rfl
set_option maxRecDepth 100000 in
set_option maxHeartbeats 2000000 in
theorem may_at_impl (A : Option Addr) (ca : Nat) (l : List Lg) (D : Option Addr) (cd : Nat) (zs : List Int) (x : Int) (E : Option Addr) (ce : Nat) (ls : List Sc) (th at_ : Int) (p : ByteArray) (w : World) (hA : InK 6 lgC w A l) (hD : IntsIn w D zs) (hs : ∀ z ∈ l, z.f.size ≤ maxLen ∧ z.t.size ≤ maxLen) (hn : l.length ≤ 1048576) (hm : zs.length ≤ 1048576) (hE : InK 6 scC w E ls) (hk : ls.length ≤ 1048576) (hce : ls.length ≤ ce) (hp : ∀ z ∈ ls, z.p.size ≤ maxLen) (hat : -9223372036854775808 ≤ at_) :
  Calls Tryz.prog 51 #[.agg #[.slice A l.length ca, .slice D zs.length cd, .int .i64 x], .slice E ls.length ce, .int .i64 th, .int .i64 at_, .string p] w fun e w' => e = .returned (.bool (atC l zs x (clB l zs x ls th) at_ p)) ∧ Below w.heap.size w w' := by
 have hb0 := (Below.refl w.heap.size w).alloc (Nat.le_refl _) (.cells #[.slice A l.length ca, .slice D zs.length cd, .int .i64 x] 27)
 have HBE := Lib.hid (believed_impl A ca l D cd zs x E ce ls th at_ _ (hA.below hb0) (hD.below hb0) hs hn hm (hE.below hb0) hk hce hp hat)
 have HV := Lib.hid (belP_has (l := l) (zs := zs) (x := x) (C := clB l zs x ls th) (at_ := at_) (p := p))
 have hl := (bel_len (l := l) (zs := zs) (x := x) (C := clB l zs x ls th) (at_ := at_) (fun y hy => clB_mem hy)).1
 have HB := Lib.hid hb0; have HL := Lib.hid hb0.size
 clear hA hD hE hs hp hb0
 generalize belP l zs x (clB l zs x ls th) at_ = PP at *
 generalize belR l zs x (clB l zs x ls th) at_ = RR at *
 rw [← HV.out]
 generalize hB : w.heap.size = B at *
 go_enter Tryz.func51, Tryz.ntmps51
 go_wp2_with fail
 clear hB
 refine HBE.out.mono ?_; rintro e w1 ⟨⟨v1, v2, rfl, o1, o2⟩, hb⟩
 have HC := Lib.hid (contains_own o1 (by omega) p)
 replace HB := Lib.hid (HB.out.trans (hb.mono HL.out))
 have hfd := fld0 v1 v2
 clear o1 o2 hb HBE
 go_wp2_with fail
 refine HC.out.mono ?_; rintro e w2 ⟨rfl, rfl⟩
 go_wp2
 go_ret
 exact ⟨rfl, HB.out⟩
set_option maxRecDepth 100000 in
set_option maxHeartbeats 2000000 in
theorem may_ride_impl (A : Option Addr) (ca : Nat) (l : List Lg) (D : Option Addr) (cd : Nat) (zs : List Int) (x : Int) (E : Option Addr) (ce : Nat) (ls : List Sc) (th at_ : Int) (g d : Int) (w : World) (hA : InK 6 lgC w A l) (hD : IntsIn w D zs) (hs : ∀ z ∈ l, z.f.size ≤ maxLen ∧ z.t.size ≤ maxLen) (hn : l.length ≤ 1048576) (hm : zs.length ≤ 1048576) (hE : InK 6 scC w E ls) (hk : ls.length ≤ 1048576) (hce : ls.length ≤ ce) (hp : ∀ z ∈ ls, z.p.size ≤ maxLen) (hat : -9223372036854775808 ≤ at_) :
  Calls Tryz.prog 43 #[.agg #[.slice A l.length ca, .slice D zs.length cd, .int .i64 x], .slice E ls.length ce, .int .i64 th, .int .i64 at_, .agg #[.int .i64 g, .int .i64 d]] w fun e w' => e = .returned (.bool (rideC l zs x (clB l zs x ls th) at_ ⟨g, d⟩)) ∧ Below w.heap.size w w' := by
 have H3 := two w (.cells #[.slice A l.length ca, .slice D zs.length cd, .int .i64 x] 27) (.cells #[.int .i64 g, .int .i64 d] 32)
 have FN := Lib.hid (show Box3 27 _ w.heap.size _ _ _ from H3.1); have FT := Lib.hid (show Box2 32 _ (w.heap.size + 1) _ _ from H3.2.1); have hb0 := H3.2.2.1
 clear H3
 have HBE := Lib.hid (fun W (h1 : InK 6 lgC W A l) (h2 : IntsIn W D zs) (h3 : InK 6 scC W E ls) => believed_impl A ca l D cd zs x E ce ls th at_ W h1 h2 hs hn hm h3 hk hce hp hat)
 have HV := Lib.hid (belR_has (l := l) (zs := zs) (x := x) (C := clB l zs x ls th) (at_ := at_) (g := g) (d := d))
 have hl := (bel_len (l := l) (zs := zs) (x := x) (C := clB l zs x ls th) (at_ := at_) (fun y hy => clB_mem hy)).2
 have HB := Lib.hid hb0; have HL := Lib.hid hb0.size
 have HA := Lib.hid (hA.below hb0); have HD := Lib.hid (hD.below hb0); have HE := Lib.hid (hE.below hb0)
 clear hA hD hE hs hp hb0 hce hk
 generalize belP l zs x (clB l zs x ls th) at_ = PP at *
 generalize belR l zs x (clB l zs x ls th) at_ = RR at *
 rw [← HV.out]
 generalize hB : w.heap.size = B at *
 go_enter Tryz.func43, Tryz.ntmps43
 go_wp2_with fail
 clear hB
 generalize (w.alloc (.cells #[.slice A l.length ca, .slice D zs.length cd, .int .i64 x] 27)).alloc (.cells #[.int .i64 g, .int .i64 d] 32) = WW at *
 have hfd := fun v1 v2 => fld1 v1 v2
 obtain ⟨b0, b1, b2⟩ := FN.out.cells
 obtain ⟨s0, s1⟩ := FT.out.cells
 go_region_held3 (fun w' => w'.cell? ⟨B, 0, none⟩ = some (.slice A l.length ca) ∧ w'.cell? ⟨B, 1, none⟩ = some (.slice D zs.length cd) ∧ w'.cell? ⟨B, 2, none⟩ = some (.int .i64 x) ∧ w'.cell? ⟨B + 1, 0, none⟩ = some (.int .i64 g) ∧ w'.cell? ⟨B + 1, 1, none⟩ = some (.int .i64 d))
  (go_keep)
  (first
   | (go_at_call 101; refine (HBE.out _ (HA.out.below ?_) (HD.out.below ?_) (HE.out.below ?_)).mono ?_; (focus (first | exact Below.refl _ _ | exact (Below.refl _ _).drew)); (focus (first | exact Below.refl _ _ | exact (Below.refl _ _).drew)); (focus (first | exact Below.refl _ _ | exact (Below.refl _ _).drew)); (rintro e u1 ⟨⟨v1, v2, rfl, o1, o2⟩, hu⟩; (obtain ⟨A2, n2, rfl⟩ := row_opens o2); (have HI := Lib.hid (ins_row o2 tpC_len rfl)); (first | (have hb1 : Below WW.heap.size WW u1 := below_undrew hu) | (have hb1 : Below WW.heap.size WW u1 := hu)); (clear b0 b1 b2 s0 s1); (obtain ⟨b0, b1, b2⟩ := (FN.out.below hb1).cells); (obtain ⟨s0, s1⟩ := (FT.out.below hb1).cells); clear hu o1 o2))
   | (go_at_call 104; refine (contains_tp g d A2 n2 RR _ (HI.out.below ?_) (by omega)).mono ?_; (focus (first | exact Below.refl _ _ | exact (Below.refl _ _).drew)); (rintro e u2 ⟨rfl, hu⟩; (first | (have hb2 : Below WW.heap.size WW u2 := chain hb1 hu) | (have hb2 : Below WW.heap.size WW u2 := chain hb1.drew hu)); (clear b0 b1 b2 s0 s1); (obtain ⟨b0, b1, b2⟩ := (FN.out.below hb2).cells); (obtain ⟨s0, s1⟩ := (FT.out.below hb2).cells); clear hu))
   | fail)
 all_goals
  go_wp2
  go_ret
  exact ⟨rfl, HB.out.trans (hb2.mono HL.out)⟩
end Go.Proofs.YtinijleelhbpoaaGreat

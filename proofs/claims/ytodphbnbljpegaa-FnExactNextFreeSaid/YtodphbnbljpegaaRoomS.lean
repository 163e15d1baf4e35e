/- What a search for room knows: newRoomSearch. -/
import Derived.Test.YtodphbnbljpegaaFreeS
import Derived.Test.YtodphbnbljpegaaLoads
import Derived.Test.YtodphbnbljpegaaMapB
import Derived.Test.YtodphbnbljpegaaOpenTB
namespace Go.Proofs.Ytodphbnbljpegaa
open Go.RowKit
def shutS (ts : List Tp) (k : Nat) : Ts := fun g d => closedT (ts.take k) g d
theorem shut_zero (ts : List Tp) : shutS ts 0 = fun _ _ => false := by funext g d; simp [shutS, closedT]
theorem shut_all (ts : List Tp) : shutS ts ts.length = closedT ts := by funext g d; unfold shutS; rw [List.take_length]
theorem shut_next {ts : List Tp} {k : Nat} (h : k < ts.length) : shutS ts (k + 1) = putS (shutS ts k) ts[k].g ts[k].d := by
  funext a b
  unfold shutS putS closedT
  rw [List.take_succ_eq_append_getElem h, List.any_append]
  simp [eq_comm]
/-- six cells of one block -/
def Box6 (T : TypeId) (W : World) (B : Nat) (v0 v1 v2 v3 v4 v5 : Value) : Prop := W.heap[B]? = some (.cells #[v0, v1, v2, v3, v4, v5] T (0, 0))
section
variable {T : TypeId} {W W' : World} {B : Nat} {v0 v1 v2 v3 v4 v5 : Value}
theorem Box6.lt (h : Box6 T W B v0 v1 v2 v3 v4 v5) : B < W.heap.size := (Array.getElem?_eq_some_iff.1 h).1
theorem Box6.below (h : Box6 T W B v0 v1 v2 v3 v4 v5) (hb : Below W.heap.size W W') : Box6 T W' B v0 v1 v2 v3 v4 v5 := (hb.block B h.lt).trans h
theorem Box6.apart {r : Option Nat} (h : Box6 T W B v0 v1 v2 v3 v4 v5) (hg : W.grownBy W' r) (hn : some B ≠ r) : Box6 T W' B v0 v1 v2 v3 v4 v5 := (hg.block B h.lt hn).trans h
theorem Box6.cells (h : Box6 T W B v0 v1 v2 v3 v4 v5) : W.cell? ⟨B, 0, none⟩ = some v0 ∧ W.cell? ⟨B, 1, none⟩ = some v1 ∧ W.cell? ⟨B, 2, none⟩ = some v2 ∧ W.cell? ⟨B, 3, none⟩ = some v3 ∧ W.cell? ⟨B, 4, none⟩ = some v4 ∧ W.cell? ⟨B, 5, none⟩ = some v5 := by
  unfold Box6 at h; simp [World.cell?, h]
theorem Box6.free (h : Box6 T W B v0 v1 v2 v3 v4 v5) (o : Nat) : W.frozen? ⟨B, o, none⟩ = false := by unfold Box6 at h; simp [World.frozen?, h]
end
/-- what newRoomSearch gives -/
def RoomNew (A : Option Addr) (ca : Nat) (l : List Lg) (D : Option Addr) (cd : Nat) (zs : List Int) (x : Int) (bs : List Bk) (ts : List Tp) (wt : Int) (e : Ending) (w' : World) : Prop :=
  (((bksB l zs x bs && decide (1 ≤ wt)) = false ∧ e = .returned (.tuple #[.agg #[.slice none 0 0, .slice none 0 0, .int .i64 0, .map none, .map none, .int .i64 0], .bool false])) ∨
   ((bksB l zs x bs && decide (1 ≤ wt)) = true ∧ ∃ b1 b2, e = .returned (.tuple #[.agg #[.slice A l.length ca, .slice D zs.length cd, .int .i64 x, .map (some b1), .map (some b2), .int .i64 wt], .bool true]) ∧ MapP w' b1 bs.length (ldP bs bs.length) ∧ MapS w' b2 ts.length (closedT ts)))
theorem six_put {T : TypeId} {W : World} {C : Nat} {v0 v1 v2 v3 v4 v5 : Value} (h : Box6 T W C v0 v1 v2 v3 v4 v5) (y0 y1 y2 y3 y4 y5 : Value) :
    Box6 T ((((((W.setCell ⟨C, 0, none⟩ y0).setCell ⟨C, 1, none⟩ y1).setCell ⟨C, 2, none⟩ y2).setCell ⟨C, 3, none⟩ y3).setCell ⟨C, 4, none⟩ y4).setCell ⟨C, 5, none⟩ y5) C y0 y1 y2 y3 y4 y5 ∧
      W.grownBy ((((((W.setCell ⟨C, 0, none⟩ y0).setCell ⟨C, 1, none⟩ y1).setCell ⟨C, 2, none⟩ y2).setCell ⟨C, 3, none⟩ y3).setCell ⟨C, 4, none⟩ y4).setCell ⟨C, 5, none⟩ y5) (some C) :=
  ⟨heap_set (heap_set (heap_set (heap_set (heap_set (heap_set h 0 y0) 1 y1) 2 y2) 3 y3) 4 y4) 5 y5,
    only_trans (only_trans (only_trans (only_trans (only_trans (only_set _ _ _ _) (only_set _ _ _ _)) (only_set _ _ _ _)) (only_set _ _ _ _)) (only_set _ _ _ _)) (only_set _ _ _ _)⟩
theorem MapS.apart {w w' : World} {b n : Nat} {S : Ts} {row : Option Nat} (h : MapS w b n S) (hg : w.grownBy w' row) (hne : some b ≠ row) : MapS w' b n S := let ⟨D, h1, h2⟩ := h; ⟨D, h1.kept hg hne, h2⟩
set_option maxRecDepth 100000 in
set_option maxHeartbeats 8000000 in
theorem room_new (wt : Int) (A : Option Addr) (ca : Nat) (l : List Lg) (D : Option Addr) (cd : Nat) (zs : List Int) (x : Int) (E : Option Addr) (ce : Nat) (bs : List Bk) (F : Option Addr) (cf : Nat) (ts : List Tp) (w : World) (hA : InK 6 lgC w A l) (hD : IntsIn w D zs) (hs : ∀ z ∈ l, z.f.size ≤ maxLen ∧ z.t.size ≤ maxLen) (hn : l.length ≤ 1048576) (hm : zs.length ≤ 1048576) (hE : InK 4 bkC w E bs) (hbl : bs.length ≤ 1048576) (hF : InK 2 tpC w F ts) (hfl : ts.length ≤ 1048576) (hfb : ∀ t ∈ ts, BdT t) :
    Calls Try.prog 111 #[.agg #[.slice A l.length ca, .slice D zs.length cd, .int .i64 x], .slice E bs.length ce, .slice F ts.length cf, .int .i64 wt] w fun e w' => RoomNew A ca l D cd zs x bs ts wt e w' ∧ Below w.heap.size w w' := by
  have hmm := @run_makeMap Try.prog
  have H2 := Lib.hid (two w (.cells #[.slice A l.length ca, .slice D zs.length cd, .int .i64 x] 27) (.cells #[.slice none 0 0, .slice none 0 0, .int .i64 0, .map none, .map none, .int .i64 0] 127))
  have HA := Lib.hid hA; have HD := Lib.hid hD; have HE := Lib.hid hE; have HF := Lib.hid hF; have HFB := Lib.hid hfb; clear hA hD hE hF hfb
  have HTB := Lib.hid (fun W (h1 : InK 6 lgC W A l) (h2 : IntsIn W D zs) (h3 : InK 4 bkC W E bs) => are_bks_impl A ca l D cd zs x E ce bs W h1 h2 hs hn hm h3 hbl)
  have HLO := Lib.hid (fun W (h : InK 4 bkC W E bs) hbd => loads_of E ce bs W h hbl hbd)
  clear hs
  generalize hB : w.heap.size = B at *
  have HBE := Lib.hid hB
  go_enter Try.func111, Try.ntmps111
  go_wp2_with fail
  clear hB
  generalize (w.alloc (.cells #[.slice A l.length ca, .slice D zs.length cd, .int .i64 x] 27)).alloc (.cells #[.slice none 0 0, .slice none 0 0, .int .i64 0, .map none, .map none, .int .i64 0] 127) = W at *
  obtain ⟨h1, h2, h3, h4⟩ := H2.out
  clear H2
  refine (HTB.out W (HA.out.below (by rw [HBE.out]; exact h3)) (HD.out.below (by rw [HBE.out]; exact h3)) (HE.out.below (by rw [HBE.out]; exact h3))).mono ?_; rintro e w1 ⟨rfl, hb1⟩
  have HX1 := Lib.hid (show Box3 27 w1 B (.slice A l.length ca) (.slice D zs.length cd) (.int .i64 x) from Box3.below h1 hb1); have HT1 := Lib.hid (show Box6 127 w1 (B + 1) (.slice none 0 0) (.slice none 0 0) (.int .i64 0) (.map none) (.map none) (.int .i64 0) from Box6.below h2 hb1)
  have HB1 := Lib.hid (h3.trans (hb1.mono (by omega)))
  clear h1 h2 h3 h4 hb1 HTB
  cases hV1 : bksB l zs x bs with
  | false =>
    have HV := Lib.hid (show (bksB l zs x bs && decide (1 ≤ wt)) = false by rw [hV1]; rfl)
    clear hV1
    obtain ⟨r0, r1, r2, r3, r4, r5⟩ := HT1.out.cells
    have fr := HT1.out.free
    have HP := Lib.hid (six_put HT1.out (.slice none 0 0) (.slice none 0 0) (.int .i64 0) (.map none) (.map none) (.int .i64 0))
    have hBw := HT1.out.lt
    go_wp2
    generalize ((((((w1.setCell ⟨B + 1, 0, none⟩ (.slice none 0 0)).setCell ⟨B + 1, 1, none⟩ (.slice none 0 0)).setCell ⟨B + 1, 2, none⟩ (.int .i64 0)).setCell ⟨B + 1, 3, none⟩ (.map none)).setCell ⟨B + 1, 4, none⟩ (.map none)).setCell ⟨B + 1, 5, none⟩ (.int .i64 0)) = wz at *
    obtain ⟨q0, q1, q2, q3, q4, q5⟩ := HP.out.1.cells
    exact bodyPost_ret (v := .tuple #[.agg #[.slice none 0 0, .slice none 0 0, .int .i64 0, .map none, .map none, .int .i64 0], .bool false]) (by simp [results, Try.results111, go_sem, q0, q1, q2, q3, q4, q5]) rfl
      ⟨.inl ⟨HV.out, rfl⟩, HB1.out.grown HP.out.2 (by omega) (fun q e => by have := Option.some.inj e; omega)⟩
  | true =>
    by_cases hw : wt < 1
    · have hwd : decide (wt < 1) = true := decide_eq_true hw
      have HV := Lib.hid (show (bksB l zs x bs && decide (1 ≤ wt)) = false by rw [decide_eq_false (show ¬ 1 ≤ wt by omega), Bool.and_false])
      clear hV1
      obtain ⟨r0, r1, r2, r3, r4, r5⟩ := HT1.out.cells
      have fr := HT1.out.free
      have HP := Lib.hid (six_put HT1.out (.slice none 0 0) (.slice none 0 0) (.int .i64 0) (.map none) (.map none) (.int .i64 0))
      have hBw := HT1.out.lt
      go_wp2
      generalize ((((((w1.setCell ⟨B + 1, 0, none⟩ (.slice none 0 0)).setCell ⟨B + 1, 1, none⟩ (.slice none 0 0)).setCell ⟨B + 1, 2, none⟩ (.int .i64 0)).setCell ⟨B + 1, 3, none⟩ (.map none)).setCell ⟨B + 1, 4, none⟩ (.map none)).setCell ⟨B + 1, 5, none⟩ (.int .i64 0)) = wz at *
      obtain ⟨q0, q1, q2, q3, q4, q5⟩ := HP.out.1.cells
      exact bodyPost_ret (v := .tuple #[.agg #[.slice none 0 0, .slice none 0 0, .int .i64 0, .map none, .map none, .int .i64 0], .bool false]) (by simp [results, Try.results111, go_sem, q0, q1, q2, q3, q4, q5]) rfl
        ⟨.inl ⟨HV.out, rfl⟩, HB1.out.grown HP.out.2 (by omega) (fun q e => by have := Option.some.inj e; omega)⟩
    · have hwd : decide (wt < 1) = false := decide_eq_false hw
      have HV := Lib.hid (show (bksB l zs x bs && decide (1 ≤ wt)) = true by rw [hV1, decide_eq_true (show 1 ≤ wt by omega)]; rfl)
      have HBD := Lib.hid (fun b (hb : b ∈ bs) => bk_bd (bkAll_ok (bks_of hV1).2.2.1 b hb) hn)
      clear hV1
      have hBw := HT1.out.lt
      go_wp2
      have HM0 := Lib.hid (MapS.made w1)
      have hwal := (Below.refl w1.heap.size w1).alloc (Nat.le_refl _) (.map #[] 0)
      have HX0 := Lib.hid (HX1.out.below hwal); have HT0 := Lib.hid (HT1.out.below hwal); have HB0 := Lib.hid (HB1.out.trans (hwal.mono (by omega)))
      clear hwal HX1 HT1 HB1
      generalize w1.alloc (.map #[] 0) = W2 at *
      generalize w1.heap.size = M at *
      go_loopw [25] (fun i wr => ∃ k : Nat, k ≤ ts.length ∧ i = .int .i64 k ∧ MapS wr M k (shutS ts k) ∧ Below B w wr ∧ Box3 27 wr B (.slice A l.length ca) (.slice D zs.length cd) (.int .i64 x) ∧ Box6 127 wr (B + 1) (.slice none 0 0) (.slice none 0 0) (.int .i64 0) (.map none) (.map none) (.int .i64 0)) (fun i _ => ts.length - (intOf i).toNat)
      case atStart => exact ⟨0, Nat.zero_le _, rfl, by rw [shut_zero]; exact HM0.out, HB0.out, HX0.out, HT0.out⟩
      case round =>
        clear HM0 HB0 HX0 HT0
        obtain ⟨k, hk, rfl, hm, hb, hx, ht⟩ := hrel
        have HM := Lib.hid hm; have HB := Lib.hid hb; have HX := Lib.hid hx; have HT := Lib.hid ht; clear hm hb hx ht
        have hMw := HM.out.lt
        by_cases hlt : (k : Int) < (ts.length : Int)
        · have hkn : k < ts.length := by omega
          obtain ⟨a, rfl, ha, c0, c1⟩ := (HF.out.below (show Below w.heap.size w wr by rw [HBE.out]; exact HB.out)).tp k hkn
          have HN := Lib.hid (shut_next hkn)
          have HG := Lib.hid (HFB.out ts[k] (List.getElem_mem hkn))
          generalize ts[k] = y at *
          obtain ⟨tg, td⟩ := y
          dsimp only at c0 c1
          have hwal := (Below.refl wr.heap.size wr).alloc (Nat.le_refl _) (.cells #[.int .i64 tg, .int .i64 td] 40)
          have HMW := Lib.hid (HM.out.below hwal); have HXW := Lib.hid (HX.out.below hwal); have HTW := Lib.hid (HT.out.below hwal); have HBW := Lib.hid (HB.out.trans (hwal.mono (by omega)))
          have HYW := Lib.hid (Box2.new (T := 40) (v0 := .int .i64 tg) (v1 := .int .i64 td) wr)
          clear hwal
          obtain ⟨w2, hu, hm2, hg2⟩ := HMW.out.update (by omega) HG.out.1 HG.out.2
          have HM2 := Lib.hid hm2; have HG2 := Lib.hid hg2; clear hm2 hg2
          have hwz : B ≤ (wr.alloc (.cells #[.int .i64 tg, .int .i64 td] 40)).heap.size := by simp; omega
          go_wp2
          go_roundw
          case rel => exact ⟨k + 1, by omega, by go_num, by rw [HN.out]; exact HM2.out, HBW.out.grown HG2.out hwz (fun q e => by have := Option.some.inj e; omega), HXW.out.apart HG2.out (fun e => by have := Option.some.inj e; omega), HTW.out.apart HG2.out (fun e => by have := Option.some.inj e; omega)⟩
          case measure => simp [intOf]; omega
        · obtain rfl : k = ts.length := by omega
          have HLP := Lib.hid (fun W' (h : Below wr.heap.size wr W') => HLO.out W' (HE.out.below (show Below w.heap.size w W' by rw [HBE.out]; exact HB.out.trans (h.mono (by have := HT.out.lt; omega)))) HBD.out)
          obtain ⟨n0, n1, n2⟩ := HX.out.cells
          obtain ⟨r0, r1, r2, r3, r4, r5⟩ := HT.out.cells
          have hBr := HT.out.lt
          have hf : ∀ o, wr.frozen? ⟨B + 1, o, none⟩ = false := HT.out.free
          go_wp2_with fail
          go_region_held3 (fun w' => w'.cell? ⟨B, 0, none⟩ = some (.slice A l.length ca) ∧ w'.cell? ⟨B, 1, none⟩ = some (.slice D zs.length cd) ∧ w'.cell? ⟨B, 2, none⟩ = some (.int .i64 x))
            (go_keep)
            (first
              | (go_at_call 106; refine (HLP.out _ ?_).mono ?_; (focus (first | exact Below.refl _ _ | exact (Below.refl _ _).drew)); (rintro e u ⟨bm, rfl, hbm, hmp, hu⟩; (first | (have hb2 : Below wr.heap.size wr u := below_undrew hu) | (have hb2 : Below wr.heap.size wr u := hu)); have k0 := (hb2.cell (p := ⟨B, 0, none⟩) (show B < wr.heap.size by omega)).trans n0; have k1 := (hb2.cell (p := ⟨B, 1, none⟩) (show B < wr.heap.size by omega)).trans n1; have k2 := (hb2.cell (p := ⟨B, 2, none⟩) (show B < wr.heap.size by omega)).trans n2; have q0 := (hb2.cell (p := ⟨B + 1, 0, none⟩) hBr).trans r0; have q1 := (hb2.cell (p := ⟨B + 1, 1, none⟩) hBr).trans r1; have q2 := (hb2.cell (p := ⟨B + 1, 2, none⟩) hBr).trans r2; have q3 := (hb2.cell (p := ⟨B + 1, 3, none⟩) hBr).trans r3; have q4 := (hb2.cell (p := ⟨B + 1, 4, none⟩) hBr).trans r4; have q5 := (hb2.cell (p := ⟨B + 1, 5, none⟩) hBr).trans r5; have qf := HT.out.below hb2 |>.free; have HU := Lib.hid hb2; have HMP := Lib.hid hmp; have hbq : wr.heap.size ≤ bm := hbm; clear hu hbm hmp hb2)))
          all_goals
            have HP := Lib.hid (six_put (HT.out.below HU.out) (.slice A l.length ca) (.slice D zs.length cd) (.int .i64 x) (.map (some bm)) (.map (some M)) (.int .i64 wt))
            have HBZ := Lib.hid (((HB.out.trans (HU.out.mono (by omega))).grown HP.out.2 (by have := HU.out.size; omega) (fun q e => by have := Option.some.inj e; omega)))
            have HMZ := Lib.hid (HMP.out.kept HP.out.2 (fun e => by have := Option.some.inj e; omega))
            have HSZ := Lib.hid ((HM.out.below HU.out).apart HP.out.2 (fun e => by have := Option.some.inj e; omega))
            rw [shut_all] at HSZ
            go_wp2
            generalize ((((((u.setCell ⟨B + 1, 0, none⟩ (.slice A l.length ca)).setCell ⟨B + 1, 1, none⟩ (.slice D zs.length cd)).setCell ⟨B + 1, 2, none⟩ (.int .i64 x)).setCell ⟨B + 1, 3, none⟩ (.map (some bm))).setCell ⟨B + 1, 4, none⟩ (.map (some M))).setCell ⟨B + 1, 5, none⟩ (.int .i64 wt)) = wz at *
            obtain ⟨z0, z1, z2, z3, z4, z5⟩ := HP.out.1.cells
            exact bodyPost_ret (v := .tuple #[.agg #[.slice A l.length ca, .slice D zs.length cd, .int .i64 x, .map (some bm), .map (some M), .int .i64 wt], .bool true]) (by simp [results, Try.results111, go_sem, z0, z1, z2, z3, z4, z5]) rfl
              ⟨.inr ⟨HV.out, bm, M, rfl, HMZ.out, HSZ.out⟩, HBZ.out⟩
end Go.Proofs.Ytodphbnbljpegaa

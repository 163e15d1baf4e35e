/- loadsOf: the loads of all trips, as a map. -/
import Derived.Test.YtadcmngooobeiabGreatMapP
import Derived.Deep.RegionLaw
namespace Go.Proofs.YtadcmngooobeiabGreat
open Go.RowKit
/-- behind the first k bookings: a trip that one of them is of has its load -/
def ldP (l : List Bk) (k : Nat) : Tk := fun g d => if (l.take k).any (onT g d) then some (loadK l g d k) else none
theorem ldP_zero (l : List Bk) : ldP l 0 = fun _ _ => none := by funext g d; simp [ldP]
theorem loadK_none {l : List Bk} {g d : Int} {k : Nat} (h : (l.take k).any (onT g d) = false) : loadK l g d k = 0 := by
  unfold loadK
  generalize l.take k = q at *
  suffices ∀ (q : List Bk) (n : Int), q.any (onT g d) = false → q.foldl (addT g d) n = n from this q 0 h
  intro q
  induction q with
  | nil => intro n _; rfl
  | cons a q ih =>
    intro n hq
    rw [List.any_cons, Bool.or_eq_false_iff] at hq
    rw [List.foldl_cons, ih _ hq.2]
    unfold addT; rw [hq.1]; rfl
theorem ldP_getD (l : List Bk) (k : Nat) (g d : Int) : (ldP l k g d).getD 0 = loadK l g d k := by
  unfold ldP
  by_cases h : (l.take k).any (onT g d) = true
  · rw [if_pos h]; rfl
  · rw [if_neg h]; rw [loadK_none (by simpa using h)]; rfl
theorem ldP_next {l : List Bk} {k : Nat} (h : k < l.length) : ldP l (k + 1) = putP (ldP l k) l[k].g l[k].d (wrap64 (loadK l l[k].g l[k].d k + l[k].m)) := by
  funext a b
  by_cases e : l[k].g = a ∧ l[k].d = b
  · have hon : onT a b l[k] = true := by obtain ⟨e1, e2⟩ := e; subst e1 e2; exact onT_yes
    have hp : putP (ldP l k) l[k].g l[k].d (wrap64 (loadK l l[k].g l[k].d k + l[k].m)) a b = some (wrap64 (loadK l l[k].g l[k].d k + l[k].m)) := by
      obtain ⟨e1, e2⟩ := e; rw [← e1, ← e2]; exact putP_same _ _ _ _
    rw [hp]
    unfold ldP
    rw [List.take_succ_eq_append_getElem h, List.any_append, loadK_next a b h, if_pos (by simp [hon])]
    unfold addT; rw [hon, ← e.1, ← e.2]; rfl
  · have hon : onT a b l[k] = false := onT_no e
    rw [putP_other _ _ _ _ _ _ (fun h => e ⟨h.1.symm, h.2.symm⟩)]
    unfold ldP
    rw [List.take_succ_eq_append_getElem h, List.any_append, loadK_next a b h]
    unfold addT; rw [hon]; simp [hon]
theorem wrap64_bd (x : Int) : Bd (wrap64 x) := by unfold wrap64; omega
set_option maxRecDepth 100000 in
set_option maxHeartbeats 2000000 in
theorem loads_of (A : Option Addr) (ca : Nat) (l : List Bk) (w : World) (hA : InK 4 bkC w A l) (hn : l.length ≤ 1048576) (hbd : ∀ b ∈ l, Bd b.g ∧ Bd b.d) :
    Calls Tryz.prog 102 #[.slice A l.length ca] w fun e w' => ∃ b, e = .returned (.map (some b)) ∧ w.heap.size ≤ b ∧ MapP w' b l.length (ldP l l.length) ∧ Below w.heap.size w w' := by
  have hmm := @run_makeMap Tryz.prog
  have HA := Lib.hid hA; clear hA
  have HD := Lib.hid hbd; clear hbd
  go_enter Tryz.func102, Tryz.ntmps102
  go_wp2
  have HM0 := Lib.hid (MapP.made w)
  have HB0 := Lib.hid ((Below.refl w.heap.size w).alloc (Nat.le_refl _) (.map #[] 0))
  generalize hB : w.heap.size = B at *
  have HBE := Lib.hid hB; clear hB
  go_loopw [9] (fun i wr => ∃ k : Nat, k ≤ l.length ∧ i = .int .i64 k ∧ MapP wr B k (ldP l k) ∧ Below B w wr) (fun i _ => l.length - (intOf i).toNat)
  case atStart => exact ⟨0, Nat.zero_le _, rfl, by rw [ldP_zero]; exact HM0.out, HB0.out⟩
  case round =>
    clear HM0 HB0
    obtain ⟨k, hk, rfl, hm, hb⟩ := hrel
    have HM := Lib.hid hm; have HB := Lib.hid hb; clear hm hb
    by_cases hlt : (k : Int) < (l.length : Int)
    · have hkn : k < l.length := by omega
      obtain ⟨a, rfl, ha, c0, c1, c2, c3⟩ := (HA.out.below (show Below w.heap.size w wr by rw [HBE.out]; exact HB.out)).bk k hkn
      have HN := Lib.hid (ldP_next hkn)
      have HG := Lib.hid (HD.out l[k] (List.getElem_mem hkn))
      have HV := Lib.hid (ldP_getD l k l[k].g l[k].d)
      generalize l[k] = y at *
      obtain ⟨yh, yg, yd, ym⟩ := y
      dsimp only at c0 c1 c2 c3
      have hbz : B ≤ wr.heap.size := by rw [← HBE.out]; exact HB.out.size
      have hBl := HM.out.lt
      have HX := Lib.hid (heap_alloc_new wr (.cells #[.int .i64 yh, .int .i64 yg, .int .i64 yd, .int .i64 ym] 106))
      have HMX := Lib.hid (HM.out.below ((Below.refl _ _).alloc (Nat.le_refl _) (.cells #[.int .i64 yh, .int .i64 yg, .int .i64 yd, .int .i64 ym] 106)))
      have HBX := Lib.hid (HB.out.alloc hbz (.cells #[.int .i64 yh, .int .i64 yg, .int .i64 yd, .int .i64 ym] 106))
      have hXs : wr.heap.size < (wr.alloc (.cells #[.int .i64 yh, .int .i64 yg, .int .i64 yd, .int .i64 ym] 106)).heap.size := by simp
      go_wp2
      generalize wr.alloc (.cells #[.int .i64 yh, .int .i64 yg, .int .i64 yd, .int .i64 ym] 106) = W at *
      generalize wr.heap.size = X at *
      rw [← HV.out] at HN
      obtain ⟨v0, stp, w1, w3, E1, hg1, E2, E3, hg3, hm3⟩ := HMX.out.entry (by omega) HG.out.1 HG.out.2 (wrap64 ((ldP l k yg yd).getD 0 + ym)) (wrap64_bd _)
      have E0 := fun m => MapP.look (w := W.drewN m) (b := B) (n := k) (G := ldP l k) HMX.out HG.out.1 HG.out.2
      have hX1 : w1.heap[X]? = _ := (hg1.block X hXs (fun e => by injection e with e; omega)).trans HX.out
      obtain ⟨b0, b1, b2, b3, _, _, _, _⟩ := row4 HX.out
      obtain ⟨d0, d1, d2, d3, _, _, _, _⟩ := row4 hX1
      clear c0 c1 c2 c3
      generalize (ldP l k yg yd).getD 0 = C at *
      have HM3 := Lib.hid hm3; have HG3 := Lib.hid hg3; clear hm3 hg3 hg1 hX1
      rw [show W = W.drewN 0 from rfl]
      have HBZ := Lib.hid (HBX.out.grown HG3.out (by omega) (fun q e => by injection e with e; omega))
      go_region
      go_wp2
      go_roundw
      case rel => exact ⟨k + 1, by omega, by go_num, by rw [HN.out]; exact HM3.out, below_drewN HBZ.out _⟩
      case measure => simp [intOf]; omega
    · obtain rfl : k = l.length := by omega
      go_wp2
      go_ret
      exact ⟨B, rfl, by rw [HBE.out]; exact Nat.le_refl _, HM.out, by rw [HBE.out]; exact HB.out⟩
end Go.Proofs.YtadcmngooobeiabGreat

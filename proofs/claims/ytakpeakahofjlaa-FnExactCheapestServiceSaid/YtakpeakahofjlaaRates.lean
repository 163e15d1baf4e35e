/- Contracts of the two texts of AreRates. -/
import Derived.Test.YtakpeakahofjlaaRate
import Derived.Test.YtakpeakahofjlaaFar
namespace Go.Proofs.Ytakpeakahofjlaa
open Go.RowKit
def rateB (z s l p n : Int) : Bool := decide (0 ≤ z ∧ z < n) && (inB s 1 3 && (inB l 1 1000000000 && inB p 0 100000))
def aftB (z s l p z' s' l' p' : Int) : Bool := decide (z < z') || (decide (z = z') && (decide (s < s') || (decide (s = s') && (decide (l < l') && decide (p ≤ p')))))
def rAt (l : List Rt) (j : Nat) : Rt := l.getD j ⟨0, 0, 0, 0⟩
def rOk (r : Rt) (n : Int) : Bool := rateB r.z r.s r.l r.p n
def rAft (a b : Rt) : Bool := aftB a.z a.s a.l a.p b.z b.s b.l b.p
def rStep (n : Int) (l : List Rt) (j : Nat) : Bool := rOk (rAt l j) n && (j == 0 || rAft (rAt l (j - 1)) (rAt l j))
def areRB (l : List Rt) (n : Int) : Bool := decide (l.length ≤ 24) && (List.range l.length).all (rStep n l)
theorem rAt_get {l : List Rt} {j : Nat} (h : j < l.length) : rAt l j = l[j] := by simp [rAt, List.getD, h]
theorem areR_no {l : List Rt} {n : Int} {j : Nat} (h : j < l.length) (hs : rStep n l j = false) : areRB l n = false := by
  unfold areRB
  have : (List.range l.length).all (rStep n l) = false := by rw [List.all_eq_false]; exact ⟨j, List.mem_range.2 h, by simp [hs]⟩
  simp [this]
theorem areR_long {l : List Rt} {n : Int} (h : 24 < l.length) : areRB l n = false := by
  unfold areRB; rw [decide_eq_false (by omega)]; rfl
theorem areR_yes {l : List Rt} {n : Int} (h : l.length ≤ 24) (hs : ∀ j, j < l.length → rStep n l j = true) : areRB l n = true := by
  unfold areRB
  rw [decide_eq_true h, Bool.true_and, List.all_eq_true]
  exact fun j hj => hs j (List.mem_range.1 hj)
theorem rStep_bad {l : List Rt} {n : Int} {j : Nat} (h : j < l.length) (hz : rOk l[j] n = false) : rStep n l j = false := by
  unfold rStep; rw [rAt_get h, hz]; rfl
theorem rStep_zero {l : List Rt} {n : Int} (h : 0 < l.length) (hz : rOk l[0] n = true) : rStep n l 0 = true := by
  unfold rStep; rw [rAt_get h, hz]; rfl
theorem rStep_succ {l : List Rt} {n : Int} {j : Nat} (h : j + 1 < l.length) (hz : rOk l[j + 1] n = true) : rStep n l (j + 1) = rAft l[j] l[j + 1] := by
  unfold rStep; rw [rAt_get h, hz, Nat.add_sub_cancel, rAt_get (show j < l.length by omega)]; simp
set_option maxRecDepth 100000 in
set_option maxHeartbeats 2000000 in
theorem is_rate (z s l p n : Int) (w : World) :
    Calls Try.prog 88 #[.agg #[.int .i64 z, .int .i64 s, .int .i64 l, .int .i64 p], .int .i64 n] w fun e w' => e = .returned (.bool (rateB z s l p n)) ∧ Below w.heap.size w w' := by
  by_cases h0 : 0 ≤ z
  rotate_left
  · have HR := Lib.hid (show rateB z s l p n = false by simp [rateB, h0])
    go_enter Try.func88, Try.ntmps88
    go_wp2
    go_ret
    exact ⟨ret_bool HR.out.symm, (Below.refl _ _).alloc (Nat.le_refl _) _⟩
  by_cases h1 : z < n
  rotate_left
  · have HR := Lib.hid (show rateB z s l p n = false by simp [rateB, h1])
    go_enter Try.func88, Try.ntmps88
    go_wp2
    go_ret
    exact ⟨ret_bool HR.out.symm, (Below.refl _ _).alloc (Nat.le_refl _) _⟩
  by_cases h2 : 1 ≤ s
  rotate_left
  · have HR := Lib.hid (show rateB z s l p n = false by simp [rateB, inB, h2])
    go_enter Try.func88, Try.ntmps88
    go_wp2
    go_ret
    exact ⟨ret_bool HR.out.symm, (Below.refl _ _).alloc (Nat.le_refl _) _⟩
  by_cases h3 : s ≤ 3
  rotate_left
  · have HR := Lib.hid (show rateB z s l p n = false by simp [rateB, inB, h3])
    go_enter Try.func88, Try.ntmps88
    go_wp2
    go_ret
    exact ⟨ret_bool HR.out.symm, (Below.refl _ _).alloc (Nat.le_refl _) _⟩
  by_cases h4 : 1 ≤ l
  rotate_left
  · have HR := Lib.hid (show rateB z s l p n = false by simp [rateB, inB, h4])
    go_enter Try.func88, Try.ntmps88
    go_wp2
    go_ret
    exact ⟨ret_bool HR.out.symm, (Below.refl _ _).alloc (Nat.le_refl _) _⟩
  by_cases h5 : l ≤ 1000000000
  rotate_left
  · have HR := Lib.hid (show rateB z s l p n = false by simp [rateB, inB, h5])
    go_enter Try.func88, Try.ntmps88
    go_wp2
    go_ret
    exact ⟨ret_bool HR.out.symm, (Below.refl _ _).alloc (Nat.le_refl _) _⟩
  by_cases h6 : 0 ≤ p
  rotate_left
  · have HR := Lib.hid (show rateB z s l p n = false by simp [rateB, inB, h6])
    go_enter Try.func88, Try.ntmps88
    go_wp2
    go_ret
    exact ⟨ret_bool HR.out.symm, (Below.refl _ _).alloc (Nat.le_refl _) _⟩
  by_cases h7 : p ≤ 100000
  rotate_left
  · have HR := Lib.hid (show rateB z s l p n = false by simp [rateB, inB, h7])
    go_enter Try.func88, Try.ntmps88
    go_wp2
    go_ret
    exact ⟨ret_bool HR.out.symm, (Below.refl _ _).alloc (Nat.le_refl _) _⟩
  have HR := Lib.hid (show rateB z s l p n = true by simp [rateB, inB, h0, h1, h2, h3, h4, h5, h6, h7])
  go_enter Try.func88, Try.ntmps88
  go_wp2
  go_ret
  exact ⟨ret_bool HR.out.symm, (Below.refl _ _).alloc (Nat.le_refl _) _⟩
set_option maxRecDepth 100000 in
set_option maxHeartbeats 2000000 in
theorem can_prec (z s l p z' s' l' p' : Int) (w : World) :
    Calls Try.prog 89 #[.agg #[.int .i64 z, .int .i64 s, .int .i64 l, .int .i64 p], .agg #[.int .i64 z', .int .i64 s', .int .i64 l', .int .i64 p']] w fun e w' => e = .returned (.bool (aftB z s l p z' s' l' p')) ∧ Below w.heap.size w w' := by
  by_cases a1 : z < z'
  · have a2 : ¬ z = z' := by omega
    have HR := Lib.hid (show aftB z s l p z' s' l' p' = true by simp [aftB, a1])
    have q1z : (z == z') = false := by simp; omega
    have q2z : (z' == z) = false := by simp; omega
    go_enter Try.func89, Try.ntmps89
    go_wp2
    go_ret
    exact ⟨ret_bool HR.out.symm, ((Below.refl _ _).alloc (Nat.le_refl _) _).alloc (by simp) _⟩
  · by_cases a2 : z = z'
    rotate_left
    · have a3 : z' < z := by omega
      have HR := Lib.hid (show aftB z s l p z' s' l' p' = false by simp [aftB, a1, a2])
      have q1z : (z == z') = false := by simp; omega
      have q2z : (z' == z) = false := by simp; omega
      go_enter Try.func89, Try.ntmps89
      go_wp2
      go_ret
      exact ⟨ret_bool HR.out.symm, ((Below.refl _ _).alloc (Nat.le_refl _) _).alloc (by simp) _⟩
    · subst a2
      by_cases b1 : s < s'
      · have b2 : ¬ s = s' := by omega
        have HR := Lib.hid (show aftB z s l p z s' l' p' = true by simp [aftB, b1])
        have q1s : (s == s') = false := by simp; omega
        have q2s : (s' == s) = false := by simp; omega
        go_enter Try.func89, Try.ntmps89
        go_wp2
        go_ret
        exact ⟨ret_bool HR.out.symm, ((Below.refl _ _).alloc (Nat.le_refl _) _).alloc (by simp) _⟩
      · by_cases b2 : s = s'
        rotate_left
        · have b3 : s' < s := by omega
          have HR := Lib.hid (show aftB z s l p z s' l' p' = false by simp [aftB, b1, b2])
          have q1s : (s == s') = false := by simp; omega
          have q2s : (s' == s) = false := by simp; omega
          go_enter Try.func89, Try.ntmps89
          go_wp2
          go_ret
          exact ⟨ret_bool HR.out.symm, ((Below.refl _ _).alloc (Nat.le_refl _) _).alloc (by simp) _⟩
        · subst b2
          by_cases c1 : l < l'
          rotate_left
          · have c2 : l' ≤ l := by omega
            have HR := Lib.hid (show aftB z s l p z s l' p' = false by simp [aftB, c1])
            go_enter Try.func89, Try.ntmps89
            go_wp2
            go_ret
            exact ⟨ret_bool HR.out.symm, ((Below.refl _ _).alloc (Nat.le_refl _) _).alloc (by simp) _⟩
          · by_cases d1 : p ≤ p'
            · have HR := Lib.hid (show aftB z s l p z s l' p' = true by simp [aftB, c1, d1])
              go_enter Try.func89, Try.ntmps89
              go_wp2
              go_ret
              exact ⟨ret_bool HR.out.symm, ((Below.refl _ _).alloc (Nat.le_refl _) _).alloc (by simp) _⟩
            · have d2 : p' < p := by omega
              have HR := Lib.hid (show aftB z s l p z s l' p' = false by simp [aftB, c1, d1])
              go_enter Try.func89, Try.ntmps89
              go_wp2
              go_ret
              exact ⟨ret_bool HR.out.symm, ((Below.refl _ _).alloc (Nat.le_refl _) _).alloc (by simp) _⟩
set_option maxRecDepth 100000 in
set_option maxHeartbeats 2000000 in
theorem aft_spec (z s l p z' s' l' p' : Int) (w : World) :
    Calls Try.prog 86 #[.agg #[.int .i64 z, .int .i64 s, .int .i64 l, .int .i64 p], .agg #[.int .i64 z', .int .i64 s', .int .i64 l', .int .i64 p']] w fun e w' => e = .returned (.bool (aftB z s l p z' s' l' p')) ∧ Below w.heap.size w w' := by
  by_cases a1 : z < z'
  · have a2 : ¬ z = z' := by omega
    have HR := Lib.hid (show aftB z s l p z' s' l' p' = true by simp [aftB, a1])
    have q1z : (z == z') = false := by simp; omega
    have q2z : (z' == z) = false := by simp; omega
    go_enter Try.func86, Try.ntmps86
    go_wp2
    go_ret
    exact ⟨ret_bool HR.out.symm, ((Below.refl _ _).alloc (Nat.le_refl _) _).alloc (by simp) _⟩
  · by_cases a2 : z = z'
    rotate_left
    · have a3 : z' < z := by omega
      have HR := Lib.hid (show aftB z s l p z' s' l' p' = false by simp [aftB, a1, a2])
      have q1z : (z == z') = false := by simp; omega
      have q2z : (z' == z) = false := by simp; omega
      go_enter Try.func86, Try.ntmps86
      go_wp2
      go_ret
      exact ⟨ret_bool HR.out.symm, ((Below.refl _ _).alloc (Nat.le_refl _) _).alloc (by simp) _⟩
    · subst a2
      by_cases b1 : s < s'
      · have b2 : ¬ s = s' := by omega
        have HR := Lib.hid (show aftB z s l p z s' l' p' = true by simp [aftB, b1])
        have q1s : (s == s') = false := by simp; omega
        have q2s : (s' == s) = false := by simp; omega
        go_enter Try.func86, Try.ntmps86
        go_wp2
        go_ret
        exact ⟨ret_bool HR.out.symm, ((Below.refl _ _).alloc (Nat.le_refl _) _).alloc (by simp) _⟩
      · by_cases b2 : s = s'
        rotate_left
        · have b3 : s' < s := by omega
          have HR := Lib.hid (show aftB z s l p z s' l' p' = false by simp [aftB, b1, b2])
          have q1s : (s == s') = false := by simp; omega
          have q2s : (s' == s) = false := by simp; omega
          go_enter Try.func86, Try.ntmps86
          go_wp2
          go_ret
          exact ⟨ret_bool HR.out.symm, ((Below.refl _ _).alloc (Nat.le_refl _) _).alloc (by simp) _⟩
        · subst b2
          by_cases c1 : l < l'
          rotate_left
          · have c2 : l' ≤ l := by omega
            have HR := Lib.hid (show aftB z s l p z s l' p' = false by simp [aftB, c1])
            go_enter Try.func86, Try.ntmps86
            go_wp2
            go_ret
            exact ⟨ret_bool HR.out.symm, ((Below.refl _ _).alloc (Nat.le_refl _) _).alloc (by simp) _⟩
          · by_cases d1 : p ≤ p'
            · have HR := Lib.hid (show aftB z s l p z s l' p' = true by simp [aftB, c1, d1])
              go_enter Try.func86, Try.ntmps86
              go_wp2
              go_ret
              exact ⟨ret_bool HR.out.symm, ((Below.refl _ _).alloc (Nat.le_refl _) _).alloc (by simp) _⟩
            · have d2 : p' < p := by omega
              have HR := Lib.hid (show aftB z s l p z s l' p' = false by simp [aftB, c1, d1])
              go_enter Try.func86, Try.ntmps86
              go_wp2
              go_ret
              exact ⟨ret_bool HR.out.symm, ((Below.refl _ _).alloc (Nat.le_refl _) _).alloc (by simp) _⟩
set_option maxRecDepth 100000 in
set_option maxHeartbeats 4000000 in
theorem are_rates (A : Option Addr) (cap : Nat) (l : List Rt) (n : Int) (w : World) (hA : InK 4 rC w A l) (hn : l.length ≤ 1048576) :
    Calls Try.prog 55 #[.slice A l.length cap, .int .i64 n] w fun e w' => e = .returned (.bool (areRB l n)) ∧ Below w.heap.size w w' := by
  have HA := Lib.hid hA; clear hA
  by_cases h8 : (24 : Int) < (l.length : Int)
  · go_enter Try.func55, Try.ntmps55
    go_wp2
    go_ret
    exact ⟨ret_bool (areR_long (by omega)).symm, Below.refl _ _⟩
  go_enter Try.func55, Try.ntmps55
  go_wp2
  go_loopw [12] (fun i wr => ∃ k : Nat, k ≤ l.length ∧ i = .int .i64 k ∧ Hid (∀ j, j < k → rStep n l j = true) ∧ Below w.heap.size w wr) (fun i _ => l.length - (intOf i).toNat)
  case atStart => exact ⟨0, Nat.zero_le _, rfl, Lib.hid (fun j h => by omega), Below.refl _ _⟩
  case round =>
    obtain ⟨k, hk, rfl, hd, hb⟩ := hrel
    by_cases hlt : (k : Int) < (l.length : Int)
    · have hkn : k < l.length := by omega
      have hbz := hb.size
      obtain ⟨g, rfl, hg, c0, c1, c2, c3⟩ := (HA.out.below hb).rate k hkn
      have HL := Lib.hid (show ∀ j (hj : j < l.length), wr.cell? ⟨g, j * 4, none⟩ = some (.int .i64 l[j].z) ∧ wr.cell? ⟨g, j * 4 + 1, none⟩ = some (.int .i64 l[j].s) ∧ wr.cell? ⟨g, j * 4 + 2, none⟩ = some (.int .i64 l[j].l) ∧ wr.cell? ⟨g, j * 4 + 3, none⟩ = some (.int .i64 l[j].p) from fun j hj => by
        obtain ⟨g', e, _, m0, m1, m2, m3⟩ := (HA.out.below hb).rate j hj
        cases e; exact ⟨m0, m1, m2, m3⟩)
      obtain ⟨z, hz⟩ : ∃ z, z = l[k].z := ⟨_, rfl⟩
      obtain ⟨s, hs⟩ : ∃ s, s = l[k].s := ⟨_, rfl⟩
      obtain ⟨q, hq⟩ : ∃ q, q = l[k].l := ⟨_, rfl⟩
      obtain ⟨p, hp⟩ : ∃ p, p = l[k].p := ⟨_, rfl⟩
      have HB0 := Lib.hid (show rOk l[k] n = rateB z s q p n by rw [hz, hs, hq, hp]; rfl)
      have HP := Lib.hid (And.intro hz (And.intro hs (And.intro hq hp)))
      rw [← hz] at c0; rw [← hs] at c1; rw [← hq] at c2; rw [← hp] at c3
      clear hz hs hq hp
      have HI := Lib.hid (fun W => is_rate z s q p n W)
      cases hrb : rateB z s q p n with
      | false =>
        have HN := Lib.hid (areR_no hkn (rStep_bad hkn (HB0.out.trans hrb)))
        rw [hrb] at HI; clear hrb
        go_wp2_with fail
        obtain ⟨W, hW⟩ : ∃ W, W = wr.alloc (.cells #[.int .i64 z, .int .i64 s, .int .i64 q, .int .i64 p] 87) := ⟨_, rfl⟩
        rw [← hW]
        have p0 : W.cell? ⟨wr.heap.size, 0, none⟩ = some (.int .i64 z) := by rw [hW]; go_simp
        have p1 : W.cell? ⟨wr.heap.size, 1, none⟩ = some (.int .i64 s) := by rw [hW]; go_simp
        have p2 : W.cell? ⟨wr.heap.size, 2, none⟩ = some (.int .i64 q) := by rw [hW]; go_simp
        have p3 : W.cell? ⟨wr.heap.size, 3, none⟩ = some (.int .i64 p) := by rw [hW]; go_simp
        have hzW : wr.heap.size < W.heap.size := by rw [hW]; simp
        have bW : Below w.heap.size w W := by rw [hW]; exact hb.alloc hbz _
        have HF0 := far_cell hzW p0; have HF1 := far_cell hzW p1; have HF2 := far_cell hzW p2; have HF3 := far_cell hzW p3
        clear hW c0 c1 c2 c3 p0 p1 p2 p3
        refine wp_region_far (by kernel_rfl) (by kernel_rfl) ?_
        repeat (any_goals (first | go_big_quiet_step (((first | (go_at_call 88; with_reducible exact call_far (HI.out _))))) | quiet_step (((first | (go_at_call 88; with_reducible exact call_far (HI.out _)))))))
        refine wpQuiet_nil ?_; intro w1 hw1
        have hb1 : Below W.heap.size W w1 := by obtain ⟨x, rfl⟩ := hw1; exact below_far W x
        clear hw1
        go_wp2
        go_ret
        exact ⟨ret_bool HN.out.symm, bW.trans (hb1.mono (by omega))⟩
      | true =>
        rw [hrb] at HI
        have HT := Lib.hid (HB0.out.trans hrb); clear hrb
        by_cases hk00 : k = 0
        · subst hk00
          have HN := Lib.hid (rStep_zero hkn HT.out)
          rw [show ((0 : Nat) : Int) = 0 from rfl]
          go_wp2_with fail
          obtain ⟨W, hW⟩ : ∃ W, W = wr.alloc (.cells #[.int .i64 z, .int .i64 s, .int .i64 q, .int .i64 p] 87) := ⟨_, rfl⟩
          rw [← hW]
          have p0 : W.cell? ⟨wr.heap.size, 0, none⟩ = some (.int .i64 z) := by rw [hW]; go_simp
          have p1 : W.cell? ⟨wr.heap.size, 1, none⟩ = some (.int .i64 s) := by rw [hW]; go_simp
          have p2 : W.cell? ⟨wr.heap.size, 2, none⟩ = some (.int .i64 q) := by rw [hW]; go_simp
          have p3 : W.cell? ⟨wr.heap.size, 3, none⟩ = some (.int .i64 p) := by rw [hW]; go_simp
          have hzW : wr.heap.size < W.heap.size := by rw [hW]; simp
          have bW : Below w.heap.size w W := by rw [hW]; exact hb.alloc hbz _
          have HF0 := far_cell hzW p0; have HF1 := far_cell hzW p1; have HF2 := far_cell hzW p2; have HF3 := far_cell hzW p3
          clear hW c0 c1 c2 c3 p0 p1 p2 p3
          refine wp_region_far (by kernel_rfl) (by kernel_rfl) ?_
          repeat (any_goals (first | go_big_quiet_step (((first | (go_at_call 88; with_reducible exact call_far (HI.out _))))) | quiet_step (((first | (go_at_call 88; with_reducible exact call_far (HI.out _)))))))
          refine wpQuiet_nil ?_; intro w1 hw1
          have hb1 : Below W.heap.size W w1 := by obtain ⟨x, rfl⟩ := hw1; exact below_far W x
          clear hw1
          go_wp2
          go_roundw
          case rel => exact ⟨1, by omega, by go_num, Lib.hid (fun j hj => by obtain rfl : j = 0 := (by omega); exact HN.out), bW.trans (hb1.mono (by omega))⟩
          case measure => simp [intOf]; omega
        · obtain ⟨k', hkk⟩ : ∃ k', k = k' + 1 := ⟨k - 1, by omega⟩
          have HKK := Lib.hid hkk
          obtain ⟨m0, m1, m2, m3⟩ := HL.out k' (by omega)
          have HST := Lib.hid (show rStep n l k = rAft (l[k']'(by omega)) l[k] by subst hkk; exact rStep_succ hkn HT.out)
          obtain ⟨z', hz⟩ : ∃ z', z' = (l[k']'(by omega)).z := ⟨_, rfl⟩
          obtain ⟨s', hs⟩ : ∃ s', s' = (l[k']'(by omega)).s := ⟨_, rfl⟩
          obtain ⟨q', hq⟩ : ∃ q', q' = (l[k']'(by omega)).l := ⟨_, rfl⟩
          obtain ⟨p', hp⟩ : ∃ p', p' = (l[k']'(by omega)).p := ⟨_, rfl⟩
          have HE := Lib.hid (show rStep n l k = aftB z' s' q' p' z s q p by
            rw [HST.out]
            rw [HP.out.1, HP.out.2.1, HP.out.2.2.1, HP.out.2.2.2, hz, hs, hq, hp]; rfl)
          rw [← hz] at m0; rw [← hs] at m1; rw [← hq] at m2; rw [← hp] at m3
          clear hz hs hq hp
          have hk0 : (0 : Int) < (k : Int) := by omega
          have hk0a : decide ((0 : Int) < (k : Int)) = true := by simp; omega
          have hk0b : decide (0 < k) = true := by simp; omega
          have hki : (k : Int) - 1 = (k' : Int) := by omega
          clear HST
          clear hkk hk00
          have HJ := Lib.hid (fun W => can_prec z' s' q' p' z s q p W)
          cases ha : aftB z' s' q' p' z s q p with
          | true =>
            rw [ha] at HJ HE; clear ha
            go_wp2_with fail
            obtain ⟨W, hW⟩ : ∃ W, W = wr.alloc (.cells #[.int .i64 z, .int .i64 s, .int .i64 q, .int .i64 p] 87) := ⟨_, rfl⟩
            rw [← hW]
            have p0 : W.cell? ⟨wr.heap.size, 0, none⟩ = some (.int .i64 z) := by rw [hW]; go_simp
            have p1 : W.cell? ⟨wr.heap.size, 1, none⟩ = some (.int .i64 s) := by rw [hW]; go_simp
            have p2 : W.cell? ⟨wr.heap.size, 2, none⟩ = some (.int .i64 q) := by rw [hW]; go_simp
            have p3 : W.cell? ⟨wr.heap.size, 3, none⟩ = some (.int .i64 p) := by rw [hW]; go_simp
            have hzW : wr.heap.size < W.heap.size := by rw [hW]; simp
            have bW : Below w.heap.size w W := by rw [hW]; exact hb.alloc hbz _
            have n0 : W.cell? ⟨g, k' * 4, none⟩ = some (.int .i64 z') := by rw [hW]; go_simp
            have n1 : W.cell? ⟨g, k' * 4 + 1, none⟩ = some (.int .i64 s') := by rw [hW]; go_simp
            have n2 : W.cell? ⟨g, k' * 4 + 2, none⟩ = some (.int .i64 q') := by rw [hW]; go_simp
            have n3 : W.cell? ⟨g, k' * 4 + 3, none⟩ = some (.int .i64 p') := by rw [hW]; go_simp
            have hgW : g < W.heap.size := by omega
            have HG0 := far_cell hgW n0; have HG1 := far_cell hgW n1; have HG2 := far_cell hgW n2; have HG3 := far_cell hgW n3
            have HF0 := far_cell hzW p0; have HF1 := far_cell hzW p1; have HF2 := far_cell hzW p2; have HF3 := far_cell hzW p3
            clear hW c0 c1 c2 c3 p0 p1 p2 p3 m0 m1 m2 m3 n0 n1 n2 n3
            refine wp_region_far (by kernel_rfl) (by kernel_rfl) ?_
            repeat (any_goals (first | go_big_quiet_step (((first | (go_at_call 88; with_reducible exact call_far (HI.out _)) | (go_at_call 89; with_reducible exact call_far (HJ.out _))))) | quiet_step (((first | (go_at_call 88; with_reducible exact call_far (HI.out _)) | (go_at_call 89; with_reducible exact call_far (HJ.out _)))))))
            refine wpQuiet_nil ?_; intro w1 hw1
            have hb1 : Below W.heap.size W w1 := by obtain ⟨x, rfl⟩ := hw1; exact below_far W x
            clear hw1
            go_wp2
            go_roundw
            case rel => exact ⟨k + 1, by omega, by go_num, Lib.hid (fun j hj => by
              by_cases e : j = k
              · subst e; exact HE.out
              · exact hd.out j (by omega)), bW.trans (hb1.mono (by omega))⟩
            case measure => simp [intOf]; omega
          | false =>
            rw [ha] at HJ HE; clear ha
            have HN := Lib.hid (areR_no hkn HE.out)
            go_wp2_with fail
            obtain ⟨W, hW⟩ : ∃ W, W = wr.alloc (.cells #[.int .i64 z, .int .i64 s, .int .i64 q, .int .i64 p] 87) := ⟨_, rfl⟩
            rw [← hW]
            have p0 : W.cell? ⟨wr.heap.size, 0, none⟩ = some (.int .i64 z) := by rw [hW]; go_simp
            have p1 : W.cell? ⟨wr.heap.size, 1, none⟩ = some (.int .i64 s) := by rw [hW]; go_simp
            have p2 : W.cell? ⟨wr.heap.size, 2, none⟩ = some (.int .i64 q) := by rw [hW]; go_simp
            have p3 : W.cell? ⟨wr.heap.size, 3, none⟩ = some (.int .i64 p) := by rw [hW]; go_simp
            have hzW : wr.heap.size < W.heap.size := by rw [hW]; simp
            have bW : Below w.heap.size w W := by rw [hW]; exact hb.alloc hbz _
            have n0 : W.cell? ⟨g, k' * 4, none⟩ = some (.int .i64 z') := by rw [hW]; go_simp
            have n1 : W.cell? ⟨g, k' * 4 + 1, none⟩ = some (.int .i64 s') := by rw [hW]; go_simp
            have n2 : W.cell? ⟨g, k' * 4 + 2, none⟩ = some (.int .i64 q') := by rw [hW]; go_simp
            have n3 : W.cell? ⟨g, k' * 4 + 3, none⟩ = some (.int .i64 p') := by rw [hW]; go_simp
            have hgW : g < W.heap.size := by omega
            have HG0 := far_cell hgW n0; have HG1 := far_cell hgW n1; have HG2 := far_cell hgW n2; have HG3 := far_cell hgW n3
            have HF0 := far_cell hzW p0; have HF1 := far_cell hzW p1; have HF2 := far_cell hzW p2; have HF3 := far_cell hzW p3
            clear hW c0 c1 c2 c3 p0 p1 p2 p3 m0 m1 m2 m3 n0 n1 n2 n3
            refine wp_region_far (by kernel_rfl) (by kernel_rfl) ?_
            repeat (any_goals (first | go_big_quiet_step (((first | (go_at_call 88; with_reducible exact call_far (HI.out _)) | (go_at_call 89; with_reducible exact call_far (HJ.out _))))) | quiet_step (((first | (go_at_call 88; with_reducible exact call_far (HI.out _)) | (go_at_call 89; with_reducible exact call_far (HJ.out _)))))))
            refine wpQuiet_nil ?_; intro w1 hw1
            have hb1 : Below W.heap.size W w1 := by obtain ⟨x, rfl⟩ := hw1; exact below_far W x
            clear hw1
            go_wp2
            go_ret
            exact ⟨ret_bool HN.out.symm, bW.trans (hb1.mono (by omega))⟩
    · obtain rfl : k = l.length := by omega
      go_wp2
      go_ret
      exact ⟨ret_bool (areR_yes (by omega) hd.out).symm, hb⟩
end Go.Proofs.Ytakpeakahofjlaa

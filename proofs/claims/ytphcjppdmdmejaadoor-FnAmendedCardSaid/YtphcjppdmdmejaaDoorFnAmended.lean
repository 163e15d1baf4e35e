/- The walk of the law on what is proposed for a wrong label. -/
import Derived.Test.YtphcjppdmdmejaaDoorFnExactAmended
import Derived.Test.YtphcjppdmdmejaaDoorAmWrong
namespace Go.Proofs.YtphcjppdmdmejaaDoor
open Go.RowKit
set_option maxRecDepth 100000 in
set_option maxHeartbeats 400000 in
theorem index_mem (v : Value) (l : List ByteArray) (s : ByteArray) (b : Nat) (w : World) (hv : OwnStr w b v l) (hn : l.length ≤ 1000000) (hs : s ∈ l) :
    Calls Tryd.prog 20 #[v, .string s] w fun e w' => (∃ j : Nat, e = .returned (.int .i64 j)) ∧ Below w.heap.size w w' := by
  obtain ⟨g, cap, rfl, _, _⟩ := own_slice hv (List.ne_nil_of_mem hs)
  have hc1 : ∀ j (hj : j < l.length), w.cell? ⟨g, j, none⟩ = some (.string l[j]) := fun j hj => by
    have h := World.ownsRow.cellAt (w := w) (base := b) (e := 9) (size := 1) hv j (by omega)
    rw [h]; simp [strV, hj]
  have HC1 := Lib.hid hc1; have HS := Lib.hid hs
  clear hc1 hv hs
  go_enter Tryd.func20, Tryd.ntmps20
  go_wp2
  go_loopw [5] (fun i wr => ∃ j : Nat, j ≤ l.length ∧ i = .int .i64 j ∧ Below w.heap.size w wr ∧ (∀ a, wr.cell? a = w.cell? a) ∧ ∀ i (hi : i < l.length), i < j → l[i] ≠ s) (fun i _ => l.length - (intOf i).toNat)
  case atStart => exact ⟨0, Nat.zero_le _, rfl, Below.refl _ _, fun _ => rfl, fun _ _ h => by omega⟩
  case round =>
    obtain ⟨j, hj, rfl, hb, hsame, hno⟩ := hrel
    have HSA := Lib.hid hsame; clear hsame
    have HN := Lib.hid hno; clear hno
    by_cases hlt : (j : Int) < (l.length : Int)
    · have hjn : j < l.length := by omega
      have k1 := (HSA.out _).trans (HC1.out j hjn)
      by_cases heq : l[j] = s
      · have q1 : (l[j].toList == s.toList) = true := by rw [heq]; simp
        clear heq
        go_wp2
        go_ret
        exact ⟨⟨j, rfl⟩, hb⟩
      · have q1 : (l[j].toList == s.toList) = false := by
          have : l[j].toList ≠ s.toList := fun h => heq (ba_ext (by rw [← ByteArray.toList_eq, ← ByteArray.toList_eq]; exact h))
          simpa using this
        have HQ := Lib.hid heq; clear heq
        go_wp2
        go_roundw
        case rel =>
          refine ⟨j + 1, by omega, by go_num, hb, fun a => HSA.out a, fun i hi h => ?_⟩
          by_cases hij : i = j
          · subst hij; exact HQ.out
          · exact HN.out i hi (by omega)
        case measure => simp [intOf]; omega
    · exact absurd HS.out (fun h => by
        obtain ⟨i, hi, e⟩ := List.getElem_of_mem h
        exact HN.out i hi (by omega) e)
theorem wrong_facts {s : ByteArray} (hv : ValT s) (h15 : s.size = 15) (k : Nat) (hk : k < 15) (c : UInt8) :
    (changed s k c).size = 15 ∧ (changed s k c ≠ s → s ∈ amL (changed s k c)) ∧ (changed s k c = s → amL (changed s k c) = []) ∧ ∀ u ∈ amL (changed s k c), ValT u ∧ u.size = 15 ∧ diffs u (changed s k c) 15 = 1 := by
  refine ⟨changed_size s k c hk h15, right_mem hv h15 k hk c, fun e => by rw [e]; exact right_none hv, fun u hu => ?_⟩
  obtain ⟨hz, j, d, hj, rfl, hvu, hn⟩ := mem_amL hu
  exact ⟨hvu, changed_size _ j d hj hz, by rw [diffs_one _ j d hj hz hn, if_pos hj]⟩
theorem getD_at (u : ByteArray) (q : Nat) (h : q < u.size) : u.data.toList.getD q 0 = u[q] := by
  simp [List.getD, h]; rfl
namespace fnAmended
set_option maxRecDepth 100000 in
set_option maxHeartbeats 2000000 in
theorem walk (A : Option Addr) (n cap : Nat) (w : World) (hr : BytesIn w A n) (_hm : n ≤ maxLen) (hp : PowIs w) (he : ErrIs w "strconv.ErrRange" ∧ ErrIs w "strconv.ErrSyntax") :
    Calls Tryd.prog 5 #[.slice A n cap] w fun e w' => e = .returned (.bool true) ∧ Below w.heap.size w w' := by
  clear _hm
  have HR := Lib.hid hr; clear hr
  have HP := Lib.hid hp; clear hp
  have HE := Lib.hid he; clear he
  by_cases hbig : 4096 < n
  · have hB : bigB n = true := by simp [bigB, hbig]
    go_enter Tryd.func5, Tryd.ntmps5
    go_wp2_with fail
    refine (big_any _ _ _ _).mono ?_; rintro e w1 ⟨rfl, rfl⟩
    go_wp2
    go_ret
    exact ⟨rfl, Below.refl _ _⟩
  · have hB : bigB n = false := by simp [bigB]; omega
    obtain ⟨v1, hv10, hv11, hat1⟩ := at_val A n cap w HR.out (by omega) 1 (by omega)
    obtain ⟨v2, hv20, hv21, hat2⟩ := at_val A n cap w HR.out (by omega) 2 (by omega)
    have HAT1 := Lib.hid hat1; have HAT2 := Lib.hid hat2; clear hat1 hat2
    go_enter Tryd.func5, Tryd.ntmps5
    go_wp2_with fail
    refine (big_any _ _ _ _).mono ?_; rintro e w1 ⟨rfl, rfl⟩
    go_wp2_with fail
    refine (drawFormatLabel_any A n cap _ (by omega) HR.out).mono ?_
    rintro e w1 ⟨⟨a, b, y, ha, hb, hy, rfl⟩, hb1⟩
    clear ha hb
    go_wp2_with fail
    refine (flab_spec a b y _ (by omega)).mono ?_; rintro e w2 ⟨rfl, hb2⟩
    have hbw2 := hb1.trans (hb2.mono hb1.size)
    clear hb1 hb2
    cases hl : labB a b y.data.toList with
    | false =>
      rw [flab_empty _ _ _ hl]
      clear hl
      go_wp2
      go_ret
      exact ⟨rfl, hbw2⟩
    | true =>
      obtain ⟨s, hse⟩ : ∃ s, s = flab a b y := ⟨_, rfl⟩
      have hlab : IsLab s a b y := ⟨hl, by rw [hse]⟩
      rw [← hse]
      obtain ⟨h15, _⟩ := isLab_at hlab
      have HV := Lib.hid (show ValT s from ⟨a, b, y, hlab⟩); clear hlab hl hse
      have hne : s.toList.isEmpty = false := by rw [ByteArray.toList_eq]; exact toList_emp s (by omega)
      have hlo : 15 ≤ s.size := by omega
      have hhi : s.size ≤ 15 := by omega
      have H15 := Lib.hid h15; clear h15
      go_wp2_with fail
      refine (HAT1.out _ hbw2).mono ?_; rintro e w3 ⟨rfl, rfl⟩
      obtain ⟨k, hk⟩ : ∃ k : Nat, v1 % 15 = (k : Int) := ⟨(v1 % 15).toNat, by omega⟩
      have hk15 : k < 15 := by omega
      go_wp2_with fail
      rw [hk]
      clear hk
      have hw : IntKind.wrap .u8 v2 = v2 := by simp [IntKind.wrap, IntKind.bits, IntKind.signed]; omega
      have hk1 : IntKind.wrap .i64 ((k : Int) + 1) = (k : Int) + 1 := by simp [IntKind.wrap, IntKind.bits, IntKind.signed]; omega
      have b3 : (0 : Int) ≤ (k : Int) + 1 := by omega
      have b4 : (k : Int) + 1 ≤ (s.size : Int) := by omega
      have kc : (convert 22 9 (.slice (some ⟨w2.heap.size, 0, none⟩) 1 1)).run Tryd.prog ((w2.alloc (.cells #[.int .u8 (IntKind.wrap .u8 v2)] 5)).drew) = .ok (.string ⟨#[UInt8.ofNat v2.toNat]⟩) ((w2.alloc (.cells #[.int .u8 (IntKind.wrap .u8 v2)] 5)).drew) := by
        rw [hw]; exact conv_one w2.drew v2 (by omega) (by omega)
      have kc2 : (convert 22 9 (.slice (some ⟨w2.heap.size, 0, none⟩) 1 1)).run Tryd.prog (w2.alloc (.cells #[.int .u8 (IntKind.wrap .u8 v2)] 5)) = .ok (.string ⟨#[UInt8.ofNat v2.toNat]⟩) (w2.alloc (.cells #[.int .u8 (IntKind.wrap .u8 v2)] 5)) := by
        rw [hw]; exact conv_one w2 v2 (by omega) (by omega)
      clear hw
      generalize hc : UInt8.ofNat v2.toNat = c at *
      clear hc
      have HC := Lib.hid (show changed s k c = s.extract 0 k ++ ⟨#[c]⟩ ++ s.extract (k + 1) s.size from rfl)
      have z1 : (s.extract 0 k).size ≤ 15 := by rw [ByteArray.size_extract]; omega
      have z2 : (s.extract (k + 1) s.size).size ≤ 15 := by rw [ByteArray.size_extract]; omega
      have o1 : ¬ 9223372036854775807 < (s.extract 0 k).size + 1 := by omega
      have o2 : ¬ 9223372036854775807 < (s.extract 0 k).size + 1 + (s.extract (k + 1) s.size).size := by omega
      have b1 : k ≤ s.size := by omega
      have b2 : k + 1 ≤ s.size := by omega
      clear z1 z2
      go_region_with (go_at_call 16; refine (HAT2.out _ (by first | exact hbw2 | exact hbw2.drew)).mono ?_; rintro e w3 ⟨rfl, rfl⟩)
      all_goals
        rw [← HC.out]
        have HF := Lib.hid (wrong_facts HV.out H15.out k hk15 c)
        obtain ⟨t, ht⟩ : ∃ t, t = changed s k c := ⟨_, rfl⟩
        rw [← ht] at HF ⊢
        clear ht kc kc2 o1 o2 b1 b2 b3 b4 hk1
        have hbw3 := (hbw2.alloc hbw2.size (.cells #[.int .u8 v2] 5)).drew
        have ht15 : t.size ≤ 1048576 := by have := HF.out.1; omega
        have hlen := amL_len t
        go_wp2_with fail
        generalize (w2.alloc (.cells #[.int .u8 v2] 5)).drew = w3 at *
        refine (am_impl t w3 ht15 (HP.out.below hbw3) ⟨HE.out.1.below hbw3, HE.out.2.below hbw3⟩).mono ?_; rintro e w4 ⟨v, rfl, ho, hb4⟩
        have hbw4 := hbw3.trans (hb4.mono hbw3.size)
        clear hb4 hbw3
        by_cases hL : amL t = []
        · have hts : t = s := Classical.byContradiction fun h => by have := HF.out.2.1 h; rw [hL] at this; simp at this
          have q1 : (t.toList == s.toList) = true := by rw [hts]; simp
          clear hts
          rw [hL] at ho
          obtain ⟨A', cap', rfl⟩ := own_empty ho
          clear ho
          go_wp2
          go_loopw [7] (fun i wr => i = .int .i64 0 ∧ wr = w4) (fun _ _ => 0)
          case atStart => exact ⟨rfl, rfl⟩
          case round =>
            obtain ⟨rfl, rfl⟩ := hrel
            go_wp2
            go_ret
            exact ⟨rfl, hbw4⟩
        · have hts : t ≠ s := fun h => hL (HF.out.2.2.1 h)
          have q1 : (t.toList == s.toList) = false := by
            have : t.toList ≠ s.toList := fun h => hts (ba_ext (by rw [← ByteArray.toList_eq, ← ByteArray.toList_eq]; exact h))
            simpa using this
          have q2 : (t.toList != s.toList) = true := by
            have : t.toList ≠ s.toList := fun h => hts (ba_ext (by rw [← ByteArray.toList_eq, ← ByteArray.toList_eq]; exact h))
            simpa using this
          have HM := Lib.hid (HF.out.2.1 hts)
          clear hts
          obtain ⟨g, cp, rfl, hg1, hg2⟩ := own_slice ho hL
          have HO := Lib.hid ho; clear ho
          have htlo : 15 ≤ t.size := by have := HF.out.1; omega
          go_wp2
          go_loopw [7] (fun i wr => ∃ j : Nat, j ≤ (amL t).length ∧ i = .int .i64 j ∧ Below w4.heap.size w4 wr) (fun i _ => (amL t).length - (intOf i).toNat)
          case atStart => exact ⟨0, Nat.zero_le _, rfl, Below.refl _ _⟩
          case round =>
            obtain ⟨j, hj, rfl, hb⟩ := hrel
            by_cases hlt : (j : Int) < ((amL t).length : Int)
            · have hjn : j < (amL t).length := by omega
              obtain ⟨u, hu⟩ : ∃ u, u = (amL t)[j] := ⟨_, rfl⟩
              have hum : u ∈ amL t := by rw [hu]; exact List.getElem_mem hjn
              have HU := Lib.hid (HF.out.2.2.2 u hum)
              have hulo : 15 ≤ u.size := by have := HU.out.2.1; omega
              have hcell : ∀ W, Below w4.heap.size w4 W → W.cell? ⟨g, j, none⟩ = some (.string u) := fun W hW => by
                have h := World.ownsRow.cellAt (own_below HO.out hW) j (by omega)
                rw [h, hu]; simp [strV, hjn]
              have HCE := Lib.hid hcell
              clear hcell hum hu
              go_wp2
              go_loopw [8, 9] (fun m i wr => ∃ q : Nat, q ≤ 15 ∧ i = .int .i64 q ∧ m = .int .i64 (diffs u t q : Nat) ∧ Below w4.heap.size w4 wr) (fun _ i _ => 15 - (intOf i).toNat)
              case atStart => exact ⟨0, by omega, rfl, rfl, hb⟩
              case round =>
                obtain ⟨q, hq, rfl, rfl, hbq⟩ := hrel
                clear hb
                have hcu := HCE.out _ hbq
                by_cases hq15 : (q : Int) < 15
                · have hqu : q < u.size := by omega
                  have hqt : q < t.size := by omega
                  have HD := Lib.hid (diffs_succ u t q)
                  have hdl := diffs_le u t q
                  by_cases hqq : (u[q].toNat : Int) = (t[q].toNat : Int)
                  · have q3 : ((u[q].toNat : Int) != (t[q].toNat : Int)) = false := by simpa using hqq
                    have HE3 := Lib.hid (show diffs u t (q + 1) = diffs u t q by
                      have h : u[q] = t[q] := UInt8.toNat_inj.1 (by omega)
                      rw [HD.out, getD_at u q hqu, getD_at t q hqt, h, bne_self_eq_false]; rfl)
                    clear hqq
                    go_wp2_with fail
                    go_quiet (fail)
                    go_wp2
                    go_roundw
                    case rel => exact ⟨q + 1, by omega, by go_num, by rw [HE3.out], below_drewN hbq _⟩
                    case measure => simp [intOf]; omega
                  · have q3 : ((u[q].toNat : Int) != (t[q].toNat : Int)) = true := by simpa using hqq
                    have HE3 := Lib.hid (show diffs u t (q + 1) = diffs u t q + 1 by
                      have h : u[q] ≠ t[q] := fun e => hqq (by rw [e])
                      rw [HD.out, getD_at u q hqu, getD_at t q hqt, if_pos (bne_iff_ne.2 h)])
                    clear hqq
                    go_wp2_with fail
                    go_quiet (fail)
                    go_wp2
                    go_roundw
                    case rel => exact ⟨q + 1, by omega, by go_num, by rw [HE3.out]; go_num, below_drewN hbq _⟩
                    case measure => simp [intOf]; omega
                · obtain rfl : q = 15 := by omega
                  have hd := HU.out.2.2
                  rw [hd]
                  go_wp2_with fail
                  have hbt := hbw4.trans (hbq.mono hbw4.size)
                  have hus : u.size ≤ 1048576 := by have := HU.out.2.1; omega
                  refine (plab_impl u wr hus (HP.out.below hbt) ⟨HE.out.1.below hbt, HE.out.2.below hbt⟩).mono ?_; rintro e w5 ⟨h5, hb5⟩
                  rcases h5 with ⟨a1, b1, y1, _, rfl⟩ | ⟨hn5, rfl⟩
                  · have hb6 := (hbq.trans (hb5.mono hbq.size)).alloc (Nat.le_trans hbq.size hb5.size) (.cells #[.int .i64 a1, .int .i64 b1, .string y1] 26)
                    go_wp2
                    all_goals
                      go_roundw
                      case rel => exact ⟨j + 1, by omega, by go_num, hb6⟩
                      case measure => simp [intOf]; omega
                  · exact absurd HU.out.1 (fun ⟨a', b', y', h'⟩ => hn5 a' b' y' h')
            · go_wp2_with fail
              refine (index_mem _ (amL t) s _ wr (own_below HO.out hb) (by omega) HM.out).mono ?_; rintro e w6 ⟨⟨ji, rfl⟩, hb6⟩
              have hj0 : (0 : Int) ≤ (ji : Int) := by omega
              have hbe := (hbw4.trans (hb.mono hbw4.size)).trans (hb6.mono (Nat.le_trans hbw4.size hb.size))
              go_wp2
              all_goals
                go_ret
                exact ⟨rfl, hbe⟩
end fnAmended
end Go.Proofs.YtphcjppdmdmejaaDoor

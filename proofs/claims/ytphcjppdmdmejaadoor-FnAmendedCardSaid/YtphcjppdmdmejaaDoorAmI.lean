/- The contract of impl.Amended. -/
import Derived.Test.YtphcjppdmdmejaaDoorAmS
import Derived.Test.YtphcjppdmdmejaaDoorPLab
import Derived.Maps.AppendAt
import Derived.Lib.ConvBytes
namespace Go.Proofs.YtphcjppdmdmejaaDoor
open Go.RowKit
/-- these bytes stand in block g, and may be written -/
def TxtIs (W : World) (g : Nat) (l : List UInt8) : Prop := g < W.heap.size ∧ (∀ j (hj : j < l.length), W.cell? ⟨g, j, none⟩ = some (.int .u8 (l[j].toNat : Int))) ∧ ∀ j, j < l.length → W.frozen? ⟨g, j, none⟩ = false
theorem TxtIs.below {W W' : World} {g : Nat} {l : List UInt8} (h : TxtIs W g l) (hb : Below W.heap.size W W') : TxtIs W' g l := by
  obtain ⟨hc, hf⟩ := old_cells hb
  exact ⟨Nat.lt_of_lt_of_le h.1 hb.size, fun j hj => by rw [hc g j h.1]; exact h.2.1 j hj, fun j hj => by rw [hf g j h.1]; exact h.2.2 j hj⟩
theorem TxtIs.grown {W W' : World} {g : Nat} {l : List UInt8} {row : Option Nat} (h : TxtIs W g l) (hg : W.grownBy W' row) (hn : row ≠ some g) : TxtIs W' g l := by
  have hblk := hg.block g h.1 (fun e => hn e.symm)
  exact ⟨Nat.lt_of_lt_of_le h.1 hg.size, fun j hj => by rw [World.cell?_of_block (w := W) hblk]; exact h.2.1 j hj, fun j hj => by rw [World.frozen?_of_block (w := W) hblk]; exact h.2.2 j hj⟩
theorem TxtIs.set {W : World} {g : Nat} {l : List UInt8} (h : TxtIs W g l) (k : Nat) (hk : k < l.length) (c : UInt8) : TxtIs (W.setCell ⟨g, k, none⟩ (.int .u8 (c.toNat : Int))) g (l.set k c) := by
  refine ⟨by simpa [World.setCell] using h.1, fun j hj => ?_, fun j hj => by rw [World.frozen?_setCell]; exact h.2.2 j (by simpa using hj)⟩
  by_cases hjk : k = j
  · subst hjk
    rw [World.cell?_setCell_same _ _ _ (h.2.1 k hk)]
    simp
  · rw [World.cell?_setCell_other _ _ _ _ (fun e => hjk (by injection e)), h.2.1 j (by simpa using hj)]
    simp [hjk]
theorem TxtIs.conv {W : World} {g : Nat} {l : List UInt8} (h : TxtIs W g l) (cap : Nat) : (convert 22 9 (.slice (some ⟨g, 0, none⟩) l.length cap)).run Tryd.prog W = .ok (.string ⟨l.toArray⟩) W :=
  Go.run_convert_bytes_back (P := Tryd.prog) W 22 9 5 ⟨g, 0, none⟩ cap l Tryd.underlying22 Tryd.underlying5 Tryd.underlying9 (by
    intro j hj
    have e : (⟨g, 0, none⟩ : Addr).add j = ⟨g, j, none⟩ := by
      unfold Addr.add; split
      · subst_vars; rfl
      · simp
    rw [e]; exact h.2.1 j hj)
theorem txt_new (w : World) (s : ByteArray) : ∃ W1 cap, (convert 9 22 (.string s)).run Tryd.prog w = .ok (.slice (some ⟨w.heap.size, 0, none⟩) s.size cap) W1 ∧ TxtIs W1 w.heap.size s.data.toList ∧ Below w.heap.size w W1 := by
  refine ⟨Go.Lib.bytesWorld w 5 s, _, Go.Lib.run_convert_string_bytes (P := Tryd.prog) w 9 22 5 s Tryd.underlying9 Tryd.underlying22 Tryd.underlying5, ⟨by rw [Go.Lib.bytesWorld_size]; omega, ?_, ?_⟩, ?_⟩
  · intro j hj
    have hj' : j < s.size := by simpa using hj
    rw [Go.Lib.bytesWorld_cell w _ s j hj']
    simp [List.getD, hj']
  · intro j hj
    have hj' : j < s.size := by simpa using hj
    have hz : s.size ≤ (Go.Lib.bytesCells w 5 s).size := by simp [Go.Lib.bytesCells]
    simp [World.frozen?, Go.Lib.bytesWorld_at_new]
    omega
  · refine ⟨rfl, rfl, rfl, by rw [Go.Lib.bytesWorld_size]; omega, fun i hi => Go.Lib.bytesWorld_at_old w _ s i hi⟩
theorem own_set {w : World} {base g k : Nat} {v x : Value} {l : List ByteArray} (h : OwnStr w base v l) (hn : v.ownBlock ≠ some g) : OwnStr (w.setCell ⟨g, k, none⟩ x) base v l :=
  World.ownsRow.kept h (row := some g) ⟨rfl, rfl, rfl, by simp [World.setCell], fun i _ hne => Below.heap_setCell w ⟨g, k, none⟩ x i (fun e => hne (by rw [e]))⟩ (.inr hn)
theorem set_changed (s : ByteArray) (k : Nat) (c : UInt8) (hk : k < s.size) : (⟨(s.data.toList.set k c).toArray⟩ : ByteArray) = changed s k c := by
  have h := changed_list s k c
  have h2 : s.data.toList.set k c = s.data.toList.take k ++ c :: s.data.toList.drop (k + 1) := by
    rw [List.set_eq_take_append_cons_drop, if_pos (by simpa using hk)]
  rw [← h2] at h
  cases hc : changed s k c with
  | mk d =>
    rw [hc] at h
    simp only at h
    rw [← h]
theorem set_self (s : ByteArray) (k : Nat) (hk : k < s.size) : s.data.toList.set k (s.data.toList.getD k 0) = s.data.toList := by
  apply List.ext_getElem
  · simp
  · intro i h1 h2
    rw [List.getElem_set]
    split
    · subst_vars; simp [List.getD, hk]
    · rfl
set_option maxRecDepth 100000 in
set_option maxHeartbeats 2000000 in
theorem am_impl (s : ByteArray) (w : World) (hs : s.size ≤ 1048576) (hp : PowIs w) (he : ErrIs w "strconv.ErrRange" ∧ ErrIs w "strconv.ErrSyntax") :
    Calls Tryd.prog 19 #[.string s] w fun e w' => ∃ v, e = .returned v ∧ OwnStr w' w.heap.size v (amL s) ∧ Below w.heap.size w w' := by
  obtain ⟨i0, hi0, hz0, hz1, hz2⟩ := info_parts str_info
  by_cases h15 : s.size = 15
  · have HF := Lib.hid (show amL s = amTo s 15 by unfold amL; rw [if_pos h15])
    have HP := Lib.hid hp; clear hp
    have HE := Lib.hid he; clear he
    have hlo : 15 ≤ s.size := by omega
    have hhi : s.size ≤ 15 := by omega
    have hb : ((s.size : Int) != 15) = false := by simp; omega
    have H15 := Lib.hid h15; clear h15
    go_enter Tryd.func19, Tryd.ntmps19
    obtain ⟨W1, cap, hcv, htx, hbl⟩ := txt_new (w.alloc (.cells #[] 9)) s
    have hg0 : (w.alloc (.cells #[] 9)).heap.size = w.heap.size + 1 := by simp
    rw [hg0] at hcv htx
    have hbl2 : Below w.heap.size w W1 := ((Below.refl _ _).alloc (Nat.le_refl _) _).trans (hbl.mono (by rw [hg0]; omega))
    have how := own_below (own_new w) hbl
    clear hbl hg0
    have hown0 : Value.ownBlock (.slice (some ⟨w.heap.size, 0, none⟩) 0 0) ≠ some (w.heap.size + 1) := by simp [Value.ownBlock]
    have hgb : w.heap.size ≤ w.heap.size + 1 := by omega
    go_wp2
    clear hcv
    generalize w.heap.size + 1 = g at *
    go_loopw [3, 18] (fun v i wr => ∃ k : Nat, k ≤ 15 ∧ i = .int .i64 k ∧ OwnStr wr w.heap.size v (amTo s k) ∧ v.ownBlock ≠ some g ∧ TxtIs wr g s.data.toList ∧ Below w.heap.size w wr) (fun _ i _ => 15 - (intOf i).toNat)
    case atStart => exact ⟨0, by omega, rfl, how, hown0, htx, hbl2⟩
    case round =>
      obtain ⟨k, hk, rfl, hown, hvn, htxt, hb1⟩ := hrel
      clear how hown0 htx hbl2
      by_cases hlt : (k : Int) < 15
      · have hks : (k : Int) < (s.size : Int) := by omega
        go_wp2
        go_loopw [3, 21] (fun v b wq => ∃ (j : Nat) (c0 : UInt8), j ≤ 256 ∧ b = .int .i64 j ∧ OwnStr wq w.heap.size v (amTo s k ++ (bytes256.take j).flatMap (cand s k)) ∧ v.ownBlock ≠ some g ∧ TxtIs wq g (s.data.toList.set k c0) ∧ Below w.heap.size w wq) (fun _ b _ => 256 - (intOf b).toNat)
        case atStart => exact ⟨0, s.data.toList.getD k 0, by omega, rfl, by simpa using hown, hvn, by rw [set_self s k (by omega)]; exact htxt, hb1⟩
        case round =>
          obtain ⟨j, c0, hj, rfl, hown2, hvn2, htx2, hb2⟩ := hrel
          clear hown htxt hb1 hvn
          have hkn : k < s.size := by omega
          have hl0 : (s.data.toList.set k c0).length = s.size := by simp
          have hcell : wr.cell? ⟨g, k, none⟩ = some (.int .u8 (c0.toNat : Int)) := by rw [htx2.2.1 k (by rw [hl0]; exact hkn)]; simp
          have hfz : wr.frozen? ⟨g, k, none⟩ = false := htx2.2.2 k (by rw [hl0]; exact hkn)
          by_cases hj36 : (j : Int) < 256
          · have hsk : s.data.toList[k]? = some s[k] := by simp [hkn]; rfl
            have HSK := Lib.hid (show (j : Int) = (s[k].toNat : Int) → s.data.toList[k]? = some (UInt8.ofNat j) from fun h => by
              rw [hsk, show j = s[k].toNat from by omega, UInt8.ofNat_toNat])
            have HKS := Lib.hid (show s.data.toList[k]? = some (UInt8.ofNat j) → (j : Int) = (s[k].toNat : Int) from fun h => by
              rw [hsk] at h
              rw [Option.some.inj h, UInt8.toNat_ofNat', Nat.mod_eq_of_lt (by omega)])
            clear hsk
            have HLEN : Hid ((amTo s k ++ (bytes256.take j).flatMap (cand s k)).length ≤ 1000) := by
              have h1 := amTo_len s k
              have h2 := flat_len s k (bytes256.take j)
              have h3 : (bytes256.take j).length ≤ 256 := Nat.le_trans (List.length_take_le _ _) hj
              show _ ≤ 1000
              rw [List.length_append]; omega
            have hcu : ((UInt8.ofNat j).toNat : Int) = (j : Int) := by rw [UInt8.toNat_ofNat', Nat.mod_eq_of_lt (by omega)]
            have htx3 := htx2.set k (by rw [hl0]; exact hkn) (UInt8.ofNat j)
            rw [hcu, List.set_set] at htx3
            have hown3 : OwnStr (wr.setCell ⟨g, k, none⟩ (.int .u8 (j : Int))) w.heap.size _ _ := own_set hown2 hvn2
            have hb3 := hb2.setCell (p := ⟨g, k, none⟩) hgb (.int .u8 (j : Int))
            have hcv := htx3.conv cap
            rw [set_changed s k _ hkn, List.length_set, show s.data.toList.length = s.size from by simp] at hcv
            have HT3 := Lib.hid htx3; have HO3 := Lib.hid hown3; have HB3 := Lib.hid hb3
            clear htx3 hown3 hb3 htx2 hown2 hb2
            go_wp2_with fail
            have htz : (changed s k (UInt8.ofNat j)).size ≤ 1048576 := by rw [changed_size s k _ (by omega) H15.out]; omega
            have hp2 := HP.out.below HB3.out
            have he2 := And.intro (HE.out.1.below HB3.out) (HE.out.2.below HB3.out)
            obtain ⟨t, ht⟩ : ∃ t, t = changed s k (UInt8.ofNat j) := ⟨_, rfl⟩
            rw [← ht] at htz hcv ⊢
            have HTE := Lib.hid ht; clear ht
            clear hcell hfz hl0
            generalize wr.setCell ⟨g, k, none⟩ (.int .u8 (j : Int)) = W at *
            refine (plab_impl t W htz hp2 he2).mono ?_; rintro e w2 ⟨h2, hbt⟩
            clear hp2 he2 hcv
            rcases h2 with ⟨a, b, y, hl, rfl⟩ | ⟨hn, rfl⟩
            · have hbw3 := hbt.alloc hbt.size (.cells #[.int .i64 a, .int .i64 b, .string y] 26)
              have htx4 := HT3.out.below hbw3
              have hcv4 := htx4.conv cap
              rw [set_changed s k _ hkn, List.length_set, show s.data.toList.length = s.size from by simp, ← HTE.out] at hcv4
              have hl4 : (s.data.toList.set k (UInt8.ofNat j)).length = s.size := by simp
              have hcell : (w2.alloc (.cells #[.int .i64 a, .int .i64 b, .string y] 26)).cell? ⟨g, k, none⟩ = some (.int .u8 (j : Int)) := by rw [htx4.2.1 k (by rw [hl4]; exact hkn), List.getElem_set_self, hcu]
              have hfz : (w2.alloc (.cells #[.int .i64 a, .int .i64 b, .string y] 26)).frozen? ⟨g, k, none⟩ = false := htx4.2.2 k (by rw [hl4]; exact hkn)
              have hown4 := own_below HO3.out hbw3
              have HL := Lib.hid (show ValT (changed s k (UInt8.ofNat j)) from ⟨a, b, y, by rw [← HTE.out]; exact hl⟩); clear hl
              have HT4 := Lib.hid htx4; have HO4 := Lib.hid hown4
              clear htx4 hown4
              by_cases hts : (j : Int) = (s[k].toNat : Int)
              · have q1 : ((j : Int) != (s[k].toNat : Int)) = false := by simpa using hts
                have HNO := Lib.hid (show cand s k (UInt8.ofNat j) = [] from cand_no s k _ (fun h => h.2 (HSK.out hts)))
                clear hts
                go_wp2_with fail
                go_quiet (fail)
                have hbw4 := below_drewN hbw3 nq
                clear hcv4 hcell hfz
                go_wp2
                go_roundw
                case rel =>
                  refine ⟨j + 1, UInt8.ofNat j, by omega, by go_num, ?_, hvn2, HT3.out.below hbw4, HB3.out.trans (hbw4.mono HB3.out.size)⟩
                  rw [bytes_succ s k j (by omega), HNO.out, List.append_nil]
                  exact own_below HO3.out hbw4
                case measure => simp [intOf]; omega
              · have q1 : ((j : Int) != (s[k].toNat : Int)) = true := by simpa using hts
                have HYES := Lib.hid (show cand s k (UInt8.ofNat j) = [t] by
                  rw [cand_yes s k _ HL.out (fun h => hts (HKS.out h)), HTE.out])
                clear hts
                go_wp2_with fail
                go_quiet (fail)
                have hbw4 := below_drewN hbw3 nq
                clear hcv4 hcell hfz HT4 HO4
                have htx5 := HT3.out.below hbw4
                have hown5 := own_below HO3.out hbw4
                have hb5 := HB3.out.trans (hbw4.mono HB3.out.size)
                clear hbw4 hbw3 hbt
                generalize (w2.alloc (.cells #[.int .i64 a, .int .i64 b, .string y] 26)).drewN nq = W5 at *
                have hcv5 := htx5.conv cap
                rw [set_changed s k _ hkn, List.length_set, show s.data.toList.length = s.size from by simp, ← HTE.out] at hcv5
                have HT5 := Lib.hid htx5; clear htx5
                have hc3 : (amTo s k ++ (bytes256.take j).flatMap (cand s k)).length + 1 ≤ maxLen := by have := HLEN.out; unfold maxLen; omega
                have hc4 : ((amTo s k ++ (bytes256.take j).flatMap (cand s k)).length + 1) * 16 ≤ 140737488355328 := by have := HLEN.out; omega
                have hc5 : w.heap.size ≤ (W5.alloc (.cells #[.string t] 9)).heap.size := by have := hb5.size; simp; omega
                unfold OwnStr at hown5
                have hsz5 := hb5.size
                have hvo := hvn2
                go_wp2_with (at_builtin; refine wpList_append_own_at _ rfl (.tmp 46) (.tmp 49) 32 rfl w.heap.size 9 i0 _ 1 16 Tryd.underlying32 hi0 hz0 hz1 hz2 rfl (by omega) _ _ _ rfl (hown5.alloc _) ⟨W5.heap.size, 0, none⟩ 1 1 (strV [t]) rfl rfl (str_news W5 t) (one_str t) hc3 hc4 hc5 ?_; intro v' w4 hown' hg' _ hob)
                go_roundw
                case rel =>
                  have hb6 := hb5.alloc hsz5 (.cells #[.string t] 9)
                  refine ⟨j + 1, UInt8.ofNat j, by omega, by go_num, ?_, ?_, (HT5.out.below ((Below.refl _ _).alloc (Nat.le_refl _) _)).grown hg' hvn2, hb6.grown hg' hc5 (fun g h => (hown5.lt g h).1)⟩
                  · rw [bytes_succ s k j (by omega), HYES.out, ← List.append_assoc]
                    unfold OwnStr
                    rw [strV_app, List.length_append]
                    exact hown'
                  · rcases hob with h | h
                    · rw [h]; exact hvn2
                    · rw [h]; intro e; have := HT5.out.1; simp at e; omega
                case measure => simp [intOf]; omega
            · have hbw3 := hbt.alloc hbt.size (.cells #[.int .i64 0, .int .i64 0, .string ⟨#[]⟩] 26)
              go_wp2_with fail
              go_quiet (fail)
              have hbw4 := below_drewN hbw3 nq
              have HNO := Lib.hid (show cand s k (UInt8.ofNat j) = [] from cand_no s k _ (fun h => by
                obtain ⟨⟨a, b, y, hl⟩, _⟩ := h
                rw [← HTE.out] at hl
                exact hn a b y hl))
              clear hn
              go_wp2
              go_roundw
              case rel =>
                refine ⟨j + 1, UInt8.ofNat j, by omega, by go_num, ?_, hvn2, HT3.out.below hbw4, HB3.out.trans (hbw4.mono HB3.out.size)⟩
                rw [bytes_succ s k j (by omega), HNO.out, List.append_nil]
                exact own_below HO3.out hbw4
              case measure => simp [intOf]; omega
          · obtain rfl : j = 256 := by omega
            have HE2 : Hid (amTo s k ++ (bytes256.take 256).flatMap (cand s k) = amTo s (k + 1)) := by
              rw [amTo_succ, ← row_bytes s k (by omega) H15.out]; rfl
            have htx3 : TxtIs (wr.setCell ⟨g, k, none⟩ (.int .u8 (s[k].toNat : Int))) g s.data.toList := by
              have h := htx2.set k (by rw [hl0]; exact hkn) s[k]
              rw [List.set_set] at h
              have e := set_self s k hkn
              rw [show s.data.toList.getD k 0 = s[k] from by simp [List.getD, hkn]; rfl] at e
              rwa [e] at h
            have hown3 : OwnStr (wr.setCell ⟨g, k, none⟩ (.int .u8 (s[k].toNat : Int))) w.heap.size _ _ := own_set hown2 hvn2
            have hb3 := hb2.setCell (p := ⟨g, k, none⟩) hgb (.int .u8 (s[k].toNat : Int))
            rw [HE2.out] at hown3
            have HT3 := Lib.hid htx3; have HO3 := Lib.hid hown3
            clear htx3 hown3 htx2 hown2
            go_wp2
            go_roundw
            case rel => exact ⟨k + 1, by omega, by go_num, HO3.out, hvn2, HT3.out, hb3⟩
            case measure => simp [intOf]; omega
      · obtain rfl : k = 15 := by omega
        have HO := Lib.hid hown; clear hown
        go_wp2
        go_ret
        exact ⟨_, rfl, by rw [HF.out]; exact HO.out, hb1⟩
  · have HF := Lib.hid (show amL s = [] by unfold amL; rw [if_neg h15])
    have hb : ((s.size : Int) != 15) = true := by simp; omega
    clear h15
    go_enter Tryd.func19, Tryd.ntmps19
    go_wp2
    go_ret
    exact ⟨_, rfl, by rw [HF.out]; exact own_new w, (Below.refl _ _).alloc (Nat.le_refl _) _⟩
end Go.Proofs.YtphcjppdmdmejaaDoor

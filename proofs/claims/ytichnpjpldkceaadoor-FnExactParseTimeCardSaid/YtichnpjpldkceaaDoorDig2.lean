/- The contract of impl.Digits. -/
import Derived.Test.YtichnpjpldkceaaDoorDig
namespace Go.Proofs.YtichnpjpldkceaaDoor
open Go.RowKit
theorem u8_info : (Tryd.prog.info? 5).map (fun i => (i.zero, i.size, i.bytes)) = some (some (.int .u8 0), 1, 1) := by kernel_rfl
def u8s (l : List UInt8) : List Value := l.map fun c => Value.int .u8 (c.toNat : Int)
theorem u8s_app (a b : List UInt8) : u8s (a ++ b) = u8s a ++ u8s b := by simp [u8s]
theorem u8s_len (a : List UInt8) : (u8s a).length = a.length := by simp [u8s]
theorem u8s_one (a : List UInt8) : ∀ u ∈ u8s a, u.oneCell' = true := by
  intro u hu
  simp only [u8s, List.mem_map] at hu
  obtain ⟨c, _, rfl⟩ := hu
  rfl
theorem app_news (wr : World) (news : List UInt8) : ∀ j u, (u8s news)[j]? = some u → (wr.alloc (.cells (u8s news).toArray 5)).cell? ((⟨wr.heap.size, 0, none⟩ : Addr).add j) = some u := by
  intro j u hu
  have e : (⟨wr.heap.size, 0, none⟩ : Addr).add j = ⟨wr.heap.size, j, none⟩ := by
    unfold Addr.add; split
    · subst_vars; rfl
    · simp
  rw [e, cell_of_row _ _ _ _ _ _ (heap_alloc_new wr _)]
  simpa using hu
theorem app_news2 (wr : World) (x y : Value) (T : TypeId) : ∀ j u, [x, y][j]? = some u → (wr.alloc (.cells #[x, y] T)).cell? ((⟨wr.heap.size, 0, none⟩ : Addr).add j) = some u := by
  intro j u hu
  have e : (⟨wr.heap.size, 0, none⟩ : Addr).add j = ⟨wr.heap.size, j, none⟩ := by
    unfold Addr.add; split
    · subst_vars; rfl
    · simp
  rw [e, cell_of_row _ _ _ _ _ _ (heap_alloc_new wr _)]
  simpa using hu
theorem one_two (k : IntKind) (a b : Int) : ∀ u ∈ [Value.int k a, Value.int k b], u.oneCell' = true := by
  intro u hu
  simp only [List.mem_cons, List.not_mem_nil, or_false] at hu
  rcases hu with rfl | rfl <;> rfl
theorem two_digs (c : UInt8) (h1 : digB c = false) (h2 : capB c = true) :
    [Value.int .u8 (48 + ((c.toNat : Int) - 65 + 10) % 256 / 10), Value.int .u8 (48 + ((c.toNat : Int) - 65 + 10) % 256 % 10)] = u8s (digOf c) := by
  have hc := inB_iff.1 h2
  unfold digOf
  rw [if_neg (by rw [h1]; decide), Lib.decDigits_two (by omega) (by omega)]
  have e : ((c.toNat : Int) - 65 + 10) % 256 = ((c.toNat - 55 : Nat) : Int) := by omega
  rw [e]
  simp only [u8s, List.map_cons, List.map_nil, UInt8.toNat_ofNat']
  rw [Nat.mod_eq_of_lt (by omega), Nat.mod_eq_of_lt (by omega)]
  norm_cast
/-- the bytes of a row of the call's own, as a string -/
theorem conv_row (w : World) (base : Nat) (v : Value) (l : List UInt8) (h : w.ownsRow base 5 1 v l.length (u8s l)) :
    (convert 68 9 v).run Tryd.prog w = .ok (.string ⟨l.toArray⟩) w := by
  obtain ⟨hl, hv⟩ := h
  rcases hv with ⟨rfl, hn⟩ | ⟨g, cap, cur, rfl, _, _⟩
  · have : l = [] := List.eq_nil_of_length_eq_zero hn
    subst this
    have := run_convert_bytes_nil (P := Tryd.prog) w 68 5 Tryd.underlying68 Tryd.underlying5 0 0 9 Tryd.underlying9
    exact this
  · exact run_convert_bytes_back (P := Tryd.prog) w 68 9 5 ⟨g, 0, none⟩ cap l Tryd.underlying68 Tryd.underlying5 Tryd.underlying9 (by
      intro j hj
      have := World.ownsRow.cells (base := base) (e := 5) (size := 1) (n := l.length) (xs := u8s l) ⟨hl, Or.inr ⟨g, cap, cur, rfl, by assumption, by assumption⟩⟩ (g := g) rfl j (.int .u8 (l[j].toNat : Int)) (by simp [u8s, hj])
      exact this)
set_option maxRecDepth 100000 in
set_option maxHeartbeats 1000000 in
theorem dig_impl (s : ByteArray) (w : World) (hs : s.size ≤ 1048576) :
    Calls Tryd.prog 79 #[.string s] w fun e w' => e = .returned (.tuple #[.string (digsS s.data.toList), .bool (okAll s.data.toList)]) ∧ Below w.heap.size w w' := by
  obtain ⟨i0, hi0, hz0, hz1, hz2⟩ := info_parts u8_info
  go_enter Tryd.func79, Tryd.ntmps79
  go_wp2_with (at_make; refine wpList_make_own _ rfl _ _ 68 rfl w.heap.size 5 i0 _ 1 Tryd.underlying68 hi0 hz0 hz1 _ _ _ (2 * s.size) rfl rfl (by omega) ?c1 ?c2 ?c3 ?_)
  case c1 => rw [hz2]; omega
  case c2 => unfold maxLen; omega
  case c3 => exact Nat.le_refl _
  intro w1 hown1 hg1
  have hb1 : Below w.heap.size w w1 := (Below.refl _ _).grown hg1 (Nat.le_refl _) (by simp)
  go_wp2
  go_loopw [4, 14] (fun v i wr => ∃ k : Nat, k ≤ s.size ∧ i = .int .i64 k ∧ wr.ownsRow w.heap.size 5 1 v (digs (s.data.toList.take k)).length (u8s (digs (s.data.toList.take k))) ∧ (s.data.toList.take k).all okB = true ∧ Below w.heap.size w wr) (fun _ i _ => s.size - (intOf i).toNat)
  case atStart => exact ⟨0, Nat.zero_le _, rfl, hown1, rfl, hb1⟩
  case round =>
    obtain ⟨k, hk, rfl, hown, hall, hb⟩ := hrel
    have hl : (digs (s.data.toList.take k)).length ≤ 2097152 := by
      have h1 := digs_len _ hall
      rw [List.length_take] at h1; omega
    have HA := Lib.hid hall; clear hall hown1 hg1 hb1
    by_cases hks : k < s.size
    · have HS := Lib.hid (digs_snoc (s.data.toList.take k) s[k])
      have HT := Lib.hid (take_snoc s k hks)
      generalize hd : digs (s.data.toList.take k) = d at *
      have HD := Lib.hid hd; clear hd
      by_cases hdg : digB s[k] = true
      · have h1 : inB (s[k].toNat : Int) 48 57 = true := hdg
        have HG := Lib.hid hdg; clear hdg
        have hc3 : d.length + 1 ≤ maxLen := by unfold maxLen; omega
        have hc4 : (d.length + 1) * 1 ≤ 140737488355328 := by omega
        have hc5 : w.heap.size ≤ (wr.alloc (.cells (u8s [s[k]]).toArray 5)).heap.size := by have := hb.size; simp; omega
        go_wp2_with (first
          | (go_at_call 94; refine (digit_any _ _).mono ?_; rintro e w' ⟨rfl, rfl⟩)
          | (at_builtin; refine wpList_append_own _ rfl (.tmp 23) (.tmp 25) 68 rfl w.heap.size 5 i0 _ 1 1 Tryd.underlying68 hi0 hz0 hz1 hz2 rfl (by omega) _ _ _ rfl (hown.alloc _) ⟨wr.heap.size, 0, none⟩ 1 1 (u8s [s[k]]) rfl rfl (app_news wr [s[k]]) (u8s_one _) hc3 hc4 hc5 ?_; intro v' w2 hown' hg' _))
        go_roundw
        case rel =>
          refine ⟨k + 1, by omega, by go_num, ?_, all_snoc s k hks _ HA.out (by simp [okB, HG.out]), ?_⟩
          · have e1 : digs (s.data.toList.take (k + 1)) = d ++ [s[k]] := by rw [HT.out, HS.out]; unfold digOf; rw [if_pos HG.out]
            rw [e1, u8s_app, List.length_append]
            exact hown'
          · exact (hb.alloc hb.size _).grown hg' hc5 (fun g h => (hown.lt g h).1)
        case measure => simp [intOf]; omega
      · have h1 : inB (s[k].toNat : Int) 48 57 = false := by
          cases h : inB (s[k].toNat : Int) 48 57 with
          | true => exact absurd h hdg
          | false => rfl
        by_cases hcp : capB s[k] = true
        · have h2 : inB (s[k].toNat : Int) 65 90 = true := hcp
          have hcb := inB_iff.1 h2
          clear hcb
          have HG := Lib.hid h1
          have HC := Lib.hid hcp
          have HW := Lib.hid (two_digs s[k] h1 hcp)
          clear hdg hcp
          have hc3 : d.length + 2 ≤ maxLen := by unfold maxLen; omega
          have hc4 : (d.length + 2) * 1 ≤ 140737488355328 := by omega
          have hc5 : w.heap.size ≤ (wr.alloc (.cells #[Value.int .u8 (48 + ((s[k].toNat : Int) - 65 + 10) % 256 / 10), Value.int .u8 (48 + ((s[k].toNat : Int) - 65 + 10) % 256 % 10)] 5)).heap.size := by have := hb.size; simp; omega
          go_wp2_with (first
            | (go_at_call 94; refine (digit_any _ _).mono ?_; rintro e w' ⟨rfl, rfl⟩)
            | (go_at_call 77; refine (capital_any _ _).mono ?_; rintro e w' ⟨rfl, rfl⟩)
            | (at_builtin; refine wpList_append_own _ rfl (.tmp 33) (.tmp 40) 68 rfl w.heap.size 5 i0 _ 1 1 Tryd.underlying68 hi0 hz0 hz1 hz2 rfl (by omega) _ _ _ rfl (hown.alloc _) ⟨wr.heap.size, 0, none⟩ 2 2 [Value.int .u8 (48 + ((s[k].toNat : Int) - 65 + 10) % 256 / 10), Value.int .u8 (48 + ((s[k].toNat : Int) - 65 + 10) % 256 % 10)] rfl rfl (app_news2 wr _ _ _) (one_two _ _ _) hc3 hc4 hc5 ?_; intro v' w2 hown' hg' _))
          go_roundw
          case rel =>
            have hdl : (digOf s[k]).length = 2 := by rw [← u8s_len, ← HW.out]; rfl
            refine ⟨k + 1, by omega, by go_num, ?_, all_snoc s k hks _ HA.out (by simp [okB, HC.out]), ?_⟩
            · have e1 : digs (s.data.toList.take (k + 1)) = d ++ digOf s[k] := by rw [HT.out, HS.out]
              rw [e1, u8s_app, List.length_append, hdl, ← HW.out]
              exact hown'
            · exact (hb.alloc hb.size _).grown hg' hc5 (fun g h => (hown.lt g h).1)
          case measure => simp [intOf]; omega
        · have h2 : inB (s[k].toNat : Int) 65 90 = false := by
            cases h : inB (s[k].toNat : Int) 65 90 with
            | true => exact absurd h hcp
            | false => rfl
          have HN := Lib.hid (all_no s k hks okB (by unfold okB digB capB; rw [h1, h2]; rfl))
          clear hdg hcp
          go_wp2_with (first
            | (go_at_call 94; refine (digit_any _ _).mono ?_; rintro e w' ⟨rfl, rfl⟩)
            | (go_at_call 77; refine (capital_any _ _).mono ?_; rintro e w' ⟨rfl, rfl⟩))
          go_ret2
          exact ⟨by unfold digsS okAll; rw [HN.out]; rfl, hb⟩
    · have e := take_all s k (by omega)
      have h := HA.out
      rw [e] at hown hl h
      have hcv := conv_row wr _ _ _ hown
      have HH := Lib.hid h; clear h e
      clear HA hown
      go_wp2
      go_ret2
      refine ⟨?_, hb⟩
      unfold digsS okAll
      rw [HH.out]; rfl
end Go.Proofs.YtichnpjpldkceaaDoor

/- The contract of spec.Amended. -/
import Derived.Test.YtphcjppdmdmejaaDoorAmMath
import Derived.Test.YtphcjppdmdmejaaDoorPLab2
namespace Go.Proofs.YtphcjppdmdmejaaDoor
open Go.RowKit
theorem str_info : (Tryd.prog.info? 9).map (fun i => (i.zero, i.size, i.bytes)) = some (some (.string ⟨#[]⟩), 1, 16) := by kernel_rfl
def strV (l : List ByteArray) : List Value := l.map Value.string
theorem strV_app (a b : List ByteArray) : strV (a ++ b) = strV a ++ strV b := by simp [strV]
theorem strV_len (a : List ByteArray) : (strV a).length = a.length := by simp [strV]
/-- a slice of the call's own that holds these texts -/
def OwnStr (w : World) (base : Nat) (v : Value) (l : List ByteArray) : Prop := w.ownsRow base 9 1 v l.length (strV l)
theorem one_str (s : ByteArray) : ∀ u ∈ strV [s], u.oneCell' = true := by
  intro u hu
  simp only [strV, List.map_cons, List.map_nil, List.mem_singleton] at hu
  subst hu; rfl
theorem str_news (wr : World) (s : ByteArray) : ∀ j u, (strV [s])[j]? = some u → (wr.alloc (.cells #[.string s] 9)).cell? ((⟨wr.heap.size, 0, none⟩ : Addr).add j) = some u := by
  intro j u hu
  have e : (⟨wr.heap.size, 0, none⟩ : Addr).add j = ⟨wr.heap.size, j, none⟩ := by
    unfold Addr.add; split
    · subst_vars; rfl
    · simp
  rw [e, cell_of_row _ _ _ _ _ _ (heap_alloc_new wr _)]
  simpa [strV] using hu
theorem own_below {w w' : World} {base : Nat} {v : Value} {l : List ByteArray} (h : OwnStr w base v l) (hb : Below w.heap.size w w') : OwnStr w' base v l :=
  World.ownsRow.kept h (row := none) ⟨hb.os, hb.tape, hb.output, hb.size, fun i hi _ => hb.block i hi⟩ (by cases v.ownBlock <;> simp)
theorem changed_size (s : ByteArray) (k : Nat) (c : UInt8) (hk : k < 15) (h15 : s.size = 15) : (changed s k c).size = 15 := by
  have h1 := congrArg List.length (changed_list s k c)
  rw [List.length_append, List.length_cons, List.length_take, List.length_drop] at h1
  have h2 : (changed s k c).size = (changed s k c).data.toList.length := by simp
  have h3 : s.data.toList.length = 15 := by simpa using h15
  omega
theorem changed_same (s : ByteArray) (k : Nat) (c : UInt8) (hk : k < 15) (h15 : s.size = 15) : (changed s k c).data.toList = s.data.toList ↔ s.data.toList[k]? = some c := by
  have hlen : s.data.toList.length = 15 := by simpa using h15
  have htl : (s.data.toList.take k).length = k := by rw [List.length_take]; omega
  rw [changed_list]
  constructor
  · intro h
    rw [← h, List.getElem?_append_right (by omega), htl, Nat.sub_self]; rfl
  · intro h
    have e : s.data.toList = s.data.toList.take k ++ s.data.toList[k] :: s.data.toList.drop (k + 1) := by
      conv => lhs; rw [← List.take_append_drop k s.data.toList]
      rw [List.drop_eq_getElem_cons (by omega)]
    rw [List.getElem?_eq_getElem (by omega)] at h
    rw [← Option.some.inj h]
    exact e.symm
theorem own_new (w : World) : OwnStr (w.alloc (.cells #[] 9)) w.heap.size (.slice (some ⟨w.heap.size, 0, none⟩) 0 0) [] :=
  ⟨rfl, .inr ⟨w.heap.size, 0, #[], rfl, Nat.le_refl _, heap_alloc_new w _, Nat.le_refl _, Nat.zero_le _, rfl, rfl⟩⟩
set_option maxRecDepth 100000 in
set_option maxHeartbeats 2000000 in
theorem am_spec (s : ByteArray) (w : World) (hs : s.size ≤ 1048576) :
    Calls Tryd.prog 34 #[.string s] w fun e w' => ∃ v, e = .returned v ∧ OwnStr w' w.heap.size v (amL s) ∧ Below w.heap.size w w' := by
  obtain ⟨i0, hi0, hz0, hz1, hz2⟩ := info_parts str_info
  by_cases h15 : s.size = 15
  · have HF := Lib.hid (show amL s = amTo s 15 by unfold amL; rw [if_pos h15])
    have hlo : 15 ≤ s.size := by omega
    have hhi : s.size ≤ 15 := by omega
    have hb : ((s.size : Int) == 15) = true := by simp; omega
    have H15 := Lib.hid h15; clear h15
    go_enter Tryd.func34, Tryd.ntmps34
    go_wp2
    go_loopw [3, 4] (fun v i wr => ∃ k : Nat, k ≤ 15 ∧ i = .int .i64 k ∧ OwnStr wr w.heap.size v (amTo s k) ∧ Below w.heap.size w wr) (fun _ i _ => 15 - (intOf i).toNat)
    case atStart => exact ⟨0, by omega, rfl, own_new w, (Below.refl _ _).alloc (Nat.le_refl _) _⟩
    case round =>
      obtain ⟨k, hk, rfl, hown, hb1⟩ := hrel
      by_cases hlt : (k : Int) < 15
      · have hks : (k : Int) < (s.size : Int) := by omega
        obtain ⟨wo, hwo⟩ : ∃ wo : World, wo = wr := ⟨_, rfl⟩
        subst hwo
        go_wp2
        go_loopw [3, 5] (fun v b wq => ∃ j : Nat, j ≤ 36 ∧ b = .int .i64 j ∧ OwnStr wq w.heap.size v (amTo s k ++ (chars36.take j).flatMap (cand s k)) ∧ Below w.heap.size w wq) (fun _ b _ => 36 - (intOf b).toNat)
        case atStart => exact ⟨0, by omega, rfl, by simpa using hown, hb1⟩
        case round =>
          obtain ⟨j, hj, rfl, hown2, hb2⟩ := hrel
          have HO := Lib.hid hown2; clear hown2 hown hb1
          have hkn : k < s.size := by omega
          have HLEN : Hid ((amTo s k ++ (chars36.take j).flatMap (cand s k)).length ≤ 1000) := by
            have h1 := amTo_len s k
            have h2 := flat_len s k (chars36.take j)
            have h3 : (chars36.take j).length ≤ 36 := Nat.le_trans (List.length_take_le _ _) hj
            show _ ≤ 1000
            rw [List.length_append]; omega
          by_cases hj36 : (j : Int) < 36
          · have HC := Lib.hid (show changed s k (chr36 j) = s.extract 0 k ++ ⟨#[chr36 j]⟩ ++ s.extract (k + 1) s.size from rfl)
            have z1 : (s.extract 0 k).size ≤ 15 := by rw [ByteArray.size_extract]; omega
            have z2 : (s.extract (k + 1) s.size).size ≤ 15 := by rw [ByteArray.size_extract]; omega
            have o1 : ¬ 9223372036854775807 < (s.extract 0 k).size + 1 := by omega
            have o2 : ¬ 9223372036854775807 < (s.extract 0 k).size + 1 + (s.extract (k + 1) s.size).size := by omega
            have b1 : k ≤ s.size := by omega
            have b2 : k + 1 ≤ s.size := by omega
            clear z1 z2
            by_cases h9 : (9 : Int) < (j : Int)
            ·
              have kc : (convert 22 9 (.slice (some ⟨wr.heap.size, 0, none⟩) 1 1)).run Tryd.prog ((wr.alloc (.cells #[.int .u8 (65 + (j : Int) - 10)] 5)).drew) = .ok (.string ⟨#[UInt8.ofNat (65 + (j : Int) - 10).toNat]⟩) ((wr.alloc (.cells #[.int .u8 (65 + (j : Int) - 10)] 5)).drew) := conv_one wr.drew (65 + (j : Int) - 10) (by omega) (by omega)
              have kc2 : (convert 22 9 (.slice (some ⟨wr.heap.size, 0, none⟩) 1 1)).run Tryd.prog (wr.alloc (.cells #[.int .u8 (65 + (j : Int) - 10)] 5)) = .ok (.string ⟨#[UInt8.ofNat (65 + (j : Int) - 10).toNat]⟩) (wr.alloc (.cells #[.int .u8 (65 + (j : Int) - 10)] 5)) := conv_one wr (65 + (j : Int) - 10) (by omega) (by omega)
              have hch : UInt8.ofNat (65 + (j : Int) - 10).toNat = chr36 j := by unfold chr36; rw [if_neg (by omega)]; exact congrArg UInt8.ofNat (by omega)
              rw [hch] at kc kc2
              clear hch
              go_wp2_with fail
              generalize hxe : 65 + (j : Int) - 10 = x at *
              clear hxe
              go_region
              rw [← HC.out]
              obtain ⟨t, ht⟩ : ∃ t, t = changed s k (chr36 j) := ⟨_, rfl⟩
              rw [← ht]
              have htz : t.size ≤ 1048576 := by rw [ht, changed_size s k (chr36 j) (by omega) H15.out]; omega
              have HTE := Lib.hid ht; clear ht
              have hbw := ((Below.refl wr.heap.size wr).alloc (Nat.le_refl _) (.cells #[.int .u8 x] 5)).drew
              clear kc kc2
              go_wp2_with fail
              generalize (wr.alloc (.cells #[.int .u8 x] 5)).drew = W at *
              refine (plab_spec t _ htz).mono ?_; rintro e w2 ⟨h2, hbt⟩
              have hbw2 := hbw.trans (hbt.mono hbw.size)
              clear hbt hbw
              rcases h2 with ⟨a, b, y, hl, rfl⟩ | ⟨hn, rfl⟩
              · have hbw3 := hbw2.alloc hbw2.size (.cells #[.int .i64 a, .int .i64 b, .string y] 26)
                have HL := Lib.hid (show ValT (changed s k (chr36 j)) from ⟨a, b, y, by rw [← HTE.out]; exact hl⟩); clear hl
                by_cases hts : t.toList = s.toList
                · have q1 : (t.toList == s.toList) = true := by simpa using hts
                  have HNO := Lib.hid (show cand s k (chr36 j) = [] from cand_no s k _ (fun h => h.2 ((changed_same s k _ (by omega) H15.out).1 (by rw [← HTE.out, ← ByteArray.toList_eq, ← ByteArray.toList_eq]; exact hts))))
                  clear hts
                  go_wp2
                  go_roundw
                  case rel =>
                    refine ⟨j + 1, by omega, by go_num, ?_, hb2.trans (hbw3.mono hb2.size)⟩
                    rw [chars_succ s k j (by omega), HNO.out, List.append_nil]
                    exact own_below HO.out hbw3
                  case measure => simp [intOf]; omega

                · have q1 : (t.toList == s.toList) = false := by simpa using hts
                  have HYES := Lib.hid (show cand s k (chr36 j) = [t] by
                    rw [cand_yes s k _ HL.out (fun h => hts (by rw [ByteArray.toList_eq, ByteArray.toList_eq, HTE.out]; exact (changed_same s k _ (by omega) H15.out).2 h)), HTE.out])
                  clear hts
                  have hown3 := own_below HO.out hbw3
                  unfold OwnStr at hown3
                  have hc3 : (amTo s k ++ (chars36.take j).flatMap (cand s k)).length + 1 ≤ maxLen := by have := HLEN.out; unfold maxLen; omega
                  have hc4 : ((amTo s k ++ (chars36.take j).flatMap (cand s k)).length + 1) * 16 ≤ 140737488355328 := by have := HLEN.out; omega
                  have hbz3 := hb2.trans (hbw3.mono hb2.size)
                  have hsz3 := hbz3.size
                  generalize hW3 : w2.alloc (.cells #[.int .i64 a, .int .i64 b, .string y] 26) = W3 at *
                  have hc5 : w.heap.size ≤ (W3.alloc (.cells #[.string t] 9)).heap.size := by simp; omega
                  go_wp2_with (at_builtin; refine wpList_append_own _ rfl (.tmp 58) (.tmp 60) 32 rfl w.heap.size 9 i0 _ 1 16 Tryd.underlying32 hi0 hz0 hz1 hz2 rfl (by omega) _ _ _ rfl (hown3.alloc _) ⟨W3.heap.size, 0, none⟩ 1 1 (strV [t]) rfl rfl (str_news W3 t) (one_str t) hc3 hc4 hc5 ?_; intro v' w4 hown' hg' _)
                  go_roundw
                  case rel =>
                    refine ⟨j + 1, by omega, by go_num, ?_, (hbz3.alloc hsz3 _).grown hg' hc5 (fun g h => (hown3.lt g h).1)⟩
                    rw [chars_succ s k j (by omega), HYES.out, ← List.append_assoc]
                    unfold OwnStr
                    rw [strV_app, List.length_append]
                    exact hown'
                  case measure => simp [intOf]; omega
              · have HNO := Lib.hid (show cand s k (chr36 j) = [] from cand_no s k _ (fun h => by
                  obtain ⟨⟨a, b, y, hl⟩, _⟩ := h
                  rw [← HTE.out] at hl
                  exact hn a b y hl))
                have hbw3 := hbw2.alloc hbw2.size (.cells #[.int .i64 0, .int .i64 0, .string ⟨#[]⟩] 26)
                clear hn
                go_wp2
                go_roundw
                case rel =>
                  refine ⟨j + 1, by omega, by go_num, ?_, hb2.trans (hbw3.mono hb2.size)⟩
                  rw [chars_succ s k j (by omega), HNO.out, List.append_nil]
                  exact own_below HO.out hbw3
                case measure => simp [intOf]; omega


            ·
              have kc : (convert 22 9 (.slice (some ⟨wr.heap.size, 0, none⟩) 1 1)).run Tryd.prog ((wr.alloc (.cells #[.int .u8 (48 + (j : Int))] 5)).drew) = .ok (.string ⟨#[UInt8.ofNat (48 + (j : Int)).toNat]⟩) ((wr.alloc (.cells #[.int .u8 (48 + (j : Int))] 5)).drew) := conv_one wr.drew (48 + (j : Int)) (by omega) (by omega)
              have kc2 : (convert 22 9 (.slice (some ⟨wr.heap.size, 0, none⟩) 1 1)).run Tryd.prog (wr.alloc (.cells #[.int .u8 (48 + (j : Int))] 5)) = .ok (.string ⟨#[UInt8.ofNat (48 + (j : Int)).toNat]⟩) (wr.alloc (.cells #[.int .u8 (48 + (j : Int))] 5)) := conv_one wr (48 + (j : Int)) (by omega) (by omega)
              have hch : UInt8.ofNat (48 + (j : Int)).toNat = chr36 j := by unfold chr36; rw [if_pos (by omega)]; exact congrArg UInt8.ofNat (by omega)
              rw [hch] at kc kc2
              clear hch
              go_wp2_with fail
              generalize hxe : 48 + (j : Int) = x at *
              clear hxe
              go_region
              rw [← HC.out]
              obtain ⟨t, ht⟩ : ∃ t, t = changed s k (chr36 j) := ⟨_, rfl⟩
              rw [← ht]
              have htz : t.size ≤ 1048576 := by rw [ht, changed_size s k (chr36 j) (by omega) H15.out]; omega
              have HTE := Lib.hid ht; clear ht
              have hbw := ((Below.refl wr.heap.size wr).alloc (Nat.le_refl _) (.cells #[.int .u8 x] 5)).drew
              clear kc kc2
              go_wp2_with fail
              generalize (wr.alloc (.cells #[.int .u8 x] 5)).drew = W at *
              refine (plab_spec t _ htz).mono ?_; rintro e w2 ⟨h2, hbt⟩
              have hbw2 := hbw.trans (hbt.mono hbw.size)
              clear hbt hbw
              rcases h2 with ⟨a, b, y, hl, rfl⟩ | ⟨hn, rfl⟩
              · have hbw3 := hbw2.alloc hbw2.size (.cells #[.int .i64 a, .int .i64 b, .string y] 26)
                have HL := Lib.hid (show ValT (changed s k (chr36 j)) from ⟨a, b, y, by rw [← HTE.out]; exact hl⟩); clear hl
                by_cases hts : t.toList = s.toList
                · have q1 : (t.toList == s.toList) = true := by simpa using hts
                  have HNO := Lib.hid (show cand s k (chr36 j) = [] from cand_no s k _ (fun h => h.2 ((changed_same s k _ (by omega) H15.out).1 (by rw [← HTE.out, ← ByteArray.toList_eq, ← ByteArray.toList_eq]; exact hts))))
                  clear hts
                  go_wp2
                  go_roundw
                  case rel =>
                    refine ⟨j + 1, by omega, by go_num, ?_, hb2.trans (hbw3.mono hb2.size)⟩
                    rw [chars_succ s k j (by omega), HNO.out, List.append_nil]
                    exact own_below HO.out hbw3
                  case measure => simp [intOf]; omega

                · have q1 : (t.toList == s.toList) = false := by simpa using hts
                  have HYES := Lib.hid (show cand s k (chr36 j) = [t] by
                    rw [cand_yes s k _ HL.out (fun h => hts (by rw [ByteArray.toList_eq, ByteArray.toList_eq, HTE.out]; exact (changed_same s k _ (by omega) H15.out).2 h)), HTE.out])
                  clear hts
                  have hown3 := own_below HO.out hbw3
                  unfold OwnStr at hown3
                  have hc3 : (amTo s k ++ (chars36.take j).flatMap (cand s k)).length + 1 ≤ maxLen := by have := HLEN.out; unfold maxLen; omega
                  have hc4 : ((amTo s k ++ (chars36.take j).flatMap (cand s k)).length + 1) * 16 ≤ 140737488355328 := by have := HLEN.out; omega
                  have hbz3 := hb2.trans (hbw3.mono hb2.size)
                  have hsz3 := hbz3.size
                  generalize hW3 : w2.alloc (.cells #[.int .i64 a, .int .i64 b, .string y] 26) = W3 at *
                  have hc5 : w.heap.size ≤ (W3.alloc (.cells #[.string t] 9)).heap.size := by simp; omega
                  go_wp2_with (at_builtin; refine wpList_append_own _ rfl (.tmp 58) (.tmp 60) 32 rfl w.heap.size 9 i0 _ 1 16 Tryd.underlying32 hi0 hz0 hz1 hz2 rfl (by omega) _ _ _ rfl (hown3.alloc _) ⟨W3.heap.size, 0, none⟩ 1 1 (strV [t]) rfl rfl (str_news W3 t) (one_str t) hc3 hc4 hc5 ?_; intro v' w4 hown' hg' _)
                  go_roundw
                  case rel =>
                    refine ⟨j + 1, by omega, by go_num, ?_, (hbz3.alloc hsz3 _).grown hg' hc5 (fun g h => (hown3.lt g h).1)⟩
                    rw [chars_succ s k j (by omega), HYES.out, ← List.append_assoc]
                    unfold OwnStr
                    rw [strV_app, List.length_append]
                    exact hown'
                  case measure => simp [intOf]; omega
              · have HNO := Lib.hid (show cand s k (chr36 j) = [] from cand_no s k _ (fun h => by
                  obtain ⟨⟨a, b, y, hl⟩, _⟩ := h
                  rw [← HTE.out] at hl
                  exact hn a b y hl))
                have hbw3 := hbw2.alloc hbw2.size (.cells #[.int .i64 0, .int .i64 0, .string ⟨#[]⟩] 26)
                clear hn
                go_wp2
                go_roundw
                case rel =>
                  refine ⟨j + 1, by omega, by go_num, ?_, hb2.trans (hbw3.mono hb2.size)⟩
                  rw [chars_succ s k j (by omega), HNO.out, List.append_nil]
                  exact own_below HO.out hbw3
                case measure => simp [intOf]; omega


          · obtain rfl : j = 36 := by omega
            have HE : Hid (amTo s k ++ (chars36.take 36).flatMap (cand s k) = amTo s (k + 1)) := by
              rw [amTo_succ]; rfl
            clear HLEN
            go_wp2
            go_roundw
            case rel => exact ⟨k + 1, by omega, by go_num, by rw [← HE.out]; exact HO.out, hb2⟩
            case measure => simp [intOf]; omega
      · obtain rfl : k = 15 := by omega
        have HO := Lib.hid hown; clear hown
        go_wp2
        go_ret
        exact ⟨_, rfl, by rw [HF.out]; exact HO.out, hb1⟩
  · have HF := Lib.hid (show amL s = [] by unfold amL; rw [if_neg h15])
    have hb : ((s.size : Int) == 15) = false := by simp; omega
    clear h15
    go_enter Tryd.func34, Tryd.ntmps34
    go_wp2
    go_loopw [3, 4] (fun v i wr => i = .int .i64 0 ∧ v = .slice (some ⟨w.heap.size, 0, none⟩) 0 0 ∧ wr = w.alloc (.cells #[] 9)) (fun _ _ _ => 0)
    case atStart => exact ⟨rfl, rfl, rfl⟩
    case round =>
      obtain ⟨rfl, rfl, rfl⟩ := hrel
      by_cases h0 : (0 : Int) < (s.size : Int)
      · go_wp2
        go_ret
        exact ⟨_, rfl, by rw [HF.out]; exact own_new w, (Below.refl _ _).alloc (Nat.le_refl _) _⟩
      · go_wp2
        go_ret
        exact ⟨_, rfl, by rw [HF.out]; exact own_new w, (Below.refl _ _).alloc (Nat.le_refl _) _⟩
end Go.Proofs.YtphcjppdmdmejaaDoor

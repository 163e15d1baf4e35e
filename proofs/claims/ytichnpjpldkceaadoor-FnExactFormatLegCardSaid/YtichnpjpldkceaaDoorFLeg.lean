/- Contracts of the two texts of FormatLeg. -/
import Derived.Test.YtichnpjpldkceaaDoorClock
import Derived.Test.YtichnpjpldkceaaDoorIsLeg
import Derived.Test.YtichnpjpldkceaaDoorBuildr
import Derived.Test.YtichnpjpldkceaaDoorFar
namespace Go.Proofs.YtichnpjpldkceaaDoor
open Go.RowKit
theorem bit_small : ∀ n : Fin 128, ∀ k : Fin 7, bits BinOp.and IntKind.i64 (((n : Nat) : Int) / 2 ^ (k : Nat)) 1 = 0 ∨ bits BinOp.and IntKind.i64 (((n : Nat) : Int) / 2 ^ (k : Nat)) 1 = 1 := by decide +kernel
theorem bit01 {d : Int} (h : 1 ≤ d ∧ d ≤ 127) {k : Nat} (hk : k < 7) : bits BinOp.and IntKind.i64 (d / 2 ^ k) 1 = 0 ∨ bits BinOp.and IntKind.i64 (d / 2 ^ k) 1 = 1 := by
  obtain ⟨n, rfl⟩ : ∃ n : Nat, d = n := ⟨d.toNat, by omega⟩
  exact bit_small ⟨n, by omega⟩ ⟨k, hk⟩
def dayL (d : Int) (k : Nat) : List UInt8 := (List.range k).map fun i => UInt8.ofNat (48 + (bits BinOp.and IntKind.i64 (d / 2 ^ i) 1).toNat)
theorem dayL_len (d : Int) (k : Nat) : (dayL d k).length = k := by simp [dayL]
theorem dayL_succ (d : Int) (k : Nat) : dayL d (k + 1) = dayL d k ++ [UInt8.ofNat (48 + (bits BinOp.and IntKind.i64 (d / 2 ^ k) 1).toNat)] := by simp [dayL, List.range_succ]
def dayS (d : Int) : ByteArray := ⟨(dayL d 7).toArray⟩
theorem bit_itoa {v : Int} (h : v = 0 ∨ v = 1) : itoaS v = ⟨#[UInt8.ofNat (48 + v.toNat)]⟩ := by
  rcases h with rfl | rfl <;> decide +kernel
def legS (f t : ByteArray) (s k d r : Int) : ByteArray := f ++ ⟨#[45]⟩ ++ t ++ ⟨#[32]⟩ ++ clk s ++ ⟨#[32]⟩ ++ itoaS k ++ ⟨#[32]⟩ ++ dayS d ++ ⟨#[32]⟩ ++ itoaS r
def fmtLeg (f t : ByteArray) (s k d r : Int) : ByteArray := if legB f t s k d r then legS f t s k d r else ⟨#[]⟩
theorem leg_parts {f t : ByteArray} {s k d r : Int} (h : legB f t s k d r = true) : f.size = 3 ∧ t.size = 3 ∧ (0 ≤ s ∧ s ≤ 1439) ∧ (1 ≤ k ∧ k ≤ 4320) ∧ (1 ≤ d ∧ d ≤ 127) ∧ (0 ≤ r ∧ r ≤ 1000000) := by
  simp only [legB, Bool.and_eq_true, plcB, beq_iff_eq] at h
  exact ⟨by have := h.1.1; simpa using this, by have := h.2.1.1; simpa using this, inB_iff.1 h.2.2.2.1, inB_iff.1 h.2.2.2.2.1, inB_iff.1 h.2.2.2.2.2.1, inB_iff.1 h.2.2.2.2.2.2⟩
set_option maxRecDepth 100000 in
set_option maxHeartbeats 4000000 in
theorem fleg_spec (f t : ByteArray) (s k d r : Int) (w : World) (hf : f.size ≤ maxLen) (ht : t.size ≤ maxLen) :
    Calls Tryd.prog 18 #[.agg #[.string f, .string t, .int .i64 s, .int .i64 k, .int .i64 d, .int .i64 r]] w fun e w' => e = .returned (.string (fmtLeg f t s k d r)) ∧ Below w.heap.size w w' := by
  have hb0 := (Below.refl w.heap.size w).alloc (Nat.le_refl _) (.cells #[.string f, .string t, .int .i64 s, .int .i64 k, .int .i64 d, .int .i64 r] 44)
  have hr0 := heap_alloc_new w (.cells #[.string f, .string t, .int .i64 s, .int .i64 k, .int .i64 d, .int .i64 r] 44)
  have H0 := Lib.hid (And.intro hr0 hb0); clear hr0 hb0
  have HI := Lib.hid (fun W => is_leg_spec f t s k d r W hf ht)
  clear hf ht
  cases hl : legB f t s k d r with
  | false =>
    have HR := Lib.hid (show fmtLeg f t s k d r = ⟨#[]⟩ by unfold fmtLeg; rw [hl]; rfl)
    rw [hl] at HI; clear hl
    go_enter Tryd.func18, Tryd.ntmps18
    go_wp2_with fail
    refine (HI.out _).mono ?_; rintro e w1 ⟨rfl, hb1⟩
    go_wp2
    go_ret
    exact ⟨ret_str' HR.out.symm, H0.out.2.trans (hb1.mono (by simp))⟩
  | true =>
    obtain ⟨hf3, ht3, hs, hk, hd, hr⟩ := leg_parts hl
    have HR := Lib.hid (show fmtLeg f t s k d r = f ++ ⟨#[45]⟩ ++ t ++ ⟨#[32]⟩ ++ clk s ++ ⟨#[32]⟩ ++ itoaS k ++ ⟨#[32]⟩ ++ dayS d ++ ⟨#[32]⟩ ++ itoaS r by unfold fmtLeg; rw [hl]; rfl)
    rw [hl] at HI; clear hl
    have HC := Lib.hid (fun W => clock_spec s hs W)
    have HK := Lib.hid (fun W => fmt_spec k W (by omega))
    have HRR := Lib.hid (fun W => fmt_spec r W (by omega))
    have HBT := Lib.hid (fun j (hj : j < 7) => bit01 hd (k := j) hj)
    have hp := clk_size s hs
    have hq := itoaS_size k (by omega)
    have hu := itoaS_size r (by omega)
    have hf4 : f.size ≤ 3 := by omega
    have ht4 : t.size ≤ 3 := by omega
    have hp5 : (clk s).size ≤ 5 := by omega
    clear hf3 ht3 hp hs hk hr
    generalize clk s = p at *
    generalize itoaS k = q at *
    generalize itoaS r = u at *
    generalize hB : w.heap.size = B at *
    have HBE := Lib.hid hB; clear hB
    go_enter Tryd.func18, Tryd.ntmps18
    go_wp2_with fail
    rw [HBE.out]
    generalize w.alloc (.cells #[.string f, .string t, .int .i64 s, .int .i64 k, .int .i64 d, .int .i64 r] 44) = W at *
    refine (HI.out W).mono ?_; rintro e w1 ⟨rfl, hb1⟩
    have hBW : B < W.heap.size := (Array.getElem?_eq_some_iff.1 H0.out.1).1
    have H1 := Lib.hid (And.intro ((hb1.block B hBW).trans H0.out.1) (H0.out.2.trans (hb1.mono (Nat.le_of_lt hBW))))
    clear hb1 H0
    go_wp2
    go_loopw [3, 4] (fun v i wr => ∃ j : Nat, j ≤ 7 ∧ i = .int .i64 j ∧ v = .string ⟨(dayL d j).toArray⟩ ∧ Hid (wr.heap[B]? = some (.cells #[.string f, .string t, .int .i64 s, .int .i64 k, .int .i64 d, .int .i64 r] 44 (0, 0)) ∧ Below B w wr)) (fun _ i _ => 7 - (intOf i).toNat)
    case atStart => exact ⟨0, by omega, rfl, rfl, H1⟩
    case round =>
      obtain ⟨j, hj, rfl, rfl, HQ⟩ := hrel
      have c0 : wr.cell? ⟨B, 0, none⟩ = some (.string f) := by rw [cell_of_row wr B _ _ _ _ HQ.out.1]; rfl
      have c1 : wr.cell? ⟨B, 1, none⟩ = some (.string t) := by rw [cell_of_row wr B _ _ _ _ HQ.out.1]; rfl
      have c2 : wr.cell? ⟨B, 2, none⟩ = some (.int .i64 s) := by rw [cell_of_row wr B _ _ _ _ HQ.out.1]; rfl
      have c3 : wr.cell? ⟨B, 3, none⟩ = some (.int .i64 k) := by rw [cell_of_row wr B _ _ _ _ HQ.out.1]; rfl
      have c4 : wr.cell? ⟨B, 4, none⟩ = some (.int .i64 d) := by rw [cell_of_row wr B _ _ _ _ HQ.out.1]; rfl
      have c5 : wr.cell? ⟨B, 5, none⟩ = some (.int .i64 r) := by rw [cell_of_row wr B _ _ _ _ HQ.out.1]; rfl
      have hBr : B < wr.heap.size := (Array.getElem?_eq_some_iff.1 HQ.out.1).1
      by_cases hlt : (j : Int) < 7
      · have hj7 : j < 7 := by omega
        obtain ⟨v, hv⟩ : ∃ v, v = bits BinOp.and IntKind.i64 (d / 2 ^ j) 1 := ⟨_, rfl⟩
        have hv01 := HBT.out j hj7
        rw [← hv] at hv01
        have HV := Lib.hid hv
        have HFV := Lib.hid (fmt_spec v wr (by omega))
        rw [bit_itoa hv01] at HFV
        have HDS := Lib.hid (dayL_succ d j)
        rw [← hv] at HDS
        have hlen : (dayL d j).length ≤ 7 := by rw [dayL_len]; omega
        have hv' : bits BinOp.and IntKind.i64 (d / 2 ^ j) 1 = v := hv.symm
        clear hv hv01
        go_wp2_with fail
        refine HFV.out.mono ?_; rintro e w2 ⟨rfl, hb2⟩
        have HQ2 := Lib.hid (And.intro ((hb2.block B hBr).trans HQ.out.1) (HQ.out.2.trans (hb2.mono (Nat.le_of_lt hBr))))
        clear c0 c1 c2 c3 c4 c5 hb2 HQ
        have hll : ¬ 9223372036854775807 < (dayL d j).length + 1 := by omega
        go_wp2
        go_roundw
        case rel => exact ⟨j + 1, by omega, by go_num, congrArg Value.string (by rw [HDS.out, byte_sum, show (⟨#[48 + UInt8.ofNat v.toNat]⟩ : ByteArray) = ⟨[48 + UInt8.ofNat v.toNat].toArray⟩ from rfl, bytes_app]), HQ2⟩
        case measure => simp [intOf]; omega
      · obtain rfl : j = 7 := by omega
        have HR2 := Lib.hid (show fmtLeg f t s k d r = f ++ ⟨#[45]⟩ ++ t ++ ⟨#[32]⟩ ++ p ++ ⟨#[32]⟩ ++ q ++ ⟨#[32]⟩ ++ ⟨(dayL d 7).toArray⟩ ++ ⟨#[32]⟩ ++ u from HR.out)
        have hg : (⟨(dayL d 7).toArray⟩ : ByteArray).size = 7 := by show (dayL d 7).toArray.size = 7; rw [List.size_toArray, dayL_len]
        have hg7 : (⟨(dayL d 7).toArray⟩ : ByteArray).size ≤ 7 := by omega
        clear hg HR
        generalize (⟨(dayL d 7).toArray⟩ : ByteArray) = g at *
        have l1 : ¬ 9223372036854775807 < f.size + 1 := by omega
        have l2 : ¬ 9223372036854775807 < f.size + 1 + t.size := by omega
        have l3 : ¬ 9223372036854775807 < f.size + 1 + t.size + 1 := by omega
        have l4 : ¬ 9223372036854775807 < f.size + 1 + t.size + 1 + p.size := by omega
        have l5 : ¬ 9223372036854775807 < f.size + 1 + t.size + 1 + p.size + 1 := by omega
        have l6 : ¬ 9223372036854775807 < f.size + 1 + t.size + 1 + p.size + 1 + q.size := by omega
        have l7 : ¬ 9223372036854775807 < f.size + 1 + t.size + 1 + p.size + 1 + q.size + 1 := by omega
        have l8 : ¬ 9223372036854775807 < f.size + 1 + t.size + 1 + p.size + 1 + q.size + 1 + g.size := by omega
        have l9 : ¬ 9223372036854775807 < f.size + 1 + t.size + 1 + p.size + 1 + q.size + 1 + g.size + 1 := by omega
        have la : ¬ 9223372036854775807 < f.size + 1 + t.size + 1 + p.size + 1 + q.size + 1 + g.size + 1 + u.size := by omega
        have HF0 := far_cell hBr c0; have HF1 := far_cell hBr c1; have HF2 := far_cell hBr c2; have HF3 := far_cell hBr c3; have HF4 := far_cell hBr c4; have HF5 := far_cell hBr c5
        clear c0 c1 c2 c3 c4 c5
        go_wp2_with fail
        refine wp_region_far (by kernel_rfl) (by kernel_rfl) ?_
        repeat (any_goals (first
          | go_big_quiet_step ((first | (go_at_call 39; with_reducible exact call_far (HC.out _)) | (go_at_call 28; first | with_reducible exact call_far (HK.out _) | with_reducible exact call_far (HRR.out _))))
          | quiet_step ((first | (go_at_call 39; with_reducible exact call_far (HC.out _)) | (go_at_call 28; first | with_reducible exact call_far (HK.out _) | with_reducible exact call_far (HRR.out _))))))
        refine wpQuiet_nil ?_; intro w2 hw2
        have hb2 : Below wr.heap.size wr w2 := by obtain ⟨x, rfl⟩ := hw2; exact below_far wr x
        clear hw2
        go_wp2
        go_ret
        exact ⟨ret_str' HR2.out.symm, HQ.out.2.trans (hb2.mono (Nat.le_of_lt hBr))⟩
/-- the builder in block b holds these bytes -/
def Bld (b : Nat) (l : List UInt8) (w : World) : Prop := Lib.IsBuilder 70 5 b b (Lib.byteCells l) w
theorem Bld.lt {b : Nat} {l : List UInt8} {w : World} (h : Bld b l w) : b < w.heap.size := by rcases h with h | h <;> exact h.lt
theorem Bld.keep {b : Nat} {l : List UInt8} {w w' : World} (h : Bld b l w) (hb : Below w.heap.size w w') : Bld b l w' := by
  have go : ∀ p, Lib.BuilderAt 70 5 b b p (Lib.byteCells l) w → Lib.BuilderAt 70 5 b b p (Lib.byteCells l) w' := by
    rintro p ⟨h1, v, h2, h3, h4⟩
    exact ⟨h1, v, (hb.block b (Array.getElem?_eq_some_iff.1 h2).1).trans h2, World.ownsRow.kept h3 (row := none) ⟨hb.os, hb.tape, hb.output, hb.size, fun i hi _ => hb.block i hi⟩ (by cases v.ownBlock <;> simp), h4⟩
  rcases h with h | h
  · exact .inl (go _ h)
  · exact .inr (go _ h)
theorem bld_str {b : Nat} {l : List UInt8} {s : ByteArray} {w : World} (h : Bld b l w) (hl : l.length + s.size ≤ 1000) :
    Calls Tryd.prog 49 #[.pointer (some ⟨b, 0, none⟩), .string s] w fun e w' => e = .returned (.tuple #[.int .i64 s.size, .nilIface]) ∧ Bld b (l ++ s.data.toList) w' ∧ Below b w w' :=
  (Tryd.Builder_WriteString b b (Lib.byteCells l) s w h (by rw [Lib.byteCells_length]; omega) (Nat.le_of_lt h.lt)).mono fun e w' ⟨h1, h2, h3⟩ => ⟨h1, .inr (by simpa [Lib.byteCells, Lib.strCells] using h2), h3⟩
theorem bld_byte {b : Nat} {l : List UInt8} (c : UInt8) {x : Int} {w : World} (hx : x = c.toNat) (h : Bld b l w) (hl : l.length ≤ 1000) :
    Calls Tryd.prog 50 #[.pointer (some ⟨b, 0, none⟩), .int .u8 x] w fun e w' => e = .returned .nilIface ∧ Bld b (l ++ [c]) w' ∧ Below b w w' := by
  subst hx
  exact (Tryd.Builder_WriteByte b b (Lib.byteCells l) _ w h (by rw [Lib.byteCells_length]; omega) (Nat.le_of_lt h.lt)).mono fun e w' ⟨h1, h2, h3⟩ => ⟨h1, .inr (by simpa [Lib.byteCells] using h2), h3⟩
/-- while the text is built: the leg's box, the builder, the rest as it was -/
def St (B b : Nat) (w0 : World) (cs : Array Value) (l : List UInt8) (w : World) : Prop := w.heap[B]? = some (.cells cs 44 (0, 0)) ∧ Bld b l w ∧ Below B w0 w ∧ B < b
theorem St.write {B b : Nat} {w0 w w' : World} {cs : Array Value} {l l' : List UInt8} (h : St B b w0 cs l w) (hl : Bld b l' w') (hb : Below b w w') : St B b w0 cs l' w' :=
  ⟨(hb.block B h.2.2.2).trans h.1, hl, h.2.2.1.trans (hb.mono (Nat.le_of_lt h.2.2.2)), h.2.2.2⟩
theorem St.keep {B b : Nat} {w0 w w' : World} {cs : Array Value} {l : List UInt8} (h : St B b w0 cs l w) (hb : Below w.heap.size w w') : St B b w0 cs l w' :=
  h.write (h.2.1.keep hb) (hb.mono (Nat.le_of_lt h.2.1.lt))
theorem St.cell {B b : Nat} {w0 w : World} {cs : Array Value} {l : List UInt8} (h : St B b w0 cs l w) (i : Nat) {v : Value} (hv : cs[i]? = some v) : w.cell? ⟨B, i, none⟩ = some v := by
  rw [cell_of_row w B _ _ _ _ h.1, hv]
theorem app_le {l m : List UInt8} {a b : Nat} (h1 : l.length ≤ a) (h2 : m.length ≤ b) : (l ++ m).length ≤ a + b := by rw [List.length_append]; omega
theorem bs_le {s : ByteArray} {k : Nat} (h : s.size ≤ k) : s.data.toList.length ≤ k := by rw [Array.length_toList]; exact h
theorem one_le (c : UInt8) : [c].length ≤ 1 := Nat.le_refl 1
theorem leg_bytes (f t p q u : ByteArray) (g : List UInt8) : (⟨(([] : List UInt8) ++ f.data.toList ++ [45] ++ t.data.toList ++ [32] ++ p.data.toList ++ [32] ++ q.data.toList ++ [32] ++ (g ++ 32 :: u.data.toList)).toArray⟩ : ByteArray) = f ++ ⟨#[45]⟩ ++ t ++ ⟨#[32]⟩ ++ p ++ ⟨#[32]⟩ ++ q ++ ⟨#[32]⟩ ++ ⟨g.toArray⟩ ++ ⟨#[32]⟩ ++ u := by
  apply ByteArray.ext
  simp [ByteArray.data_append]
set_option maxRecDepth 100000 in
set_option maxHeartbeats 4000000 in
theorem fleg_impl (f t : ByteArray) (s k d r : Int) (w : World) (hf : f.size ≤ maxLen) (ht : t.size ≤ maxLen) (htab : PowIs w) :
    Calls Tryd.prog 20 #[.agg #[.string f, .string t, .int .i64 s, .int .i64 k, .int .i64 d, .int .i64 r]] w fun e w' => e = .returned (.string (fmtLeg f t s k d r)) ∧ Below w.heap.size w w' := by
  have HTAB := Lib.hid htab; clear htab
  have hb0 := (Below.refl w.heap.size w).alloc (Nat.le_refl _) (.cells #[.string f, .string t, .int .i64 s, .int .i64 k, .int .i64 d, .int .i64 r] 44)
  have hr0 := heap_alloc_new w (.cells #[.string f, .string t, .int .i64 s, .int .i64 k, .int .i64 d, .int .i64 r] 44)
  have H0 := Lib.hid (And.intro hr0 hb0); clear hr0 hb0
  have HI := Lib.hid (fun W => is_leg f t s k d r W hf ht)
  clear hf ht
  cases hl : legB f t s k d r with
  | false =>
    have HR := Lib.hid (show fmtLeg f t s k d r = ⟨#[]⟩ by unfold fmtLeg; rw [hl]; rfl)
    rw [hl] at HI; clear hl
    go_enter Tryd.func20, Tryd.ntmps20
    go_wp2_with fail
    refine (HI.out _).mono ?_; rintro e w1 ⟨rfl, hb1⟩
    go_wp2
    go_ret
    exact ⟨ret_str' HR.out.symm, H0.out.2.trans (hb1.mono (by simp))⟩
  | true =>
    obtain ⟨hf3, ht3, hs, hk, hd, hr⟩ := leg_parts hl
    have HR := Lib.hid (show fmtLeg f t s k d r = f ++ ⟨#[45]⟩ ++ t ++ ⟨#[32]⟩ ++ clk s ++ ⟨#[32]⟩ ++ itoaS k ++ ⟨#[32]⟩ ++ dayS d ++ ⟨#[32]⟩ ++ itoaS r by unfold fmtLeg; rw [hl]; rfl)
    rw [hl] at HI; clear hl
    have HC := Lib.hid (fun W => clock_impl s hs W)
    have HK := Lib.hid (fun W h => fmt_impl k (by omega) W h)
    have HRR := Lib.hid (fun W h => fmt_impl r (by omega) W h)
    have HBT := Lib.hid (fun j (hj : j < 7) => bit01 hd (k := j) hj)
    have hp := clk_size s hs
    have hq := itoaS_size k (by omega)
    have hu := itoaS_size r (by omega)
    have hf4 : f.size ≤ 3 := by omega
    have ht4 : t.size ≤ 3 := by omega
    have hp5 : (clk s).size ≤ 5 := by omega
    clear hf3 ht3 hp hs hk hr
    have HDY := Lib.hid (show (dayS d) = ⟨(dayL d 7).toArray⟩ from rfl)
    generalize clk s = p at *
    generalize itoaS k = q at *
    generalize itoaS r = u at *
    have HPW := Lib.hid (fun W (h : Below w.heap.size w W) => HTAB.out.below h)
    clear HTAB
    generalize hB : w.heap.size = B at *
    have HBE := Lib.hid hB; clear hB
    go_enter Tryd.func20, Tryd.ntmps20
    go_wp2_with fail
    rw [HBE.out]
    generalize w.alloc (.cells #[.string f, .string t, .int .i64 s, .int .i64 k, .int .i64 d, .int .i64 r] 44) = W at *
    refine (HI.out W).mono ?_; rintro e w1 ⟨rfl, hb1⟩
    have hBW : B < W.heap.size := (Array.getElem?_eq_some_iff.1 H0.out.1).1
    have hB1 : B < w1.heap.size := Nat.lt_of_lt_of_le hBW hb1.size
    have hx := (Below.refl w1.heap.size w1).alloc (Nat.le_refl _) (.cells #[.pointer none, .slice none 0 0] 70)
    have S0 := Lib.hid (show St B w1.heap.size w #[.string f, .string t, .int .i64 s, .int .i64 k, .int .i64 d, .int .i64 r] [] (w1.alloc (.cells #[.pointer none, .slice none 0 0] 70)) from
      ⟨(hx.block B hB1).trans ((hb1.block B hBW).trans H0.out.1), Lib.fresh_isBuilder _ _ w1, (H0.out.2.trans (hb1.mono (Nat.le_of_lt hBW))).trans (hx.mono (Nat.le_of_lt hB1)), hB1⟩)
    clear hb1 H0 hx
    have HL0 := Lib.hid (show ([] : List UInt8).length ≤ 0 from Nat.le_refl 0)
    have c0 := S0.out.cell 0 (v := .string f) rfl
    go_wp2_with fail
    clear c0
    generalize w1.heap.size = b at *
    generalize w1.alloc (.cells #[.pointer none, .slice none 0 0] 70) = W0 at *
    refine (bld_str S0.out.2.1 (by have := HL0.out; omega)).mono ?_; rintro e v1 ⟨rfl, hl, hb⟩
    have S1 := Lib.hid (S0.out.write hl hb); clear hl hb S0
    have HL1 := Lib.hid (app_le HL0.out (bs_le hf4)); clear HL0
    go_wp2_with fail
    refine (bld_byte 45 rfl S1.out.2.1 (by have := HL1.out; omega)).mono ?_; rintro e v2 ⟨rfl, hl, hb⟩
    have S2 := Lib.hid (S1.out.write hl hb); clear hl hb S1
    have HL2 := Lib.hid (app_le HL1.out (one_le 45)); clear HL1
    have c0 := S2.out.cell 1 (v := .string t) rfl
    go_wp2_with fail
    clear c0
    refine (bld_str S2.out.2.1 (by have := HL2.out; omega)).mono ?_; rintro e v3 ⟨rfl, hl, hb⟩
    have S3 := Lib.hid (S2.out.write hl hb); clear hl hb S2
    have HL3 := Lib.hid (app_le HL2.out (bs_le ht4)); clear HL2
    go_wp2_with fail
    refine (bld_byte 32 rfl S3.out.2.1 (by have := HL3.out; omega)).mono ?_; rintro e v4 ⟨rfl, hl, hb⟩
    have S4 := Lib.hid (S3.out.write hl hb); clear hl hb S3
    have HL4 := Lib.hid (app_le HL3.out (one_le 32)); clear HL3
    have c0 := S4.out.cell 2 (v := .int .i64 s) rfl
    go_wp2_with fail
    clear c0
    refine (HC.out _).mono ?_; rintro e v5 ⟨rfl, hb⟩
    have S5 := Lib.hid (S4.out.keep hb); clear hb S4
    have HL5 := HL4; clear HL4
    go_wp2_with fail
    refine (bld_str S5.out.2.1 (by have := HL5.out; omega)).mono ?_; rintro e v6 ⟨rfl, hl, hb⟩
    have S6 := Lib.hid (S5.out.write hl hb); clear hl hb S5
    have HL6 := Lib.hid (app_le HL5.out (bs_le hp5)); clear HL5
    go_wp2_with fail
    refine (bld_byte 32 rfl S6.out.2.1 (by have := HL6.out; omega)).mono ?_; rintro e v7 ⟨rfl, hl, hb⟩
    have S7 := Lib.hid (S6.out.write hl hb); clear hl hb S6
    have HL7 := Lib.hid (app_le HL6.out (one_le 32)); clear HL6
    have c0 := S7.out.cell 3 (v := .int .i64 k) rfl
    go_wp2_with fail
    clear c0
    refine (HK.out _ (HPW.out _ S7.out.2.2.1)).mono ?_; rintro e v8 ⟨rfl, hb⟩
    have S8 := Lib.hid (S7.out.keep hb); clear hb S7
    have HL8 := HL7; clear HL7
    go_wp2_with fail
    refine (bld_str S8.out.2.1 (by have := HL8.out; omega)).mono ?_; rintro e v9 ⟨rfl, hl, hb⟩
    have S9 := Lib.hid (S8.out.write hl hb); clear hl hb S8
    have HL9 := Lib.hid (app_le HL8.out (bs_le hq)); clear HL8
    go_wp2_with fail
    refine (bld_byte 32 rfl S9.out.2.1 (by have := HL9.out; omega)).mono ?_; rintro e v10 ⟨rfl, hl, hb⟩
    have S10 := Lib.hid (S9.out.write hl hb); clear hl hb S9
    have HL10 := Lib.hid (app_le HL9.out (one_le 32)); clear HL9
    have SL := Lib.hid (show (([] : List UInt8) ++ f.data.toList ++ [45] ++ t.data.toList ++ [32] ++ p.data.toList ++ [32] ++ q.data.toList ++ [32]).length ≤ 36 by have := HL10.out; omega)
    clear HL10
    generalize hpre : (([] : List UInt8) ++ f.data.toList ++ [45] ++ t.data.toList ++ [32] ++ p.data.toList ++ [32] ++ q.data.toList ++ [32]) = L at *
    have HPRE := Lib.hid hpre; clear hpre
    go_wp2
    go_loopw [26] (fun i wr => ∃ j : Nat, j ≤ 7 ∧ i = .int .i64 j ∧ Hid (St B b w #[.string f, .string t, .int .i64 s, .int .i64 k, .int .i64 d, .int .i64 r] (L ++ dayL d j) wr)) (fun i _ => 7 - (intOf i).toNat)
    case atStart => exact ⟨0, by omega, rfl, Lib.hid (by rw [show dayL d 0 = [] from rfl, List.append_nil]; exact S10.out)⟩
    case round =>
      obtain ⟨j, hj, rfl, HQ⟩ := hrel
      clear S10
      by_cases hlt : (j : Int) < 7
      · have hj7 : j < 7 := by omega
        have hv01 := HBT.out j hj7
        have HDS := Lib.hid (dayL_succ d j)
        have c0 := HQ.out.cell 4 (v := .int .i64 d) rfl
        have hlen : (L ++ dayL d j).length ≤ 1000 := by rw [List.length_append, dayL_len]; have := SL.out; omega
        rcases hv01 with h | h
        · rw [h] at HDS
          go_wp2_with fail
          refine (bld_byte 48 rfl HQ.out.2.1 hlen).mono ?_; rintro e v' ⟨rfl, hl, hb⟩
          have HQ' := Lib.hid (HQ.out.write hl hb); clear hl hb c0 HQ
          go_wp2
          go_roundw
          case rel => exact ⟨j + 1, by omega, by go_num, Lib.hid (by rw [HDS.out, ← List.append_assoc]; exact HQ'.out)⟩
          case measure => simp [intOf]; omega
        · rw [h] at HDS
          go_wp2_with fail
          refine (bld_byte 49 rfl HQ.out.2.1 hlen).mono ?_; rintro e v' ⟨rfl, hl, hb⟩
          have HQ' := Lib.hid (HQ.out.write hl hb); clear hl hb c0 HQ
          go_wp2
          go_roundw
          case rel => exact ⟨j + 1, by omega, by go_num, Lib.hid (by rw [HDS.out, ← List.append_assoc]; exact HQ'.out)⟩
          case measure => simp [intOf]; omega
      · obtain rfl : j = 7 := by omega
        have hdl := dayL_len d 7
        have HDL := Lib.hid hdl; clear hdl
        have hLl := SL.out
        go_wp2_with fail
        refine (bld_byte 32 rfl HQ.out.2.1 (by rw [List.length_append, HDL.out]; omega)).mono ?_; rintro e x1 ⟨rfl, hl, hb⟩
        have X1 := Lib.hid (HQ.out.write hl hb); clear hl hb HQ
        have c0 := X1.out.cell 5 (v := .int .i64 r) rfl
        go_wp2_with fail
        clear c0
        refine (HRR.out _ (HPW.out _ X1.out.2.2.1)).mono ?_; rintro e x2 ⟨rfl, hb⟩
        have X2 := Lib.hid (X1.out.keep hb); clear hb X1
        go_wp2_with fail
        refine (bld_str X2.out.2.1 (by rw [List.length_append, List.length_append, HDL.out]; show L.length + 7 + 1 + u.size ≤ 1000; omega)).mono ?_; rintro e x3 ⟨rfl, hl, hb⟩
        have X3 := Lib.hid (X2.out.write hl hb); clear hl hb X2
        go_wp2_with fail
        refine (Tryd.Builder_String_any b b _ x3 X3.out.2.1 (Nat.le_of_lt X3.out.2.1.lt)).mono ?_; rintro e x4 ⟨rfl, hb⟩
        have HB4 := Lib.hid (X3.out.2.2.1.trans (hb.mono (Nat.le_of_lt X3.out.2.2.2))); clear hb X3
        go_wp2
        go_ret
        exact ⟨ret_str' (by rw [HR.out, HDY.out, ← HPRE.out]; exact leg_bytes f t p q u (dayL d 7)), by first | exact HB4.out | (rw [HBE.out]; exact HB4.out)⟩
end Go.Proofs.YtichnpjpldkceaaDoor

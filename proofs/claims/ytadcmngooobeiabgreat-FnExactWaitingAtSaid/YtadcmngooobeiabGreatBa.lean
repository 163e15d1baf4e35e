/- Several texts in one: Law Math Bytes SortM Place Open Only Ints Sz OwnK Trod Bl Strs Far. -/
import Derived.Test.YtadcmngooobeiabGreatProg
import Derived.WalkKit
import Derived.ProofKit
import Derived.OpenShut
import Derived.Carry
import Derived.Deep.Draws
import Derived.IntWalk
import Derived.Lib.Hide
import Derived.WalkSpells
import Derived.WalkLawsBesides
import Derived.ChangeMaps5
import Derived.Lib.SmallJoins
import Derived.Deep.QuietTactic
import Derived.BigQuiet
import Derived.Laws.OwnMore
import Derived.Deep.AppendLies
import Derived.Laws.MakeOwn
import Derived.Lib.SliceRun
import Derived.Laws.Rows
import Derived.Deep.Slices
import Derived.Deep.Fields
import Derived.ChangeSame
/- The last step of every law's row: the call answered true, and below the heap's old size nothing has turned. -/
namespace Go.Proofs.YtadcmngooobeiabGreat
open Go.ChangeShapes Go.WideShapes Go.ChangeAt Go.RowKit

theorem below_trodAll {H : Type} {enc : TypeId × Value → H} {P : Program} (hl : laidOutB P = true) {W W' : World} (hb : Below W.heap.size W W') :
    ∀ {ts : List TypeId} {vs : List Value} {ds : List (DataW H)} {ps : List MemPlace}, (ts.all fun t => P.readableRec t && decide (t < P.types.size)) = true → (∀ x ∈ ps, x.block < W.heap.size) →
      DataW.TrodAll enc P W 0 (fun _ => true) true ts vs ds ps → DataW.TrodAll enc P W' 0 (fun b => decide (b < W.heap.size)) true ts vs ds ps
  | [], [], [], _, _, _, h => h
  | t :: ts, v :: vs, d :: ds, ps, ht, hlt, h => by
    obtain ⟨p, q, h1, h2, rfl⟩ := h
    simp only [List.all_cons, Bool.and_eq_true, decide_eq_true_eq] at ht
    exact ⟨p, q, Below.trod hl ht.1.1 ht.1.2 h1 hb (fun x hx => hlt x (by simp [hx])), below_trodAll hl hb ht.2 (fun x hx => hlt x (by simp [hx])) h2, rfl⟩

theorem law_post {H : Type} {enc : TypeId × Value → H} {P : Program} {f : Func} {s : ChangeSpec} {W W' : World} {args : Array Value} {ds gs : List (DataW H)} {before : List MemPlace} {tb : TypeId}
    (hl : laidOutB P = true) (hp : (f.params.toList.all fun t => P.readableRec t && decide (t < P.types.size)) = true) (hr : f.resultTypes = #[tb]) (hb4 : P.underlying tb = some .bool)
    (hv : s.vars = []) (hs : (s.fn H ds).results = [.lit (.bool true)] ∧ (s.fn H ds).args = ds ∧ (s.fn H ds).vars = [])
    (hW : DataW.Whole enc P f.params.toList s.vars false W args.toList ds gs before) (hb : Below W.heap.size W W') :
    s.post enc P f false true false false W args (.bool true) W' := by
  have hlt : ∀ p ∈ before, p.block < W.heap.size := fun p hp => hW.lt p hp
  have hW0 := hW
  obtain ⟨p, q, hA, hV, rfl, hz, hn⟩ := hW0
  rw [hv] at hV
  obtain ⟨rfl, rfl⟩ := trodVars_none hV
  refine ⟨ds, [], p ++ [], [], p, [], hW, ?_, ?_, ?_, ?_, fun h => by cases h⟩
  · rw [List.append_nil, hs.1, hr]
    exact trodAll_mk1 (shut_bool hb4 true)
  · rw [List.append_nil, hs.2.1]
    exact below_trodAll hl hb hp (fun x hx => hlt x (by simp [hx])) hA
  · rw [List.append_nil, hv, hs.2.2]
    exact rfl
  · exact World.keptBut_mono (fun p hp => ⟨hp, Or.inr (Or.inl (by simpa using hp))⟩) (hb.frame (· ∈ p ++ []))

theorem below_drewN {B : Nat} {a w : World} (h : Below B a w) (n : Nat) : Below B a (w.drewN n) := ⟨h.os, h.tape, h.output, h.size, h.block⟩
theorem below_undrew {B : Nat} {w w' : World} (h : Below B w.drew w') : Below B w w' := ⟨h.os, h.tape, h.output, h.size, h.block⟩
/-- what stood below B reads as it did, in the walk's own spelling -/
theorem old_cells {B : Nat} {W w1 : World} (hb : Below B W w1) : (∀ b o, b < B → w1.cell? ⟨b, o, none⟩ = W.cell? ⟨b, o, none⟩) ∧ (∀ b o, b < B → w1.frozen? ⟨b, o, none⟩ = W.frozen? ⟨b, o, none⟩) :=
  ⟨fun b o h => hb.cell (p := ⟨b, o, none⟩) h, fun b o h => hb.frozen (p := ⟨b, o, none⟩) h⟩

theorem Tryz.own : ownKnob Tryz.prog.godebug = none := by kernel_rfl
theorem Tryz.laidOut : laidOutB Tryz.prog = true := by kernel_rfl
end Go.Proofs.YtadcmngooobeiabGreat

/- The plain mathematics of labels: digits, the remainder by 97. No program. -/
namespace Go.Proofs.YtadcmngooobeiabGreat
open Go.RowKit

def inB (x a b : Int) : Bool := decide (a ≤ x ∧ x ≤ b)
theorem inB_iff {x a b : Int} : inB x a b = true ↔ a ≤ x ∧ x ≤ b := by simp [inB]
theorem inB_not {x a b : Int} : inB x a b = false ↔ ¬ (a ≤ x ∧ x ≤ b) := by simp only [inB, decide_eq_false_iff_not]
def capB (c : UInt8) : Bool := inB c.toNat 65 90
def digB (c : UInt8) : Bool := inB c.toNat 48 57
def plcB (l : List UInt8) : Bool := l.length == 3 && l.all capB

theorem take_snoc (s : ByteArray) (k : Nat) (h : k < s.size) : s.data.toList.take (k + 1) = s.data.toList.take k ++ [s[k]] := by
  rw [List.take_succ_eq_append_getElem (by simpa using h)]; rfl
theorem mem_get (s : ByteArray) (k : Nat) (h : k < s.size) : s[k] ∈ s.data.toList := by
  have : s[k] = s.data.toList[k]'(by simpa using h) := rfl
  rw [this]; exact List.getElem_mem _
theorem take_all (s : ByteArray) (k : Nat) (h : s.size ≤ k) : s.data.toList.take k = s.data.toList := List.take_of_length_le (by simpa using h)
theorem all_no (s : ByteArray) (k : Nat) (h : k < s.size) (f : UInt8 → Bool) (hc : f s[k] = false) : s.data.toList.all f = false := by
  rw [List.all_eq_false]; exact ⟨_, mem_get s k h, by simp [hc]⟩
theorem w64b (c : UInt8) : wrap64 (c.toNat : Int) = c.toNat := IntWalk.wrap64_in _ (by have := c.toNat_lt; omega)
theorem plc_no (s : ByteArray) (k : Nat) (h : k < s.size) (hc : capB s[k] = false) : plcB s.data.toList = false := by
  unfold plcB
  simp [all_no s k h capB hc]
theorem ret_bool {a b : Bool} (h : a = b) : Ending.returned (.bool a) = .returned (.bool b) := by rw [h]
theorem ret_int {k : IntKind} {a b : Int} (h : a = b) : Ending.returned (.int k a) = .returned (.int k b) := by rw [h]
theorem val_int {k : IntKind} {a b : Int} (h : a = b) : Value.int k a = .int k b := by rw [h]

def m97 (l : List UInt8) : Int := l.foldl (fun r c => (10 * r + ((c.toNat : Int) - 48)) % 97) 0
theorem m97_snoc (l : List UInt8) (c : UInt8) : m97 (l ++ [c]) = (10 * m97 l + ((c.toNat : Int) - 48)) % 97 := by
  unfold m97; rw [List.foldl_append]; rfl
theorem m97_bd (l : List UInt8) : 0 ≤ m97 l ∧ m97 l < 97 := by
  rcases List.eq_nil_or_concat l with rfl | ⟨l', c, rfl⟩
  · exact ⟨by decide, by decide⟩
  · rw [List.concat_eq_append, m97_snoc]; omega
def mod97 (l : List UInt8) : Int := if l.isEmpty then -1 else if l.all digB then m97 l else -1
theorem mod97_nil : mod97 [] = -1 := rfl
theorem mod97_no (s : ByteArray) (k : Nat) (h : k < s.size) (hc : digB s[k] = false) : mod97 s.data.toList = -1 := by
  unfold mod97; rw [all_no s k h digB hc]; split <;> rfl
theorem mod97_yes (l : List UInt8) (h : l.isEmpty = false) (ha : l.all digB = true) : mod97 l = m97 l := by
  unfold mod97; rw [h, ha]; rfl
end Go.Proofs.YtadcmngooobeiabGreat

/- Contracts of l1In, isCapital, isDigit. -/
namespace Go.Proofs.YtadcmngooobeiabGreat
open Go.RowKit
set_option maxHeartbeats 400000 in
theorem in_any (x a b : Int) (w : World) :
    Calls Tryz.prog 49 #[.int .i64 x, .int .i64 a, .int .i64 b] w fun e w' => e = .returned (.bool (inB x a b)) ∧ w = w' := by
  by_cases h1 : a ≤ x <;> by_cases h2 : x ≤ b
  all_goals
    go_enter Tryz.func49, Tryz.ntmps49
    go_wp2
    go_ret
    exact ⟨ret_bool (by simp [inB]; omega), rfl⟩
set_option maxHeartbeats 400000 in
theorem capital_any (x : Int) (w : World) :
    Calls Tryz.prog 137 #[.int .u8 x] w fun e w' => e = .returned (.bool (inB x 65 90)) ∧ w = w' := by
  by_cases h1 : 65 ≤ x <;> by_cases h2 : x ≤ 90
  all_goals
    go_enter Tryz.func137, Tryz.ntmps137
    go_wp2
    go_ret
    exact ⟨ret_bool (by simp [inB]; omega), rfl⟩
end Go.Proofs.YtadcmngooobeiabGreat

/- The plain mathematics of sorted sides. No program. -/
namespace Go.Proofs.YtadcmngooobeiabGreat
open Go.RowKit

def geB (x y : Int) : Bool := decide (y ≤ x)
def sortD (l : List Int) : List Int := l.mergeSort geB
theorem geB_iff {x y : Int} : geB x y = true ↔ y ≤ x := by simp [geB]
theorem sortD_perm (l : List Int) : (sortD l).Perm l := List.mergeSort_perm _ _
theorem sortD_len (l : List Int) : (sortD l).length = l.length := (sortD_perm l).length_eq
theorem sortD_mem {l : List Int} {x : Int} : x ∈ sortD l ↔ x ∈ l := (sortD_perm l).mem_iff
theorem sortD_down (l : List Int) : (sortD l).Pairwise fun x y => geB x y = true :=
  List.pairwise_mergeSort (fun a b c h1 h2 => by rw [geB_iff] at *; omega) (fun a b => by simp only [Bool.or_eq_true, geB_iff]; omega) l
theorem sortD_uniq {l m : List Int} (h : m.Pairwise fun x y => geB x y = true) (hp : m.Perm l) : m = sortD l :=
  List.Perm.eq_of_pairwise (le := fun x y => geB x y = true) (fun a b _ _ h1 h2 => by rw [geB_iff] at h1 h2; omega) h (sortD_down l) (hp.trans (sortD_perm l).symm)
theorem sortD_nil : sortD [] = [] := by simp [sortD]
theorem sortD_ins (l : List Int) (x : Int) (k : Nat) (h1 : ∀ j (_ : j < k) (hj : j < (sortD l).length), x ≤ (sortD l)[j]) (h2 : ∀ h : k < (sortD l).length, (sortD l)[k] < x) :
    (sortD l).take k ++ x :: (sortD l).drop k = sortD (l ++ [x]) := by
  have hs := sortD_down l
  have hp := sortD_perm l
  generalize sortD l = m at *
  refine sortD_uniq ?_ ?_
  · rw [List.pairwise_append]
    rw [List.pairwise_iff_getElem] at hs
    refine ⟨?_, ?_, ?_⟩
    · rw [List.pairwise_iff_getElem]
      intro i j hi hj hij
      simp only [List.getElem_take]
      exact hs i j _ _ hij
    · rw [List.pairwise_cons]
      refine ⟨?_, ?_⟩
      · intro y hy
        obtain ⟨i, hi, rfl⟩ := List.getElem_of_mem hy
        simp only [List.getElem_drop, geB_iff]
        simp only [List.length_drop] at hi
        have hk : k < m.length := by omega
        have := h2 hk
        by_cases h0 : i = 0
        · subst h0; simp; omega
        · have := hs k (k + i) hk (by omega) (by omega)
          rw [geB_iff] at this; omega
      · rw [List.pairwise_iff_getElem]
        intro i j hi hj hij
        simp only [List.getElem_drop]
        exact hs _ _ _ _ (by omega)
    · intro a ha b hb
      obtain ⟨i, hi, rfl⟩ := List.getElem_of_mem ha
      simp only [List.length_take] at hi
      simp only [List.getElem_take, geB_iff]
      have hx := h1 i (by omega) (by omega)
      rcases List.mem_cons.1 hb with rfl | hb
      · exact hx
      · obtain ⟨j, hj, rfl⟩ := List.getElem_of_mem hb
        simp only [List.length_drop] at hj
        simp only [List.getElem_drop]
        have := hs i (k + j) (by omega) (by omega) (by omega)
        rw [geB_iff] at this; omega
  · have e : (m.take k ++ x :: m.drop k).Perm (x :: m) := by
      have := List.perm_middle (a := x) (l₁ := m.take k) (l₂ := m.drop k)
      rwa [List.take_append_drop] at this
    exact e.trans ((hp.cons x).trans (by simpa using (List.perm_append_comm (l₁ := [x]) (l₂ := l))))
theorem sortD_merge (l : List Int) (f : Int → Int → Bool) (h : f = fun x y => decide (y ≤ x)) : l.mergeSort f = sortD l := by rw [h]; rfl
theorem sortD_snoc (zs : List Int) (i : Nat) (hi : i < zs.length) : sortD (zs.take i ++ [zs[i]]) = sortD (zs.take (i + 1)) := by
  rw [List.take_succ_eq_append_getElem hi]

/-! ### Three sides -/
def sideB (x : Int) : Bool := inB x 1 2000
def thrB (l : List Int) : Bool := l.length == 3 && l.all sideB
theorem thrB_no {l : List Int} (k : Nat) (h : k < l.length) (hc : sideB l[k] = false) : thrB l = false := by
  unfold thrB
  have : l.all sideB = false := by rw [List.all_eq_false]; exact ⟨_, List.getElem_mem h, by simp [hc]⟩
  simp [this]
theorem thrB_len {l : List Int} (h : l.length ≠ 3) : thrB l = false := by
  unfold thrB; simp [h]
theorem thrB_three {l : List Int} (h : thrB l = true) : ∃ a b c : Int, l = [a, b, c] ∧ (1 ≤ a ∧ a ≤ 2000) ∧ (1 ≤ b ∧ b ≤ 2000) ∧ (1 ≤ c ∧ c ≤ 2000) := by
  unfold thrB at h
  simp only [Bool.and_eq_true, beq_iff_eq] at h
  obtain ⟨h1, h2⟩ := h
  match l, h1 with
  | [a, b, c], _ =>
    simp only [List.all_cons, List.all_nil, Bool.and_true, Bool.and_eq_true, sideB, inB_iff] at h2
    exact ⟨a, b, c, rfl, h2.1, h2.2.1, h2.2.2⟩
theorem thrB_sorted {l : List Int} (h : thrB l = true) : ∃ a b c : Int, sortD l = [a, b, c] ∧ (1 ≤ a ∧ a ≤ 2000) ∧ (1 ≤ b ∧ b ≤ 2000) ∧ (1 ≤ c ∧ c ≤ 2000) := by
  refine thrB_three ?_
  unfold thrB at h ⊢
  simp only [Bool.and_eq_true, beq_iff_eq] at h ⊢
  refine ⟨by rw [sortD_len]; exact h.1, ?_⟩
  rw [List.all_eq_true] at *
  exact fun x hx => h.2 x (sortD_mem.1 hx)
def girL (l : List Int) : Int := l.getD 0 0 + 2 * l.getD 1 0 + 2 * l.getD 2 0
def girth (l : List Int) : Int := if thrB l then girL (sortD l) else 0
def volL (l : List Int) : Int := l.getD 0 0 * l.getD 1 0 * l.getD 2 0
def vol (l : List Int) : Int := if thrB l then volL l else 0
def leL (a b : List Int) : Bool := decide (a.getD 0 0 ≤ b.getD 0 0) && (decide (a.getD 1 0 ≤ b.getD 1 0) && decide (a.getD 2 0 ≤ b.getD 2 0))
def fitB (a b : List Int) : Bool := thrB a && (thrB b && leL (sortD a) (sortD b))
theorem vol_bd {l : List Int} : 0 ≤ vol l ∧ vol l ≤ 8000000000 := by
  unfold vol
  split
  · next h =>
    obtain ⟨a, b, c, rfl, ha, hb, hc⟩ := thrB_three h
    show 0 ≤ a * b * c ∧ a * b * c ≤ 8000000000
    have h1 : 0 ≤ a * b := Int.mul_nonneg (by omega) (by omega)
    have h2 : a * b ≤ 2000 * 2000 := Int.mul_le_mul (by omega) (by omega) (by omega) (by omega)
    have h3 : 0 ≤ a * b * c := Int.mul_nonneg h1 (by omega)
    have h4 : a * b * c ≤ 2000 * 2000 * 2000 := Int.mul_le_mul h2 (by omega) (by omega) (by omega)
    omega
  · omega
theorem girth_bd {l : List Int} : 0 ≤ girth l ∧ girth l ≤ 10000 := by
  unfold girth
  split
  · next h =>
    obtain ⟨a, b, c, e, ha, hb, hc⟩ := thrB_sorted h
    rw [e]
    show 0 ≤ a + 2 * b + 2 * c ∧ a + 2 * b + 2 * c ≤ 10000
    omega
  · omega
end Go.Proofs.YtadcmngooobeiabGreat

/- Contracts of the two texts of IsPlace, and of l1In and isCapital. -/
namespace Go.Proofs.YtadcmngooobeiabGreat
open Go.RowKit

set_option maxHeartbeats 400000 in
theorem place_spec (s : ByteArray) (w : World) (hs : s.size ≤ maxLen) :
    Calls Tryz.prog 127 #[.string s] w fun e w' => e = .returned (.bool (plcB s.data.toList)) ∧ w = w' := by
  unfold maxLen at hs
  by_cases h3 : s.size = 3
  · have h3b : (((s.size : Nat) : Int) != 3) = false := by simp [h3]
    have hlen : s.data.toList.length = 3 := by simpa using h3
    have HL := Lib.hid hlen; clear hlen
    have H3 := Lib.hid h3
    have hlo : 3 ≤ s.size := by omega
    have hhi : s.size ≤ 3 := by omega
    clear h3
    go_enter Tryz.func127, Tryz.ntmps127
    go_wp2
    go_loop [3] (fun i => ∃ k : Nat, k ≤ 3 ∧ i = .int .i64 k ∧ (s.data.toList.take k).all capB = true) (fun i => 3 - (intOf i).toNat)
    case atStart => exact ⟨0, Nat.zero_le _, rfl, rfl⟩
    case round =>
      obtain ⟨k, hk, rfl, hall⟩ := hrel
      have HA := Lib.hid hall; clear hall
      by_cases hlt : k < 3
      · have hks : k < s.size := by omega
        go_wp2_with (go_at_call 49; refine (in_any _ _ _ _).mono ?_; rintro e w' ⟨rfl, rfl⟩)
        · have hn : (!inB (wrap64 (s[k].toNat : Int)) 65 90) = true := by assumption
          rw [w64b] at hn
          go_ret
          exact ⟨ret_bool (Eq.symm (plc_no s k hks (by simpa [capB] using hn))), rfl⟩
        · have hn : (!inB (wrap64 (s[k].toNat : Int)) 65 90) = false := by assumption
          rw [w64b] at hn
          go_round
          case rel => exact ⟨k + 1, by omega, by go_num, by rw [take_snoc s k hks, List.all_append, HA.out]; simpa [capB] using hn⟩
          case measure => simp [intOf]; omega
      · go_wp2
        go_ret
        exact ⟨ret_bool (by
          have h : s.data.toList.take k = s.data.toList := List.take_of_length_le (by rw [HL.out]; omega)
          have := HA.out; rw [h] at this
          simp only [plcB, HL.out, this]; rfl), rfl⟩
  · have h3b : (((s.size : Nat) : Int) != 3) = true := by simp; omega
    go_enter Tryz.func127, Tryz.ntmps127
    go_wp2
    go_ret
    exact ⟨ret_bool (by simp [plcB]; intro h; omega), rfl⟩
set_option maxHeartbeats 400000 in
theorem place_impl (s : ByteArray) (w : World) (hs : s.size ≤ maxLen) :
    Calls Tryz.prog 128 #[.string s] w fun e w' => e = .returned (.bool (plcB s.data.toList)) ∧ w = w' := by
  unfold maxLen at hs
  by_cases h3 : s.size = 3
  · have h3b : (((s.size : Nat) : Int) != 3) = false := by simp [h3]
    have hlen : s.data.toList.length = 3 := by simpa using h3
    have HL := Lib.hid hlen; clear hlen
    have H3 := Lib.hid h3
    have hlo : 3 ≤ s.size := by omega
    have hhi : s.size ≤ 3 := by omega
    clear h3
    go_enter Tryz.func128, Tryz.ntmps128
    go_wp2
    go_loop [9] (fun i => ∃ k : Nat, k ≤ s.size ∧ i = .int .i64 k ∧ (s.data.toList.take k).all capB = true) (fun i => s.size - (intOf i).toNat)
    case atStart => exact ⟨0, Nat.zero_le _, rfl, rfl⟩
    case round =>
      obtain ⟨k, hk, rfl, hall⟩ := hrel
      have HA := Lib.hid hall; clear hall
      by_cases hks : k < s.size
      · go_wp2_with (go_at_call 137; refine (capital_any _ _).mono ?_; rintro e w' ⟨rfl, rfl⟩)
        · have hn : (!inB (s[k].toNat : Int) 65 90) = true := by assumption
          go_ret
          exact ⟨ret_bool (Eq.symm (plc_no s k hks (by simpa [capB] using hn))), rfl⟩
        · have hn : (!inB (s[k].toNat : Int) 65 90) = false := by assumption
          go_round
          case rel => exact ⟨k + 1, by omega, by go_num, by rw [take_snoc s k hks, List.all_append, HA.out]; simpa [capB] using hn⟩
          case measure => simp [intOf]; omega
      · go_wp2
        go_ret
        exact ⟨ret_bool (by
          have h : s.data.toList.take k = s.data.toList := List.take_of_length_le (by rw [HL.out]; omega)
          have := HA.out; rw [h] at this
          simp only [plcB, HL.out, this]; rfl), rfl⟩
  · have h3b : (((s.size : Nat) : Int) != 3) = true := by simp; omega
    go_enter Tryz.func128, Tryz.ntmps128
    go_wp2
    go_ret
    exact ⟨ret_bool (by simp [plcB]; intro h; omega), rfl⟩
end Go.Proofs.YtadcmngooobeiabGreat

/- Arguments opened: strings, ints, labels, byte slices. -/
namespace Go.Proofs.YtadcmngooobeiabGreat
open Go.ChangeShapes Go.WideShapes Go.ChangeAt Go.RowKit
open Go.ChangeMaps (open_string shut_string)
open Go.Deep

theorem int_bd {n : Int} (h : (Lit.int .i64 n).wf = true) : -9223372036854775808 ≤ n ∧ n ≤ 9223372036854775807 := by
  have a1 : IntKind.i64.min = -9223372036854775808 := rfl
  have a2 : IntKind.i64.max = 9223372036854775807 := rfl
  simp only [Lit.wf, Bool.and_eq_true, decide_eq_true_eq] at h
  omega

/-- a label by value: an int, an int, a string -/
theorem open_label {H : Type} {enc : TypeId × Value → H} {P : Program} {w : World} {base b0 : Nat} {spare : Nat → Bool} {held : Bool} {r : Reach} {t ti ts : TypeId} {f0 f1 f2 : Field} {v : Value} {d : DataW H} {p : List MemPlace}
    (hs : P.underlying t = some (.struct #[f0, f1, f2])) (hone : oneCellFields P #[f0, f1, f2] = true) (hC : P.cellsOf t = 3) (h0 : f0.type = ti) (h1 : f1.type = ti) (h2 : f2.type = ts)
    (hti : P.underlying ti = some (.int .i64)) (hts : P.underlying ts = some .string) (hv : Value.okWide P w r b0 t v) (h : DataW.Trod enc P w base spare held t v d p) :
    ∃ (a b : Int) (s : ByteArray), v = .agg #[.int .i64 a, .int .i64 b, .string s] ∧ (Lit.int .i64 a).wf = true ∧ (Lit.int .i64 b).wf = true ∧ s.size ≤ maxLen := by
  obtain ⟨v0, v1, v2, y0, y1, y2, n, rfl, rfl, rfl, g0, g1, g2⟩ := Joins.open_agg3 hs hone hC hv h
  rw [h0] at g0; rw [h1] at g1; rw [h2] at g2
  obtain ⟨a, ha, _, wa⟩ := DataW.trod_int hti g0
  obtain ⟨b, hb, _, wb⟩ := DataW.trod_int hti g1
  obtain ⟨s, hs', _, ws⟩ := DataW.trod_string hts g2
  simp only [List.cons.injEq, and_true] at ha hb hs'
  exact ⟨a, b, s, by rw [ha, hb, hs'], wa, wb, ws⟩
end Go.Proofs.YtadcmngooobeiabGreat

/- What turns no block but one. -/
namespace Go.Proofs.YtadcmngooobeiabGreat
open Go.RowKit
theorem addr_block (a : Addr) (n : Nat) : (a.add n).block = a.block := by unfold Addr.add; split <;> rfl
theorem only_refl (w : World) (r : Option Nat) : w.grownBy w r := World.grownBy.refl w r
theorem only_trans {a b c : World} {g : Nat} (h : a.grownBy b (some g)) (k : b.grownBy c (some g)) : a.grownBy c (some g) :=
  ⟨k.os.trans h.os, k.tape.trans h.tape, k.output.trans h.output, Nat.le_trans h.size k.size, fun i hi hn => (k.block i (Nat.lt_of_lt_of_le hi h.size) hn).trans (h.block i hi hn)⟩
theorem only_set (w : World) (g o : Nat) (v : Value) : w.grownBy (w.setCell ⟨g, o, none⟩ v) (some g) :=
  ⟨rfl, rfl, rfl, by simp [World.setCell], fun i _ hn => Below.heap_setCell w ⟨g, o, none⟩ v i (fun e => hn (by rw [e]))⟩
theorem only_drewN {a w : World} {r : Option Nat} (h : a.grownBy w r) (n : Nat) : a.grownBy (w.drewN n) r := ⟨h.os, h.tape, h.output, h.size, h.block⟩
theorem only_of_below {a w : World} (h : Below a.heap.size a w) (g : Nat) : a.grownBy w (some g) := ⟨h.os, h.tape, h.output, h.size, fun i hi _ => h.block i hi⟩
theorem only_below {a w : World} {g B : Nat} (h : a.grownBy w (some g)) (hB : B ≤ a.heap.size) (hg : B ≤ g) : Below B a w := ⟨h.os, h.tape, h.output, h.size, fun i hi => h.block i (by omega) (fun e => by injection e with e; omega)⟩
theorem heap_set {w : World} {g : Nat} {cs : Array Value} {T : TypeId} (h : w.heap[g]? = some (.cells cs T (0, 0))) (o : Nat) (v : Value) :
    (w.setCell ⟨g, o, none⟩ v).heap[g]? = some (.cells (cs.setIfInBounds o v) T (0, 0)) := heap_setCell_same w g o cs T v h
theorem only_cells {u u' : World} {g : Nat} (h : u.grownBy u' (some g)) : (∀ b o, b < u.heap.size → ¬ b = g → u'.cell? ⟨b, o, none⟩ = u.cell? ⟨b, o, none⟩) ∧ (∀ b o, b < u.heap.size → ¬ b = g → u'.frozen? ⟨b, o, none⟩ = u.frozen? ⟨b, o, none⟩) :=
  ⟨fun b o hb hn => World.cell?_of_block (w := u) (h.block b hb (fun e => by injection e with e; exact hn e)), fun b o hb hn => World.frozen?_of_block (w := u) (h.block b hb (fun e => by injection e with e; exact hn e))⟩
theorem only_alloc {a w : World} {g : Nat} (h : a.grownBy w (some g)) (o : Obj) : a.grownBy (w.alloc o) (some g) :=
  only_trans h (only_of_below ((Below.refl _ _).alloc (Nat.le_refl _) o) g)
theorem only_new {a w : World} {g : Nat} (h : a.grownBy w (some g)) {p : Addr} (hp : a.heap.size ≤ p.block) (v : Value) : a.grownBy (w.setCell p v) (some g) :=
  ⟨h.os, h.tape, h.output, by simpa [World.setCell] using h.size, fun i hi hn => (Below.heap_setCell w p v i (by omega)).trans (h.block i hi hn)⟩
/-- append onto a slice of the call's own, at a step of a region that draws its order; nothing may be appended too -/
theorem step_append_own_at {P : Program} (w : World) {ops : Array Oper} {o : Oper} {a : Act} {K : Act → World → Prop} {Q : Exit → Act → World → Prop} {E : Prop} (hgd : o.guard = none) (s x : Operand) (t : TypeId)
    (ho : o.op = .call { callee := .builtin .append, args := #[s, x], argTypes := #[t, t] })
    (base : Nat) (e : TypeId) (i : TypeInfo) (z : Value) (size bytes : Nat) (ht : P.underlying t = some (.slice e)) (hi : P.info? e = some i) (hz : i.zero = some z)
    (hsize : i.size = size) (hby : i.bytes = bytes) (hzs : z.cells.size = size) (hsz : 0 < size)
    (v : Value) (n : Nat) (xs : List Value) (hs : a.eval s = v) (hown : w.ownsRow base e size v n xs)
    (ad : Addr) (m c : Nat) (news : List Value) (hx : a.eval x = .slice (some ad) m c) (hl : news.length = m * size) (hnews : ∀ j u, news[j]? = some u → w.cell? (ad.add j) = some u) (h1 : ∀ u ∈ news, u.oneCell' = true)
    (h63 : n + m ≤ maxLen) (hbytes : (n + m) * bytes ≤ 140737488355328) (hbase : base ≤ w.heap.size)
    (h : ∀ v' w', w'.ownsRow base e size v' (n + m) (xs ++ news) → w.grownBy w' v.ownBlock → (v' = .slice none 0 0 ↔ v = .slice none 0 0 ∧ m = 0) → (v'.ownBlock = v.ownBlock ∨ v'.ownBlock = some w.heap.size) → K (a.put o.dst v') w') :
    if Region.wanted o (yielded ops a.tmps) = true then Oper.wp P o a w K Q else E := by
  have hw : Region.wanted o (yielded ops a.tmps) = true := by simp [Region.wanted, hgd]
  rw [if_pos hw]
  obtain ⟨v', w', hr, h2, h3, h4, h5⟩ := run_append_own_at (P := P) w base t o.type e i z size bytes ht hi hz hsize hby hzs hsz v n xs hown ad m c news hl hnews h1 h63 hbytes hbase
  unfold Oper.wp execOp
  simp only [ho, resolve, invoke, builtin, Sem.run_bind, Sem.run_pure, Result.andThen_ok, List.map_toArray, List.map_cons, List.map_nil, hs, hx, hr]
  exact h v' w' h2 h3 h4 h5
end Go.Proofs.YtadcmngooobeiabGreat

/- Slices of ints: what the exact laws make, compare and mark. -/
namespace Go.Proofs.YtadcmngooobeiabGreat
open Go.RowKit
theorem int_info : (Tryz.prog.info? 3).map (fun i => (i.zero, i.size, i.bytes)) = some (some (.int .i64 0), 1, 8) := by kernel_rfl
def intV (l : List Int) : List Value := l.map (Value.int .i64)
theorem intV_app (a b : List Int) : intV (a ++ b) = intV a ++ intV b := by simp [intV]
theorem intV_len (a : List Int) : (intV a).length = a.length := by simp [intV]
/-- ints that can be read -/
def IntsRaw (w : World) (A : Option Addr) (zs : List Int) : Prop :=
  ∀ j (hj : j < zs.length), ∃ ad, A = some ad ∧ ad.block < w.heap.size ∧ w.cell? (ad.add j) = some (.int .i64 zs[j])
theorem IntsRaw.below {w w' : World} {A : Option Addr} {zs : List Int} (h : IntsRaw w A zs) (hb : Below w.heap.size w w') : IntsRaw w' A zs := by
  intro j hj
  obtain ⟨ad, h1, h2, h3⟩ := h j hj
  refine ⟨ad, h1, Nat.lt_of_lt_of_le h2 hb.size, ?_⟩
  rw [← h3]
  exact hb.cell (by rw [addr_block]; exact h2)
/-- ints that can be read, from the head of a block on -/
def IntsIn (w : World) (A : Option Addr) (zs : List Int) : Prop :=
  ∀ j (hj : j < zs.length), ∃ g, A = some ⟨g, 0, none⟩ ∧ g < w.heap.size ∧ w.cell? ⟨g, j, none⟩ = some (.int .i64 zs[j])
theorem IntsIn.below {w w' : World} {A : Option Addr} {zs : List Int} (h : IntsIn w A zs) (hb : Below w.heap.size w w') : IntsIn w' A zs := by
  intro j hj
  obtain ⟨g, h1, h2, h3⟩ := h j hj
  refine ⟨g, h1, Nat.lt_of_lt_of_le h2 hb.size, ?_⟩
  rw [← h3]
  exact hb.cell h2
theorem IntsIn.drew {w : World} {A : Option Addr} {zs : List Int} (h : IntsIn w A zs) (n : Nat) : IntsIn (w.drewN n) A zs :=
  h.below (below_drewN (Below.refl _ _) n)
/-- a slice of the call's own that holds these ints -/
def OwnI (w : World) (base : Nat) (v : Value) (l : List Int) : Prop := w.ownsRow base 3 1 v l.length (intV l)
theorem OwnI.below {w w' : World} {base : Nat} {v : Value} {l : List Int} (h : OwnI w base v l) (hb : Below w.heap.size w w') : OwnI w' base v l :=
  World.ownsRow.kept h (row := none) ⟨hb.os, hb.tape, hb.output, hb.size, fun i hi _ => hb.block i hi⟩ (by cases v.ownBlock <;> simp)
theorem OwnI.mono {w : World} {base b : Nat} {v : Value} {l : List Int} (h : OwnI w base v l) (hb : b ≤ base) : OwnI w b v l := by
  refine ⟨h.1, ?_⟩
  rcases h.2 with h | ⟨g, cap, cur, h1, h2, h3⟩
  · exact .inl h
  · exact .inr ⟨g, cap, cur, h1, Nat.le_trans hb h2, h3⟩
theorem add_own (g j : Nat) : (⟨g, 0, none⟩ : Addr).add j = ⟨g, j, none⟩ := by
  unfold Addr.add; split
  · subst_vars; rfl
  · simp
theorem OwnI.cell {w : World} {base g cap : Nat} {l : List Int} (h : OwnI w base (.slice (some ⟨g, 0, none⟩) l.length cap) l) (j : Nat) (hj : j < l.length) : w.cell? ⟨g, j, none⟩ = some (.int .i64 l[j]) := by
  rw [World.ownsRow.cellAt (w := w) (base := base) (e := 3) (size := 1) h j (by omega)]
  simp [intV, hj]
theorem OwnI.ins {w : World} {base n cap : Nat} {A : Option Addr} {l : List Int} (h : OwnI w base (.slice A n cap) l) : n = l.length ∧ IntsIn w A l := by
  rcases h.2 with ⟨e, hn⟩ | ⟨g, c, cur, e, h1, h2, _⟩
  · simp only [Value.slice.injEq] at e
    obtain ⟨rfl, rfl, rfl⟩ := e
    refine ⟨by omega, fun j hj => by omega⟩
  · simp only [Value.slice.injEq] at e
    obtain ⟨rfl, rfl, rfl⟩ := e
    refine ⟨rfl, fun j hj => ⟨_, rfl, (Array.getElem?_eq_some_iff.1 h2).1, ?_⟩⟩
    exact h.cell j hj
theorem OwnI.opens {w : World} {base : Nat} {v : Value} {l : List Int} (h : OwnI w base v l) : ∃ (A : Option Addr) (cap : Nat), v = .slice A l.length cap := by
  rcases h.2 with ⟨e, hn⟩ | ⟨g, c, cur, e, h1, h2, _⟩
  · exact ⟨none, 0, by rw [e, hn]⟩
  · exact ⟨_, _, e⟩
theorem OwnI.row {w : World} {base : Nat} {v : Value} {l : List Int} (h : OwnI w base v l) (hl : l ≠ []) : ∃ g cap, v = .slice (some ⟨g, 0, none⟩) l.length cap ∧ base ≤ g ∧ g < w.heap.size := by
  have hne : 0 < l.length := List.length_pos_iff.2 hl
  rcases h.2 with ⟨_, h⟩ | ⟨g, cap, _, h1, h2, h3, _⟩
  · omega
  · exact ⟨g, cap, h1, h2, (Array.getElem?_eq_some_iff.1 h3).1⟩
theorem make_ints (n : Nat) (hn : n ≤ 17592186044415) : ∀ W : World, (Instr.makeSlice 23 (.int .i64 (n : Int)) (.int .i64 (n : Int))).run Tryz.prog W = .ok (.slice (some ⟨W.heap.size, 0, none⟩) n n) (W.alloc (.cells (madeCells #[.int .i64 0] n) 3)) := by
  intro W
  obtain ⟨i0, hi0, hz0, hz1, hz2⟩ := info_parts int_info
  have h := run_make (P := Tryz.prog) W 23 3 i0 (.int .i64 0) Tryz.underlying23 hi0 hz0 .i64 .i64 n n (by omega) (by omega) (by rw [hz2]; omega) (by omega)
  rw [hz1] at h
  simpa [Value.cells] using h
theorem made_one (z : Value) (n : Nat) : madeCells #[z] n = (List.replicate n z).toArray := by
  rw [← toList_madeCells_one, Array.toArray_toList]
theorem ints_made (w : World) {g : Nat} (zs : List Int) (k : Nat) (h : w.heap[g]? = some (.cells (intV (zs.take k) ++ List.replicate (zs.length - k) (Value.int .i64 0)).toArray 3 (0, 0))) (hn : k < zs.length) :
    (w.setCell ⟨g, k, none⟩ (Value.int .i64 zs[k])).heap[g]? = some (.cells (intV (zs.take (k + 1)) ++ List.replicate (zs.length - (k + 1)) (Value.int .i64 0)).toArray 3 (0, 0)) := by
  rw [heap_set h]
  congr 2
  have hl : (intV (zs.take k)).length = k := by rw [intV_len, List.length_take]; omega
  rw [List.setIfInBounds_toArray, List.set_append_right _ _ (by omega), hl, Nat.sub_self, show zs.length - k = (zs.length - (k + 1)) + 1 from by omega, List.replicate_succ, List.set_cons_zero, List.take_succ_eq_append_getElem hn, intV_app, List.append_assoc]
  rfl
set_option maxRecDepth 100000 in
set_option maxHeartbeats 400000 in
theorem to_ints (A : Option Addr) (cap : Nat) (zs : List Int) (w : World) (hI : IntsRaw w A zs) (hn : zs.length ≤ 17592186044415) :
    Calls Tryz.prog 35 #[.slice A zs.length cap] w fun e w' => e = .returned (.slice (some ⟨w.heap.size, 0, none⟩) zs.length zs.length) ∧ OwnI w' w.heap.size (.slice (some ⟨w.heap.size, 0, none⟩) zs.length zs.length) zs ∧ Below w.heap.size w w' := by
  have HI := Lib.hid hI; clear hI
  have hmk := make_ints zs.length hn
  have h0 := heap_alloc_new w (.cells (madeCells #[.int .i64 0] zs.length) 3)
  have hb0 := (Below.refl w.heap.size w).alloc (Nat.le_refl _) (.cells (madeCells #[.int .i64 0] zs.length) 3)
  rw [made_one] at h0 hb0
  go_enter Tryz.func35, Tryz.ntmps35
  go_wp2
  rw [made_one]
  clear hmk
  obtain ⟨g, hg⟩ : ∃ g, g = w.heap.size := ⟨_, rfl⟩
  rw [← hg] at h0 hb0 ⊢
  have hgl : g ≤ w.heap.size := by omega
  have hgu : w.heap.size ≤ g := by omega
  have HG := Lib.hid hg; clear hg
  generalize w.alloc (.cells (List.replicate zs.length (Value.int IntKind.i64 0)).toArray 3) = W at *
  go_loopw [4] (fun i wr => ∃ k : Nat, k ≤ zs.length ∧ i = .int .i64 k ∧ wr.heap[g]? = some (.cells (intV (zs.take k) ++ List.replicate (zs.length - k) (Value.int .i64 0)).toArray 3 (0, 0)) ∧ Below g w wr) (fun i _ => zs.length - (intOf i).toNat)
  case atStart => exact ⟨0, Nat.zero_le _, rfl, by simpa [intV] using h0, hb0⟩
  case round =>
    obtain ⟨k, hk, rfl, hblk, hb⟩ := hrel
    clear h0 hb0
    by_cases hlt : (k : Int) < (zs.length : Int)
    · have hkn : k < zs.length := by omega
      obtain ⟨ad, rfl, ha, hc⟩ := (HI.out) k hkn
      have hc' : wr.cell? (ad.add k) = some (Value.int .i64 zs[k]) := by rw [← hc]; exact hb.cell (by rw [addr_block]; omega)
      have hd : wr.cell? ⟨g, k, none⟩ = some (Value.int .i64 0) := by
        rw [cell_of_row wr g k _ _ _ hblk]
        have hl : (intV (zs.take k)).length = k := by rw [intV_len, List.length_take]; omega
        rw [List.getElem?_toArray, List.getElem?_append_right (by omega), hl, List.getElem?_replicate, if_pos (by omega)]
      have hf : wr.frozen? ⟨g, k, none⟩ = false := frozen_of_row wr g k _ _ hblk
      have HS := Lib.hid (ints_made wr zs k hblk hkn)
      clear hblk hc
      go_wp2
      go_roundw
      case rel => exact ⟨k + 1, by omega, by go_num, HS.out, hb.setCell (Nat.le_refl _) _⟩
      case measure => simp [intOf]; omega
    · obtain rfl : k = zs.length := by omega
      have HB := Lib.hid hblk; clear hblk
      go_wp2
      go_ret
      refine ⟨by rw [← HG.out]; rfl, ⟨by simp [intV], .inr ⟨g, zs.length, (intV zs).toArray, by rw [← HG.out], by omega, ?_, Nat.le_refl _, by unfold maxLen; omega, by simp [intV], ?_⟩⟩, by rw [← HG.out]; exact hb⟩
      · have := HB.out; simpa using this
      · exact List.take_of_length_le (by simp [intV])
set_option maxRecDepth 100000 in
set_option maxHeartbeats 400000 in
theorem eq_ints (A B : Option Addr) (ca cb : Nat) (l : List Int) (w : World) (hA : IntsIn w A l) (hB : IntsIn w B l) (hn : l.length ≤ 17592186044415) :
    Calls Tryz.prog 11 #[.slice A l.length ca, .slice B l.length cb] w fun e w' => e = .returned (.bool true) ∧ Below w.heap.size w w' := by
  have HA := Lib.hid hA; have HB := Lib.hid hB; clear hA hB
  have hlb : ((l.length : Int) != (l.length : Int)) = false := by simp
  go_enter Tryz.func11, Tryz.ntmps11
  go_wp2
  go_loopw [5] (fun i wr => ∃ j : Nat, j ≤ l.length ∧ i = .int .i64 j ∧ Below w.heap.size w wr ∧ (∀ a, wr.cell? a = w.cell? a)) (fun i _ => l.length - (intOf i).toNat)
  case atStart => exact ⟨0, Nat.zero_le _, rfl, Below.refl _ _, fun _ => rfl⟩
  case round =>
    obtain ⟨j, hj, rfl, hb, hsame⟩ := hrel
    have HS := Lib.hid hsame; clear hsame
    by_cases hlt : (j : Int) < (l.length : Int)
    · have hjn : j < l.length := by omega
      obtain ⟨ad, rfl, _, k1⟩ := HA.out j hjn
      obtain ⟨bd, rfl, _, k2⟩ := HB.out j hjn
      replace k1 := (HS.out _).trans k1
      replace k2 := (HS.out _).trans k2
      have hq : (l[j] != l[j]) = false := by simp
      go_wp2_with fail
      go_quiet (fail)
      go_wp2
      go_roundw
      case rel => exact ⟨j + 1, by omega, by go_num, below_drewN hb _, fun a => HS.out a⟩
      case measure => simp [intOf]; omega
    · go_wp2
      go_ret
      exact ⟨rfl, hb⟩
end Go.Proofs.YtadcmngooobeiabGreat

/- What the sizes of the exact laws say, and the size of a slice of ints. -/
namespace Go.Proofs.YtadcmngooobeiabGreat
open Go.RowKit
def SzPost (left : Int) (n : Nat) (e : Ending) : Prop := ∃ r : Int, e = .returned (.int .i64 r) ∧ (r = -1 ∨ (0 ≤ r ∧ r ≤ left ∧ (n : Int) ≤ left))
theorem sz_ints (A : Option Addr) (cap n : Nat) (left : Int) (w : World) (hn : n ≤ maxLen) (hl : 0 ≤ left ∧ left ≤ 1048576) :
    Calls Tryz.prog 28 #[.slice A n cap, .int .i64 left] w fun e w' => SzPost left n e ∧ Below w.heap.size w w' := by
  unfold maxLen at hn
  obtain ⟨hl0, hl1⟩ := hl
  by_cases h1 : left - (n : Int) < 0
  · go_enter Tryz.func28, Tryz.ntmps28
    go_wp2
    go_ret
    exact ⟨⟨-1, rfl, .inl rfl⟩, Below.refl _ _⟩
  · go_enter Tryz.func28, Tryz.ntmps28
    go_wp2
    go_ret
    exact ⟨⟨_, rfl, .inr ⟨by omega, by omega, by omega⟩⟩, Below.refl _ _⟩
end Go.Proofs.YtadcmngooobeiabGreat

/- Slices whose elements take several cells: what the call owns, cell by cell. -/
namespace Go.Proofs.YtadcmngooobeiabGreat
open Go.RowKit
section
variable {α : Type} {enc : α → List Value} {k : Nat}
theorem flat_len (hk : ∀ a, (enc a).length = k) (l : List α) : (l.flatMap enc).length = l.length * k := by
  induction l with
  | nil => simp
  | cons a l ih => rw [List.flatMap_cons, List.length_append, hk, ih, List.length_cons, Nat.succ_mul]; omega
theorem flat_get (hk : ∀ a, (enc a).length = k) (l : List α) (j : Nat) (hj : j < l.length) (i : Nat) (hi : i < k) : (l.flatMap enc)[j * k + i]? = (enc l[j])[i]? := by
  induction l generalizing j with
  | nil => simp at hj
  | cons a l ih =>
    rw [List.flatMap_cons]
    cases j with
    | zero => rw [Nat.zero_mul, Nat.zero_add, List.getElem?_append_left (by rw [hk]; exact hi)]; rfl
    | succ j =>
      rw [List.getElem?_append_right (by rw [hk, Nat.succ_mul]; omega), hk, show (j + 1) * k + i - k = j * k + i from by rw [Nat.succ_mul]; omega]
      exact ih j (by simpa using hj)
theorem flat_take (l : List α) (j : Nat) (hj : j < l.length) : (l.take (j + 1)).flatMap enc = (l.take j).flatMap enc ++ enc l[j] := by
  rw [List.take_succ_eq_append_getElem hj, List.flatMap_append]; simp
/-- a slice of the call's own that holds these elements -/
def OwnK (T : TypeId) (k : Nat) (enc : α → List Value) (w : World) (base : Nat) (v : Value) (l : List α) : Prop := w.ownsRow base T k v l.length (l.flatMap enc)
variable {T : TypeId} {w w' : World} {base : Nat} {v : Value} {l : List α}
theorem OwnK.below (h : OwnK T k enc w base v l) (hb : Below w.heap.size w w') : OwnK T k enc w' base v l :=
  World.ownsRow.kept h (row := none) ⟨hb.os, hb.tape, hb.output, hb.size, fun i hi _ => hb.block i hi⟩ (by cases v.ownBlock <;> simp)
theorem OwnK.mono {b : Nat} (h : OwnK T k enc w base v l) (hb : b ≤ base) : OwnK T k enc w b v l := by
  refine ⟨h.1, ?_⟩
  rcases h.2 with h | ⟨g, cap, cur, h1, h2, h3⟩
  · exact .inl h
  · exact .inr ⟨g, cap, cur, h1, Nat.le_trans hb h2, h3⟩
theorem OwnK.cell {g cap : Nat} (hk : ∀ a, (enc a).length = k) (h : OwnK T k enc w base (.slice (some ⟨g, 0, none⟩) l.length cap) l) (j : Nat) (hj : j < l.length) (i : Nat) (hi : i < k) : w.cell? ⟨g, j * k + i, none⟩ = (enc l[j])[i]? := by
  have hlt : j * k + i < l.length * k := by
    have : (j + 1) * k ≤ l.length * k := Nat.mul_le_mul_right k hj
    rw [Nat.succ_mul] at this; omega
  rw [World.ownsRow.cellAt (w := w) (base := base) (e := T) (size := k) h (j * k + i) hlt]
  exact flat_get hk l j hj i hi
theorem OwnK.opens (h : OwnK T k enc w base v l) : ∃ (A : Option Addr) (cap : Nat), v = .slice A l.length cap := by
  rcases h.2 with ⟨e, hn⟩ | ⟨g, c, cur, e, h1, h2, _⟩
  · exact ⟨none, 0, by rw [e, hn]⟩
  · exact ⟨_, _, e⟩
theorem OwnK.row (h : OwnK T k enc w base v l) (hl : l ≠ []) : ∃ g cap, v = .slice (some ⟨g, 0, none⟩) l.length cap ∧ base ≤ g ∧ g < w.heap.size := by
  have hne : 0 < l.length := List.length_pos_iff.2 hl
  rcases h.2 with ⟨_, h⟩ | ⟨g, cap, _, h1, h2, h3, _⟩
  · omega
  · exact ⟨g, cap, h1, h2, (Array.getElem?_eq_some_iff.1 h3).1⟩
/-- elements that can be read, from the head of a block on -/
def InK (k : Nat) (enc : α → List Value) (w : World) (A : Option Addr) (l : List α) : Prop :=
  ∀ j (hj : j < l.length), ∃ g, A = some ⟨g, 0, none⟩ ∧ g < w.heap.size ∧ ∀ i, i < k → w.cell? ⟨g, j * k + i, none⟩ = (enc l[j])[i]?
theorem InK.below {A : Option Addr} (h : InK k enc w A l) (hb : Below w.heap.size w w') : InK k enc w' A l := by
  intro j hj
  obtain ⟨g, h1, h2, h3⟩ := h j hj
  exact ⟨g, h1, Nat.lt_of_lt_of_le h2 hb.size, fun i hi => by rw [hb.cell h2]; exact h3 i hi⟩
theorem OwnK.ins {n cap : Nat} {A : Option Addr} (hk : ∀ a, (enc a).length = k) (h : OwnK T k enc w base (.slice A n cap) l) : n = l.length ∧ InK k enc w A l := by
  rcases h.2 with ⟨e, hn⟩ | ⟨g, c, cur, e, h1, h2, _⟩
  · simp only [Value.slice.injEq] at e
    obtain ⟨rfl, rfl, rfl⟩ := e
    exact ⟨by omega, fun j hj => by omega⟩
  · simp only [Value.slice.injEq] at e
    obtain ⟨rfl, rfl, rfl⟩ := e
    exact ⟨rfl, fun j hj => ⟨_, rfl, (Array.getElem?_eq_some_iff.1 h2).1, fun i hi => OwnK.cell hk h j hj i hi⟩⟩
/-- elements that can be read, wherever they lie -/
def RawK (k : Nat) (enc : α → List Value) (w : World) (A : Option Addr) (l : List α) : Prop :=
  ∀ j (hj : j < l.length), ∃ b o, A = some ⟨b, o, none⟩ ∧ b < w.heap.size ∧ ∀ i, i < k → w.cell? ⟨b, o + j * k + i, none⟩ = (enc l[j])[i]?
theorem RawK.below {A : Option Addr} (h : RawK k enc w A l) (hb : Below w.heap.size w w') : RawK k enc w' A l := by
  intro j hj
  obtain ⟨b, o, h1, h2, h3⟩ := h j hj
  exact ⟨b, o, h1, Nat.lt_of_lt_of_le h2 hb.size, fun i hi => by rw [hb.cell h2]; exact h3 i hi⟩
theorem lit_of_cell {a : Addr} {v : Value} (h : w.cell? (a.add 0) = some v) : a = ⟨a.block, a.off, none⟩ := by
  obtain ⟨b, o, inner⟩ := a
  cases inner with
  | none => rfl
  | some p =>
    exfalso
    unfold Addr.add at h
    simp only [if_true] at h
    simp only [World.cell?] at h
    split at h <;> simp at h
/-- out of what a row opens -/
theorem RawK.of {a : Addr} (h0 : 0 < k) (hk : ∀ x, (enc x).length = k) (h : ∀ j (hj : j < l.length), ∀ i, i < k → w.cell? (a.add (j * k + i)) = (enc l[j])[i]?) : RawK k enc w (some a) l := by
  intro j hj
  have hc := h 0 (by omega) 0 h0
  rw [Nat.zero_mul, Nat.zero_add] at hc
  rw [List.getElem?_eq_getElem (by rw [hk]; exact h0)] at hc
  have ha := lit_of_cell hc
  have hb := World.block_lt_of_cell? w _ hc
  rw [addr_block] at hb
  refine ⟨a.block, a.off, by rw [← ha], hb, fun i hi => ?_⟩
  have h2 := h j hj i hi
  rw [ha, Addr.add_lit] at h2
  rw [Nat.add_assoc]
  exact h2
/-- what is made in a block of the call's own, element by element -/
def Made (T : TypeId) (k : Nat) (enc : α → List Value) (w : World) (g : Nat) (l : List α) (j : Nat) : Prop :=
  ∃ cs : List Value, w.heap[g]? = some (.cells cs.toArray T (0, 0)) ∧ cs.length = l.length * k ∧ cs.take (j * k) = (l.take j).flatMap enc
theorem Made.below {g j : Nat} (h : Made T k enc w g l j) (hg : g < w.heap.size) (hb : Below w.heap.size w w') : Made T k enc w' g l j := by
  obtain ⟨cs, h1, h2⟩ := h
  exact ⟨cs, by rw [hb.block g hg]; exact h1, h2⟩
theorem Made.at {g j : Nat} (h : Made T k enc w g l j) (hj : j < l.length) (i : Nat) (hi : i < k) : ∃ v, w.cell? ⟨g, j * k + i, none⟩ = some v := by
  obtain ⟨cs, h1, h2, _⟩ := h
  have hlt : j * k + i < cs.length := by
    have : (j + 1) * k ≤ l.length * k := Nat.mul_le_mul_right k hj
    rw [Nat.succ_mul] at this; omega
  exact ⟨_, by rw [cell_of_row w g _ _ _ _ h1, List.getElem?_toArray]; exact List.getElem?_eq_getElem hlt⟩
theorem Made.free {g j : Nat} (h : Made T k enc w g l j) (o : Nat) : w.frozen? ⟨g, o, none⟩ = false := by
  obtain ⟨cs, h1, _⟩ := h
  exact frozen_of_row w g o _ _ h1
theorem Made.owns {g : Nat} (h : Made T k enc w g l l.length) (hm : l.length ≤ maxLen) : OwnK T k enc w g (.slice (some ⟨g, 0, none⟩) l.length l.length) l := by
  obtain ⟨cs, h1, h2, h3⟩ := h
  rw [List.take_length] at h3
  have hl : (l.flatMap enc).length = l.length * k := by rw [← h3, List.length_take]; omega
  exact ⟨hl, .inr ⟨g, l.length, cs.toArray, rfl, Nat.le_refl _, h1, Nat.le_refl _, hm, by simp [h2], by simpa using h3⟩⟩
end
/-- cells written one behind the other -/
def setRow (w : World) (g : Nat) : Nat → List Value → World
  | _, [] => w
  | o, v :: vs => setRow (w.setCell ⟨g, o, none⟩ v) g (o + 1) vs
theorem setRow_heap {T : TypeId} {g : Nat} : ∀ (vs cs : List Value) (o : Nat) (w : World), w.heap[g]? = some (.cells cs.toArray T (0, 0)) → o + vs.length ≤ cs.length →
    (setRow w g o vs).heap[g]? = some (.cells (cs.take o ++ vs ++ cs.drop (o + vs.length)).toArray T (0, 0))
  | [], cs, o, w, h, _ => by simpa [setRow] using h
  | v :: vs, cs, o, w, h, hl => by
    simp only [List.length_cons] at hl
    have h1 : (w.setCell ⟨g, o, none⟩ v).heap[g]? = some (.cells (cs.set o v).toArray T (0, 0)) := by rw [heap_set h o v]; simp
    have h2 := setRow_heap vs (cs.set o v) (o + 1) (w.setCell ⟨g, o, none⟩ v) h1 (by rw [List.length_set]; omega)
    show (setRow (w.setCell ⟨g, o, none⟩ v) g (o + 1) vs).heap[g]? = _
    rw [h2, List.take_succ_eq_append_getElem (by rw [List.length_set]; omega), List.take_set_of_le (Nat.le_refl _), List.getElem_set_self, List.drop_set_of_lt (by omega)]
    congr 2
    simp [Nat.add_comm, Nat.add_left_comm]
theorem Made.step {α : Type} {enc : α → List Value} {k : Nat} {T : TypeId} {w : World} {l : List α} {g j : Nat} (hk : ∀ a, (enc a).length = k) (h : Made T k enc w g l j) (hj : j < l.length) : Made T k enc (setRow w g (j * k) (enc l[j])) g l (j + 1) := by
  obtain ⟨cs, h1, h2, h3⟩ := h
  have hle : (j + 1) * k ≤ l.length * k := Nat.mul_le_mul_right k hj
  rw [Nat.succ_mul] at hle
  have hr := setRow_heap (enc l[j]) cs (j * k) w h1 (by rw [hk, h2]; omega)
  have ht : (cs.take (j * k)).length = j * k := by rw [List.length_take]; omega
  refine ⟨_, hr, by simp only [List.length_append, ht, hk, List.length_drop]; omega, ?_⟩
  rw [flat_take l j hj, ← h3, List.take_left' (by rw [List.length_append, ht, hk, Nat.succ_mul])]
end Go.Proofs.YtadcmngooobeiabGreat

/- Arguments opened: texts, numbers, and slices of structs of any number of fields. -/
namespace Go.Proofs.YtadcmngooobeiabGreat
open Go.ChangeShapes Go.WideShapes Go.ChangeAt Go.RowKit
theorem strg_of_trod {H : Type} {enc : TypeId × Value → H} {P : Program} {w : World} {base n : Nat} {spare : Nat → Bool} {held : Bool} {t : TypeId} {v : Value} {y : DataW H × List MemPlace} (ht : P.underlying t = some .string)
    (h : DataW.trod enc P w base spare held n t [v] = some y) : ∃ s : ByteArray, v = .string s ∧ s.size ≤ maxLen := by
  obtain ⟨s, hs, _, ws⟩ := DataW.trod_string ht h
  simp only [List.cons.injEq, and_true] at hs
  exact ⟨s, hs, ws⟩
theorem intg_of_trod {H : Type} {enc : TypeId × Value → H} {P : Program} {w : World} {base n : Nat} {spare : Nat → Bool} {held : Bool} {t : TypeId} {v : Value} {y : DataW H × List MemPlace} (ht : P.underlying t = some (.int .i64))
    (h : DataW.trod enc P w base spare held n t [v] = some y) : ∃ x : Int, v = .int .i64 x := by
  obtain ⟨x, hx, _⟩ := DataW.trod_int ht h
  simp only [List.cons.injEq, and_true] at hx
  exact ⟨x, hx⟩
theorem boolg_of_trod {H : Type} {enc : TypeId × Value → H} {P : Program} {w : World} {base n : Nat} {spare : Nat → Bool} {held : Bool} {t : TypeId} {v : Value} {y : DataW H × List MemPlace} (ht : P.underlying t = some .bool)
    (h : DataW.trod enc P w base spare held n t [v] = some y) : ∃ x : Bool, v = .bool x := by
  obtain ⟨x, hx, _⟩ := DataW.trod_bool ht h
  simp only [List.cons.injEq, and_true] at hx
  exact ⟨x, hx⟩
theorem rawK_of_trod {α : Type} {enc' : α → List Value} {k : Nat} {Q : α → Prop} {H : Type} {enc : TypeId × Value → H} {P : Program} {w : World} {fuel : Nat} {t e : TypeId} {cs : List Value} {x : DataW H × List MemPlace}
    (ht : P.underlying t = some (.slice e)) (ce : P.cellsOf e = k) (h0 : 0 < k) (hk : ∀ a, (enc' a).length = k) (inh : α)
    (each0 : ∀ (cs : List Value) (x : DataW H × List MemPlace) (fuel : Nat), cs.length = k → DataW.trod enc P w 0 (fun _ => true) true fuel e cs = some x → ∃ r : α, cs = enc' r ∧ Q r)
    (hf : DataW.trod enc P w 0 (fun _ => true) true fuel t cs = some x) : ∃ (A : Option Addr) (c : Nat) (l : List α), cs = [.slice A l.length c] ∧ RawK k enc' w A l ∧ (∀ z ∈ l, Q z) ∧ l.length ≤ maxLen := by
  rcases Go.Deep.open_slice ht hf with ⟨hcs, _⟩ | ⟨a, len, cap, m, n, D, Pl, hcs, _, hl, hm, hmm, _, hx⟩
  · exact ⟨none, 0, [], hcs, fun j hj => absurd hj (by simp), fun z hz => absurd hz (by simp), by unfold maxLen; simp⟩
  · simp only [if_true] at hmm
    subst hmm
    have each : ∀ i, i < len → ∃ r : α, (∀ j, j < k → w.cell? (a.add (i * k + j)) = (enc' r)[j]?) ∧ Q r := fun i hi => by
      obtain ⟨cs', h1, h2⟩ := hx i (by omega)
      rw [ce] at h1
      obtain ⟨_, hlen, hcell⟩ := World.cells?_some h1
      obtain ⟨r, hr, hq⟩ := each0 cs' _ _ hlen h2
      refine ⟨r, fun j hj => ?_, hq⟩
      rw [← Go.Deep.add_add, hcell j hj, hr]
    obtain ⟨f, hf⟩ := @Go.Deep.choose_lt α ⟨inh⟩ _ _ each
    have hlen : ((List.range len).map f).length = len := by simp
    refine ⟨some a, _, (List.range len).map f, by rw [hlen]; exact hcs, RawK.of h0 hk (fun j hj i hi => ?_), fun z hz => ?_, by rw [hlen]; omega⟩
    · rw [hlen] at hj
      have e : ((List.range len).map f)[j]'(by rw [hlen]; exact hj) = f j := by simp
      rw [e]
      exact (hf j hj).1 i hi
    · obtain ⟨j, hj, rfl⟩ := List.mem_map.1 hz
      exact (hf j (List.mem_range.1 hj)).2
theorem ints_of_trod {H : Type} {enc : TypeId × Value → H} {P : Program} {w : World} {fuel : Nat} {t e : TypeId} {cs : List Value} {x : DataW H × List MemPlace} (ht : P.underlying t = some (.slice e)) (he : P.underlying e = some (.int .i64)) (hc : P.cellsOf e = 1)
    (hf : DataW.trod enc P w 0 (fun _ => true) true fuel t cs = some x) : ∃ (A : Option Addr) (c : Nat) (zs : List Int), cs = [.slice A zs.length c] ∧ IntsRaw w A zs ∧ zs.length ≤ maxLen := by
  rcases open_ints ht he hc hf with ⟨hcs, _⟩ | ⟨a, len, cap', zs, hcs, _, hl, hm, hz, _, hcell, _⟩
  · exact ⟨none, 0, [], hcs, fun j hj => absurd hj (by simp), by unfold maxLen; simp⟩
  · simp only [if_true] at hz
    have hlen : (zs.take len).length = len := by rw [List.length_take]; omega
    refine ⟨some a, _, zs.take len, by rw [hlen]; exact hcs, fun j hj => ?_, by omega⟩
    have hcj := hcell j (by omega)
    refine ⟨a, rfl, ?_, ?_⟩
    · rcases Nat.lt_or_ge a.block w.heap.size with h | h
      · exact h
      · exfalso
        have : w.heap[(a.add j).block]? = none := by rw [addr_block]; exact Array.getElem?_eq_none h
        simp [World.cell?, this] at hcj
    · rw [hcj]
      rw [List.getElem_take, List.getD_eq_getElem?_getD, List.getElem?_eq_getElem (by omega)]
      rfl
end Go.Proofs.YtadcmngooobeiabGreat

/- The order of texts. No program. -/
namespace Go.Proofs.YtadcmngooobeiabGreat
open Go.RowKit
theorem bl_irrefl : ∀ x : List UInt8, Op.bytesLess x x = false
  | [] => rfl
  | a :: x => by simp [Op.bytesLess, bl_irrefl x]
theorem bl_cons (a b : UInt8) (x y : List UInt8) : Op.bytesLess (a :: x) (b :: y) = true ↔ a < b ∨ (a = b ∧ Op.bytesLess x y = true) := by simp [Op.bytesLess]
theorem bl_asymm : ∀ x y : List UInt8, Op.bytesLess x y = true → Op.bytesLess y x = false
  | _, [], h => by cases ‹List UInt8› <;> simp [Op.bytesLess] at h
  | [], b :: y, _ => rfl
  | a :: x, b :: y, h => by
    rcases (bl_cons a b x y).1 h with h | ⟨rfl, k⟩
    · cases hh : Op.bytesLess (b :: y) (a :: x) with
      | false => rfl
      | true =>
        rcases (bl_cons b a y x).1 hh with h' | ⟨rfl, _⟩
        · exact absurd (UInt8.lt_trans h h') (UInt8.lt_irrefl _)
        · exact absurd h (UInt8.lt_irrefl _)
    · cases hh : Op.bytesLess (a :: y) (a :: x) with
      | false => rfl
      | true =>
        rcases (bl_cons a a y x).1 hh with h' | ⟨_, h'⟩
        · exact absurd h' (UInt8.lt_irrefl _)
        · rw [bl_asymm x y k] at h'; cases h'
theorem bl_total : ∀ x y : List UInt8, Op.bytesLess x y = false → Op.bytesLess y x = false → x = y
  | [], [], _, _ => rfl
  | [], b :: y, h, _ => by simp [Op.bytesLess] at h
  | a :: x, [], _, h => by simp [Op.bytesLess] at h
  | a :: x, b :: y, h, h' => by
    have n1 : ¬ (a < b ∨ (a = b ∧ Op.bytesLess x y = true)) := fun k => by rw [(bl_cons a b x y).2 k] at h; cases h
    have n2 : ¬ (b < a ∨ (b = a ∧ Op.bytesLess y x = true)) := fun k => by rw [(bl_cons b a y x).2 k] at h'; cases h'
    have e : a = b := by
      have m1 : ¬ a < b := fun k => n1 (.inl k)
      have m2 : ¬ b < a := fun k => n2 (.inl k)
      rw [UInt8.lt_iff_toNat_lt] at m1 m2
      exact UInt8.toNat_inj.1 (by omega)
    subst e
    rw [bl_total x y (by cases k : Op.bytesLess x y with | false => rfl | true => exact absurd (.inr ⟨rfl, k⟩) n1) (by cases k : Op.bytesLess y x with | false => rfl | true => exact absurd (.inr ⟨rfl, k⟩) n2)]
theorem bl_trans : ∀ x y z : List UInt8, Op.bytesLess x y = true → Op.bytesLess y z = true → Op.bytesLess x z = true
  | _, _, [], _, h => by cases ‹List UInt8› <;> simp [Op.bytesLess] at h
  | [], _, c :: z, _, _ => rfl
  | a :: x, [], _, h, _ => by simp [Op.bytesLess] at h
  | a :: x, b :: y, c :: z, h, h' => by
    rcases (bl_cons a b x y).1 h with h | ⟨rfl, k⟩
    · rcases (bl_cons b c y z).1 h' with h' | ⟨rfl, _⟩
      · exact (bl_cons a c x z).2 (.inl (UInt8.lt_trans h h'))
      · exact (bl_cons a b x z).2 (.inl h)
    · rcases (bl_cons a c y z).1 h' with h' | ⟨rfl, k'⟩
      · exact (bl_cons a c x z).2 (.inl h')
      · exact (bl_cons a a x z).2 (.inr ⟨rfl, bl_trans x y z k k'⟩)
theorem le_not (x y : List UInt8) : (Op.bytesLess x y || x == y) = !Op.bytesLess y x := by
  cases h : Op.bytesLess x y with
  | true => rw [bl_asymm _ _ h]; rfl
  | false =>
    cases h' : Op.bytesLess y x with
    | true =>
      have : x ≠ y := fun e => by rw [e, bl_irrefl] at h'; cases h'
      simp [this]
    | false => simp [bl_total _ _ h h']
end Go.Proofs.YtadcmngooobeiabGreat

/- Slices of strings of the call's own. -/
namespace Go.Proofs.YtadcmngooobeiabGreat
open Go.RowKit
theorem str_info : (Tryz.prog.info? 9).map (fun i => (i.zero, i.size, i.bytes)) = some (some (.string ⟨#[]⟩), 1, 16) := by kernel_rfl
def strV (l : List ByteArray) : List Value := l.map Value.string
theorem strV_app (a b : List ByteArray) : strV (a ++ b) = strV a ++ strV b := by simp [strV]
theorem strV_len (a : List ByteArray) : (strV a).length = a.length := by simp [strV]
/-- a slice of the call's own that holds these texts -/
def OwnStr (w : World) (base : Nat) (v : Value) (l : List ByteArray) : Prop := w.ownsRow base 9 1 v l.length (strV l)
theorem one_str (s : ByteArray) : ∀ u ∈ strV [s], u.oneCell' = true := by
  intro u hu
  simp only [strV, List.map_cons, List.map_nil, List.mem_singleton] at hu
  subst hu; rfl
theorem str_news (wr : World) (s : ByteArray) : ∀ j u, (strV [s])[j]? = some u → (wr.alloc (.cells #[.string s] 9)).cell? ((⟨wr.heap.size, 0, none⟩ : Addr).add j) = some u := by
  intro j u hu
  have e : (⟨wr.heap.size, 0, none⟩ : Addr).add j = ⟨wr.heap.size, j, none⟩ := by
    unfold Addr.add; split
    · subst_vars; rfl
    · simp
  rw [e, cell_of_row _ _ _ _ _ _ (heap_alloc_new wr _)]
  simpa [strV] using hu
theorem own_below {w w' : World} {base : Nat} {v : Value} {l : List ByteArray} (h : OwnStr w base v l) (hb : Below w.heap.size w w') : OwnStr w' base v l :=
  World.ownsRow.kept h (row := none) ⟨hb.os, hb.tape, hb.output, hb.size, fun i hi _ => hb.block i hi⟩ (by cases v.ownBlock <;> simp)
theorem own_new (w : World) : OwnStr (w.alloc (.cells #[] 9)) w.heap.size (.slice (some ⟨w.heap.size, 0, none⟩) 0 0) [] :=
  ⟨rfl, .inr ⟨w.heap.size, 0, #[], rfl, Nat.le_refl _, heap_alloc_new w _, Nat.le_refl _, Nat.zero_le _, rfl, rfl⟩⟩
def lists (l : List ByteArray) : List (List UInt8) := l.map fun x => x.data.toList
theorem lists_app (a b : List ByteArray) : lists (a ++ b) = lists a ++ lists b := by simp [lists]
/-- the texts of these bytes -/
def ofL (l : List (List UInt8)) : List ByteArray := l.map fun b => ⟨b.toArray⟩
theorem lists_ofL (l : List (List UInt8)) : lists (ofL l) = l := by
  unfold lists ofL
  rw [List.map_map]
  conv => rhs; rw [← List.map_id l]
  exact List.map_congr_left fun x _ => rfl
theorem ofL_lists (l : List ByteArray) : ofL (lists l) = l := by
  unfold lists ofL
  rw [List.map_map]
  conv => rhs; rw [← List.map_id l]
  exact List.map_congr_left fun x _ => by cases x; rfl
theorem ofL_len (l : List (List UInt8)) : (ofL l).length = l.length := by simp [ofL]
theorem lists_len (l : List ByteArray) : (lists l).length = l.length := by simp [lists]
theorem own_slice {w : World} {b : Nat} {v : Value} {l : List ByteArray} (h : OwnStr w b v l) (hl : l ≠ []) : ∃ g cap, v = .slice (some ⟨g, 0, none⟩) l.length cap ∧ b ≤ g ∧ g < w.heap.size := by
  have hne : 0 < l.length := List.length_pos_iff.2 hl
  rcases h.2 with ⟨_, h⟩ | ⟨g, cap, _, h1, h2, h3, _⟩
  · omega
  · exact ⟨g, cap, h1, h2, (Array.getElem?_eq_some_iff.1 h3).1⟩
theorem own_empty {w : World} {b : Nat} {v : Value} (h : OwnStr w b v []) : ∃ (A : Option Addr) (cap : Nat), v = .slice A 0 cap := by
  rcases h.2 with ⟨h, _⟩ | ⟨g, cap, _, h, _⟩
  · exact ⟨_, _, h⟩
  · exact ⟨_, _, h⟩
end Go.Proofs.YtadcmngooobeiabGreat

/- A region that draws its order, whose operations read and whose calls make memory of their own: one walk in the order of the text serves every order. -/
namespace Go.Proofs.YtadcmngooobeiabGreat
open Go.RowKit
structure More where
  d : Nat
  os : Array Obj
instance : Inhabited More := ⟨⟨0, #[]⟩⟩
/-- the world W with new blocks and other draws -/
def far (W : World) (x : More) : World := { W with heap := W.heap ++ x.os, drawn := x.d }
theorem far_size (W : World) (x : More) : (far W x).heap.size = W.heap.size + x.os.size := by simp [far]
theorem below_far (W : World) (x : More) : Below W.heap.size W (far W x) :=
  ⟨rfl, rfl, rfl, by rw [far_size]; omega, fun k hk => by show (W.heap ++ x.os)[k]? = _; rw [Array.getElem?_append_left hk]⟩
theorem far_cell {W : World} {g o : Nat} {v : Option Value} (hg : g < W.heap.size) (h : W.cell? ⟨g, o, none⟩ = v) : ∀ x, (far W x).cell? ⟨g, o, none⟩ = v :=
  fun x => by rw [(below_far W x).cell (p := ⟨g, o, none⟩) hg, h]
theorem far_of_below {W w' : World} (h : Below W.heap.size W w') : ∃ x, w' = far W x := by
  refine ⟨⟨w'.drawn, w'.heap.extract W.heap.size w'.heap.size⟩, ?_⟩
  obtain ⟨h1, h2, h3, h4, h5⟩ := h
  have hh : w'.heap = W.heap ++ w'.heap.extract W.heap.size w'.heap.size := by
    apply Array.ext
    · simp; omega
    · intro i a b
      rw [Array.getElem_append]
      split
      · next hi =>
        have := h5 i hi
        rw [Array.getElem?_eq_getElem a, Array.getElem?_eq_getElem hi] at this
        exact Option.some.inj this
      · next hi => rw [Array.getElem_extract]; congr 1; omega
  cases w'
  cases W
  simp only at h1 h2 h3
  subst h1 h2 h3
  unfold far
  simp only at hh ⊢
  rw [← hh]
/-- a callee that makes memory of its own, called in whatever world of the class -/
theorem call_far {P : Program} {f : FuncId} {args : Array Value} {W : World} {x : More} {v : Value}
    (h : Calls P f args (far W x) fun e w' => e = .returned v ∧ Below (far W x).heap.size (far W x) w') : Calls P f args (far W x) fun e w' => e = .returned v ∧ ∃ x, w' = far W x :=
  h.mono fun _ _ ⟨he, hb⟩ => ⟨he, far_of_below ((below_far W x).trans (hb.mono (below_far W x).size))⟩
theorem call_far_same {P : Program} {f : FuncId} {args : Array Value} {W : World} {x : More} {v : Value}
    (h : Calls P f args (far W x) fun e w' => e = .returned v ∧ far W x = w') : Calls P f args (far W x) fun e w' => e = .returned v ∧ ∃ x, w' = far W x :=
  h.mono fun _ _ ⟨he, hb⟩ => ⟨he, x, hb.symm⟩
theorem wp_region_far {P : Program} {id : Nat} {Q : Exit → Act → World → Prop} {a : Act} {w : World} {l : List Oper} (hm : P.follows .mixedOrders = true) (hB : Region.lexB .any l.toArray = true)
    (h : wpQuiet P l.toArray (fun w' => ∃ x, w' = far w x) (fun a' => ∀ w', (∃ x, w' = far w x) → Q .normal a' w') l a) : (Code.region id l.toArray true).wp P Q a w :=
  wp_region_quiet (C := fun w' => ∃ x, w' = far w x) hm hB ⟨⟨w.drawn + 1, #[]⟩, by unfold far; rw [Array.append_empty]⟩ (by simpa using h)
end Go.Proofs.YtadcmngooobeiabGreat

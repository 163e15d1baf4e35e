/- Valid bookings: the mathematics; and a range over a map of trips. -/
import Derived.Test.YtadcmngooobeiabGreatIsBk
import Derived.Test.YtadcmngooobeiabGreatBd
import Derived.Maps.RangeWalk
namespace Go.Proofs.YtadcmngooobeiabGreat
open Go.RowKit Go.Maps
/-- booking k is valid and behind the one before -/
def bkAt (l : List Lg) (zs : List Int) (x : Int) (bs : List Bk) (k : Nat) : Bool := match bs[k]? with
  | none => true
  | some b => bkOk l zs x b && (match k with
    | 0 => true
    | j + 1 => match bs[j]? with
      | none => true
      | some a => befB a b)
def bkAll (l : List Lg) (zs : List Int) (x : Int) (bs : List Bk) (k : Nat) : Bool := (List.range k).all (bkAt l zs x bs)
theorem bkAll_next (l : List Lg) (zs : List Int) (x : Int) (bs : List Bk) (k : Nat) : bkAll l zs x bs (k + 1) = (bkAll l zs x bs k && bkAt l zs x bs k) := by
  unfold bkAll; rw [List.range_succ, List.all_append]; simp
theorem bkAll_no {l : List Lg} {zs : List Int} {x : Int} {bs : List Bk} {k n : Nat} (hk : k < n) (h : bkAt l zs x bs k = false) : bkAll l zs x bs n = false := by
  unfold bkAll
  rw [List.all_eq_false]
  exact ⟨k, List.mem_range.2 hk, by rw [h]; simp⟩
theorem bkAt_zero {l : List Lg} {zs : List Int} {x : Int} {bs : List Bk} (h : 0 < bs.length) : bkAt l zs x bs 0 = bkOk l zs x bs[0] := by
  unfold bkAt; rw [List.getElem?_eq_getElem h]; simp
theorem bkAt_succ {l : List Lg} {zs : List Int} {x : Int} {bs : List Bk} {k : Nat} (h : k + 1 < bs.length) : bkAt l zs x bs (k + 1) = (bkOk l zs x bs[k + 1] && befB bs[k] bs[k + 1]) := by
  unfold bkAt; rw [List.getElem?_eq_getElem h]; simp only [List.getElem?_eq_getElem (show k < bs.length by omega)]
theorem bkAll_ok {l : List Lg} {zs : List Int} {x : Int} {bs : List Bk} (h : bkAll l zs x bs bs.length = true) : ∀ b ∈ bs, bkOk l zs x b = true := by
  intro b hb
  obtain ⟨k, hk, rfl⟩ := List.getElem_of_mem hb
  unfold bkAll at h
  have := List.all_eq_true.1 h k (List.mem_range.2 hk)
  unfold bkAt at this
  rw [List.getElem?_eq_getElem hk] at this
  simp only [Bool.and_eq_true] at this
  exact this.1
theorem bkOk_of {l : List Lg} {zs : List Int} {x : Int} {b : Bk} (h : bkOk l zs x b = true) : ronB l zs x b.g b.d = true ∧ (1 ≤ b.h ∧ b.h ≤ 9999) ∧ (1 ≤ b.m ∧ b.m ≤ 1000000) := by
  unfold bkOk at h
  simp only [Bool.and_eq_true, decide_eq_true_eq] at h
  exact ⟨h.1, h.2.1, h.2.2⟩
/-- no trip bears more than its leg's room -/
def rmB (l : List Lg) (bs : List Bk) : Bool := bs.all fun b => decide (loadT bs b.g b.d ≤ (lgAt l b.g).r)
def bksB (l : List Lg) (zs : List Int) (x : Int) (bs : List Bk) : Bool := netB l zs x && (decide (bs.length ≤ 120) && (bkAll l zs x bs bs.length && rmB l bs))
theorem bks_net {l : List Lg} {zs : List Int} {x : Int} {bs : List Bk} (h : netB l zs x = false) : bksB l zs x bs = false := by unfold bksB; rw [h]; rfl
theorem bks_long {l : List Lg} {zs : List Int} {x : Int} {bs : List Bk} (h : 120 < bs.length) : bksB l zs x bs = false := by
  unfold bksB; rw [decide_eq_false (by omega)]; simp
theorem bks_no {l : List Lg} {zs : List Int} {x : Int} {bs : List Bk} {k : Nat} (hk : k < bs.length) (h : bkAt l zs x bs k = false) : bksB l zs x bs = false := by
  unfold bksB; rw [bkAll_no hk h]; simp
theorem bks_rm {l : List Lg} {zs : List Int} {x : Int} {bs : List Bk} (h1 : netB l zs x = true) (h2 : bs.length ≤ 120) (h3 : bkAll l zs x bs bs.length = true) : bksB l zs x bs = rmB l bs := by
  unfold bksB; rw [h1, decide_eq_true h2, h3]; rfl
theorem rm_no {l : List Lg} {bs : List Bk} {b : Bk} (hb : b ∈ bs) (h : (lgAt l b.g).r < loadT bs b.g b.d) : rmB l bs = false := by
  unfold rmB; rw [List.all_eq_false]; exact ⟨b, hb, by simp; omega⟩
/-- what the map of all loads says -/
theorem ldP_hit {bs : List Bk} {g d c : Int} (h : ldP bs bs.length g d = some c) : c = loadT bs g d ∧ ∃ b ∈ bs, b.g = g ∧ b.d = d := by
  unfold ldP at h
  rw [List.take_length] at h
  split at h
  · next ha =>
    cases h
    refine ⟨loadK_all bs g d, ?_⟩
    obtain ⟨b, hb, ho⟩ := List.any_eq_true.1 ha
    exact ⟨b, hb, by unfold onT at ho; simpa using ho⟩
  · cases h
theorem ldP_of {bs : List Bk} {b : Bk} (hb : b ∈ bs) : ldP bs bs.length b.g b.d = some (loadT bs b.g b.d) := by
  unfold ldP
  rw [List.take_length, if_pos (List.any_eq_true.2 ⟨b, hb, by unfold onT; simp⟩), loadK_all]
/-- a range over a map of trips is under way: these are still to come -/
def RngP (w : World) (b r n : Nat) (G : Tk) (left : Int → Int → Bool) (cnt : Nat) : Prop := ∃ (D : DataW Unit) (L : Lit → Bool), w.ranges Tryz.prog 52 (plainElem Tryz.prog 3) b r n D L cnt ∧ FitP D G ∧ ∀ g d, Bd g → Bd d → L (ksP g d) = left g d
theorem RngP.left_eq {w : World} {b r n : Nat} {G : Tk} {left : Int → Int → Bool} {cnt : Nat} (h : RngP w b r n G left cnt) : w.rangeLeft b r = cnt := by obtain ⟨D, L, h1, _⟩ := h; exact h1.left_eq
theorem RngP.lt {w : World} {b r n : Nat} {G : Tk} {left : Int → Int → Bool} {cnt : Nat} (h : RngP w b r n G left cnt) : r < w.heap.size := by obtain ⟨D, L, h1, _⟩ := h; exact h1.lt
theorem RngP.kept {w w' : World} {b r n : Nat} {G : Tk} {left : Int → Int → Bool} {cnt : Nat} (h : RngP w b r n G left cnt) (hg : w.grownBy w' none) : RngP w' b r n G left cnt := by
  obtain ⟨D, L, h1, h2⟩ := h; exact ⟨D, L, h1.kept hg (by simp) (by simp), h2⟩
def BdH (x : Int) : Prop := Bd x
def minusP (left : Int → Int → Bool) (g d : Int) : Int → Int → Bool := fun a b => left a b && !decide (a = g ∧ b = d)
theorem wp_rangeP {w : World} {ops : Array Oper} {rest : List Oper} {o : Oper} {a : Act} {Q : Exit → Act → World → Prop} (hg : o.guard = none) (m : Operand) (hop : o.op = Op.range 142 m) (b n : Nat) (G : Tk)
    (hm : a.eval m = .map (some b)) (h : MapP w b n G)
    (hK : ∀ (cnt : Nat) (w' : World), RngP w' b w.heap.size n G (fun g d => (G g d).isSome) cnt → w.grownBy w' none → w'.heap.size = w.heap.size + 1 → wpList Tryz.prog ops Q rest (a.put o.dst (.pointer (some ⟨w.heap.size, 0, none⟩))) w') :
    wpList Tryz.prog ops Q (o :: rest) a w := by
  obtain ⟨D, h1, h2⟩ := h
  exact wpList_range_own w hg m 142 hop 52 3 keyedP Tryz.underlying142 _ b n D hm h1 (fun w' r1 r2 r3 => hK _ w' ⟨D, _, r1, h2, fun g d hg hd => h2.has g d hg hd⟩ r2 r3)
set_option maxRecDepth 100000 in
theorem wp_nextP {w : World} {ops : Array Oper} {rest : List Oper} {o : Oper} {a : Act} {Q : Exit → Act → World → Prop} (hg : o.guard = none) (it : Operand) (hop : o.op = Op.next it false) (b r n : Nat) (G : Tk) (left : Int → Int → Bool) (cnt : Nat)
    (hit : a.eval it = .pointer (some ⟨r, 0, none⟩)) (h : RngP w b r n G left cnt)
    (hDone : (∀ g d, BdH g → BdH d → left g d = false) → wpList Tryz.prog ops Q rest (a.put o.dst (.tuple #[.bool false])) w)
    (hMore : ∀ (g d c : Int) (w' : World) (cnt' : Nat), BdH g → BdH d → G g d = some c → RngP w' b r n G (minusP left g d) cnt' → cnt' < cnt → w.grownBy w' (some r) → w'.heap.size = w.heap.size →
      (Instr.entry (.pointer (some ⟨r, 0, none⟩))).run Tryz.prog w' = .ok (.tuple #[.agg #[.int .i64 g, .int .i64 d], .int .i64 c]) w' → wpList Tryz.prog ops Q rest (a.put o.dst (.tuple #[.bool true, .agg #[.int .i64 g, .int .i64 d], .int .i64 c])) w') :
    wpList Tryz.prog ops Q (o :: rest) a w := by
  obtain ⟨D, L, h1, h2, h3⟩ := h
  refine wpList_plain hg fun K' hK' => ?_
  unfold Oper.wp
  rcases h1.next keyedP o.type with ⟨h0, hl, hrun⟩ | ⟨key, v, kl, y, w', cnt', hkey, hlk, hv, hat, hrun, hrg, hlt, hgr, hsz, hen⟩
  · simp [execOp, hop, hit, hrun, Result.andThen]
    exact hK' _ _ (hDone (fun g d hg hd => by rw [← h3 g d hg hd]; exact hl _))
  · obtain ⟨g, d, bg, bd, rfl⟩ := h2.key kl (Maps.has_true_of_atKey hat)
    have hkk := keyedP.inj hkey (key_ofP bg bd)
    subst hkk
    obtain ⟨c, rfl, hc, hwc⟩ := plainElem_int_inv Tryz.underlying3 hv
    have hG : G g d = some c := by
      have hs := h2.has g d bg bd
      rw [Maps.has_true_of_atKey hat] at hs
      cases hq : G g d with
      | none => rw [hq] at hs; cases hs
      | some c' =>
        have h4 := h2.at_ g d c' bg bd hq (.lit (.int .i64 0))
        rw [hat] at h4
        subst hc
        simp [iP] at h4
        rw [h4]
    simp [execOp, hop, hit, hrun, Result.andThen]
    have hR : RngP w' b r n G (minusP left g d) cnt' := by
      refine ⟨D, fun z => L z && !z.sameKey (ksP g d), hrg, h2, fun a b ha hb => ?_⟩
      show (L (ksP a b) && !(ksP a b).sameKey (ksP g d)) = (left a b && !decide (a = g ∧ b = d))
      rw [h3 a b ha hb]
      congr 2
      by_cases e : a = g ∧ b = d
      · obtain ⟨rfl, rfl⟩ := e
        rw [WideAt.sameKey_self (ksP_key _ _)]; simp
      · rw [decide_eq_false e]
        cases hs : (ksP a b).sameKey (ksP g d)
        · rfl
        · exact absurd (ksP_inj ha hb bg bd (WideAt.sameKey_eq hs)) e
    exact hK' _ _ (hMore g d c w' cnt' bg bd hG hR hlt hgr hsz hen)
end Go.Proofs.YtadcmngooobeiabGreat

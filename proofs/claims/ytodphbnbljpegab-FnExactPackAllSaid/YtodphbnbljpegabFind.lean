/- Contracts of FindThing, both texts. -/
import Derived.Test.YtodphbnbljpegabThings
import Derived.Test.YtodphbnbljpegabThM2
import Derived.Test.YtodphbnbljpegabBa
import Derived.Shelf.Abstract
namespace Go.Proofs.Ytodphbnbljpegab
open Go.RowKit
set_option maxRecDepth 100000 in
set_option maxHeartbeats 1000000 in
theorem find_same (id : Int) (A : Option Addr) (ca : Nat) (l : List Th) (w : World) (hA : InK 6 thC w A l) (hn : l.length ≤ 1048576) :
    Calls Try.prog 66 #[.slice A l.length ca, .int .i64 id] w fun e w' => e = .returned (.int .i64 (fnd l id)) ∧ w' = w := by
  have HA := Lib.hid hA; clear hA
  go_enter Try.func66, Try.ntmps66
  go_wp2
  go_loop [5] (fun i => ∃ k : Nat, k ≤ l.length ∧ i = .int .i64 k ∧ Hid (∀ j (hj : j < l.length), j < k → l[j].d ≠ id)) (fun i => l.length - (intOf i).toNat)
  case atStart => exact ⟨0, Nat.zero_le _, rfl, Lib.hid (fun j _ h => by omega)⟩
  case round =>
    obtain ⟨k, hk, rfl, hd⟩ := hrel
    by_cases hlt : (k : Int) < (l.length : Int)
    · have hkn : k < l.length := by omega
      obtain ⟨g, rfl, hg, c0, _, _, _, _, _⟩ := HA.out.th k hkn
      by_cases h1 : l[k].d = id
      · have HN := Lib.hid (fnd_hit hkn h1 (fun j hj => hd.out j (by omega) hj))
        have hq : (l[k].d == id) = true := by simpa using h1
        clear h1
        generalize l[k].d = y at *
        go_wp2
        go_ret
        exact ⟨ret_int HN.out.symm, rfl⟩
      · have hq : (l[k].d == id) = false := by simpa using h1
        have HN := Lib.hid h1
        clear h1
        obtain ⟨y, hy⟩ : ∃ y, y = l[k].d := ⟨_, rfl⟩
        rw [← hy] at c0 hq
        clear hy
        go_wp2
        go_round
        case rel => exact ⟨k + 1, by omega, by go_num, Lib.hid (fun j hj hjk => by
          by_cases e : j = k
          · subst e; exact HN.out
          · exact hd.out j hj (by omega))⟩
        case measure => simp [intOf]; omega
    · obtain rfl : k = l.length := by omega
      have HN := Lib.hid (fnd_miss (l := l) (id := id) (fun t ht => by
        obtain ⟨j, hj, rfl⟩ := List.getElem_of_mem ht
        exact hd.out j hj hj))
      clear hd
      go_wp2
      go_ret
      exact ⟨ret_int HN.out.symm, rfl⟩
theorem find_spec (id : Int) (A : Option Addr) (ca : Nat) (l : List Th) (w : World) (hA : InK 6 thC w A l) (hn : l.length ≤ 1048576) :
    Calls Try.prog 66 #[.slice A l.length ca, .int .i64 id] w fun e w' => e = .returned (.int .i64 (fnd l id)) ∧ Below w.heap.size w w' :=
  (find_same id A ca l w hA hn).mono fun _ _ ⟨h1, h2⟩ => ⟨h1, by rw [h2]; exact Below.refl _ _⟩
/-- a predicate on things that lays blocks of its own and turns nothing -/
def Says (g : Nat) (lb : Array Value) (p : Th → Bool) (w : World) : Prop :=
  ∀ (W : World) (t : Th), Below w.heap.size w W → Calls Try.prog g (#[.agg #[.int .i64 t.d, .int .i64 t.o, .int .i64 t.r, .int .i64 t.n, .bool t.x, .bool t.s]] ++ lb) W fun e w' => e = .returned (.bool (p t)) ∧ Below W.heap.size W w'
/-- the closure of FindThing: an Id that lies in a cell of the caller's -/
theorem find_says (id : Int) (B : Nat) (w : World) (hB : B < w.heap.size) (hc : w.cell? ⟨B, 0, none⟩ = some (.int .i64 id)) : Says 116 #[.pointer (some ⟨B, 0, none⟩)] (fun t => t.d == id) w := fun W x hb => by
  have hc : W.cell? ⟨B, 0, none⟩ = some (.int .i64 id) := (hb.cell (p := ⟨B, 0, none⟩) hB).trans hc
  have hBW : B < W.heap.size := Nat.lt_of_lt_of_le hB hb.size
  have hne : B ≠ W.heap.size := by omega
  show Calls Try.prog 116 #[.agg #[.int .i64 x.d, .int .i64 x.o, .int .i64 x.r, .int .i64 x.n, .bool x.x, .bool x.s], .pointer (some ⟨B, 0, none⟩)] W _
  go_enter Try.func116, Try.ntmps116
  go_wp2
  all_goals (go_ret; exact ⟨rfl, (Below.refl _ _).alloc (Nat.le_refl _) _⟩)
set_option maxRecDepth 100000 in
set_option maxHeartbeats 2000000 in
theorem idxf (p : Th → Bool) (gf : Nat) (lb : Array Value) (eg : ∀ args w, (callFunc gf args).run Try.prog w = .ok (.enter gf args) w) (A : Option Addr) (ca : Nat) (l : List Th) (w : World) (hA : InK 6 thC w A l) (hn : l.length ≤ 1048576) (hs : Says gf lb p w) :
    Calls Try.prog 115 #[.slice A l.length ca, .func (.func gf) #[] lb] w fun e w' => e = .returned (.int .i64 (fndP l p)) ∧ Below w.heap.size w w' := by
  have HA := Lib.hid hA; clear hA
  have HS := Lib.hid hs; clear hs
  go_enter Try.func115, Try.ntmps115
  go_wp2
  go_loopw [8] (fun i wr => ∃ k : Nat, k ≤ l.length ∧ i = .int .i64 k ∧ Hid (∀ j (_ : j < l.length), j < k → p l[j] = false) ∧ Below w.heap.size w wr) (fun i _ => l.length - (intOf i).toNat)
  case atStart => exact ⟨0, Nat.zero_le _, rfl, Lib.hid (fun j _ h => by omega), Below.refl _ _⟩
  case round =>
    obtain ⟨k, hk, rfl, hd, hb⟩ := hrel
    by_cases hlt : (k : Int) < (l.length : Int)
    · have hkn : k < l.length := by omega
      obtain ⟨g, rfl, hg, c0, c1, c2, c3, c4, c5⟩ := (HA.out.below hb).th k hkn
      have HC := Lib.hid (HS.out wr l[k] hb)
      have hbz := hb.size
      have HP := Lib.hid (fun h => fndP_hit hkn h hd.out)
      have HQ := Lib.hid (fun (h : p l[k] = false) j (hj : j < l.length) (hjk : j < k + 1) => show p l[j] = false by
        by_cases e : j = k
        · subst e; exact h
        · exact hd.out j hj (by omega))
      clear hd
      generalize l[k] = y at *
      cases hq : p y with
      | true =>
        rw [hq] at HC
        have HV := Lib.hid (HP.out hq)
        clear HP HQ hq
        go_wp2_with (go_at_fn gf; refine HC.out.mono ?_; rintro e w' ⟨rfl, hb'⟩)
        go_ret
        exact ⟨ret_int HV.out.symm, hb.trans (hb'.mono hbz)⟩
      | false =>
        rw [hq] at HC
        have HV := Lib.hid (HQ.out hq)
        clear HP HQ hq
        go_wp2_with (go_at_fn gf; refine HC.out.mono ?_; rintro e w' ⟨rfl, hb'⟩)
        go_roundw
        case rel => exact ⟨k + 1, by omega, by go_num, HV, hb.trans (hb'.mono hbz)⟩
        case measure => simp [intOf]; omega
    · obtain rfl : k = l.length := by omega
      have HV := Lib.hid (fndP_miss (fun j hj => hd.out j hj hj))
      clear hd
      go_wp2
      go_ret
      exact ⟨ret_int HV.out.symm, hb⟩
set_option maxRecDepth 100000 in
set_option maxHeartbeats 2000000 in
theorem find_impl (id : Int) (A : Option Addr) (ca : Nat) (l : List Th) (w : World) (hA : InK 6 thC w A l) (hn : l.length ≤ 1048576) :
    Calls Try.prog 63 #[.slice A l.length ca, .int .i64 id] w fun e w' => e = .returned (.int .i64 (fnd l id)) ∧ Below w.heap.size w w' := by
  have eg : ∀ args w, (callFunc 116 args).run Try.prog w = .ok (.enter 116 args) w := enters_of Try.func116 (by kernel_rfl) rfl
  have hmf : ∀ (fn : Fn) (first cap : Array Value) (w : World), (Instr.makeFunc fn first cap).run Try.prog w = .ok (.func fn first cap) w := fun _ _ _ _ => rfl
  have hb1 := (Below.refl w.heap.size w).alloc (Nat.le_refl _) (.cells #[.int .i64 id] 3)
  have HC := Lib.hid (idxf (fun t => t.d == id) 116 #[.pointer (some ⟨w.heap.size, 0, none⟩)] eg A ca l (w.alloc (.cells #[.int .i64 id] 3)) (hA.below hb1) hn (find_says id w.heap.size _ (by simp) (by simp)))
  rw [← fnd_P] at HC
  have HB := Lib.hid hb1
  clear eg hA hb1
  go_enter Try.func63, Try.ntmps63
  go_wp2_with fail
  refine HC.out.mono ?_; rintro e w1 ⟨rfl, hb2⟩
  go_wp2
  go_ret
  exact ⟨rfl, HB.out.trans (hb2.mono (by simp))⟩
theorem lock_says (w : World) : Says 211 #[] (fun t => t.s) w := fun W x hb => by
  show Calls Try.prog 211 #[.agg #[.int .i64 x.d, .int .i64 x.o, .int .i64 x.r, .int .i64 x.n, .bool x.x, .bool x.s]] W _
  go_enter Try.func211, Try.ntmps211
  go_wp2
  all_goals (go_ret; exact ⟨rfl, (Below.refl _ _).alloc (Nat.le_refl _) _⟩)
theorem contf (p : Th → Bool) (gf : Nat) (lb : Array Value) (eg : ∀ args w, (callFunc gf args).run Try.prog w = .ok (.enter gf args) w) (A : Option Addr) (ca : Nat) (l : List Th) (w : World) (hA : InK 6 thC w A l) (hn : l.length ≤ 1048576) (hs : Says gf lb p w) :
    Calls Try.prog 210 #[.slice A l.length ca, .func (.func gf) #[] lb] w fun e w' => e = .returned (.bool (l.any p)) ∧ Below w.heap.size w w' := by
  have HC := Lib.hid (idxf p gf lb eg A ca l w hA hn hs)
  have HV := Lib.hid (fndP_any l p)
  generalize fndP l p = V at *
  clear eg hs hA
  go_enter Try.func210, Try.ntmps210
  go_wp2_with fail
  refine HC.out.mono ?_; rintro e w1 ⟨rfl, hb2⟩
  go_wp2
  go_ret
  exact ⟨ret_bool HV.out, hb2⟩
end Go.Proofs.Ytodphbnbljpegab

/- slices.EqualFunc at orders. Written by mk/same3.py. -/
import Derived.Test.YtgidonhihgcadaaSameOI
import Derived.Shelf.Abstract
namespace Go.Proofs.Ytgidonhihgcadaa
open Go.RowKit
set_option maxRecDepth 100000 in
set_option maxHeartbeats 4000000 in
theorem equalF (A B : Option Addr) (ca cb : Nat) (a b : List OrR) (w : World) (hA : InK 11 orC w A a) (hB : InK 11 orC w B b) (hI : ∀ z ∈ a, InK 2 tpC w z.A z.h) (hJ : ∀ z ∈ b, InK 2 tpC w z.A z.h) (hs : ∀ z ∈ a, z.h.length ≤ 1048576) (hn : a.length ≤ 1048576) :
    Calls Try.prog 34 #[.slice A a.length ca, .slice B b.length cb, .func (.func 35) #[] #[]] w fun e w' => e = .returned (.bool (eqL (fun x y : OrR => eqO x.d y.d) a b)) ∧ Below w.heap.size w w' := by
  have HA := Lib.hid hA; have HB := Lib.hid hB; have HI := Lib.hid hI; have HJ := Lib.hid hJ; have HS := Lib.hid hs; clear hA hB hI hJ hs
  have eg : ∀ args w, (callFunc 35 args).run Try.prog w = .ok (.enter 35 args) w := enters_of Try.func35 (by kernel_rfl) rfl
  by_cases hl : a.length = b.length
  · have hlb : ((a.length : Int) != (b.length : Int)) = false := by simp [hl]
    replace hl := Lib.hid hl
    go_enter Try.func34, Try.ntmps34
    go_wp2
    go_loopw [17] (fun i wr => ∃ k : Nat, i = .int .i64 k ∧ k ≤ a.length ∧ Hid (∀ j (ha : j < a.length) (hb : j < b.length), j < k → (fun x y : OrR => eqO x.d y.d) a[j] b[j] = true) ∧ Hid (Below w.heap.size w wr)) (fun i _ => a.length - (intOf i).toNat)
    case atStart => exact ⟨0, rfl, Nat.zero_le _, Lib.hid (fun j _ _ h => absurd h (by omega)), Lib.hid (Below.refl _ _)⟩
    case round =>
      obtain ⟨k, rfl, hk, hall, hbw⟩ := hrel
      by_cases hlt : (k : Int) < (a.length : Int)
      · have hka : k < a.length := by omega
        have hkb : k < b.length := by have := hl.out; omega
        obtain ⟨ga, rfl, hga, c0_, c1_, c2_, c3_, c4_, c5_, c6_, c7_, c8_, c9_, c10_⟩ := (HA.out.below hbw.out).or k hka
        obtain ⟨gb, rfl, hgb, d0_, d1_, d2_, d3_, d4_, d5_, d6_, d7_, d8_, d9_, d10_⟩ := (HB.out.below hbw.out).or k hkb
        have HX := Lib.hid (fun W (h : Below wr.heap.size wr W) => same_or a[k] b[k] W (((HI.out _ (List.getElem_mem hka)).below hbw.out).below h) (((HJ.out _ (List.getElem_mem hkb)).below hbw.out).below h) (HS.out _ (List.getElem_mem hka)))
        have HH := Lib.hid (fun h => eqL_no (q := (fun x y : OrR => eqO x.d y.d)) hka hkb h)
        have HN := Lib.hid (fun (h : (fun x y : OrR => eqO x.d y.d) a[k] b[k] = true) j (ha : j < a.length) (hb : j < b.length) (hjk : j < k + 1) => show (fun x y : OrR => eqO x.d y.d) a[j] b[j] = true by
          by_cases e : j = k
          · subst e; exact h
          · exact hall.out j ha hb (by omega))
        clear hall
        dsimp only at HH HN
        generalize a[k] = y at *
        generalize b[k] = z at *
        have hb2 := ((Below.refl wr.heap.size wr).alloc (Nat.le_refl _) (.cells ⟨[.string y.f, .string y.t, .int .i64 y.s, .int .i64 y.m, .int .i64 y.a, .int .i64 y.u, .slice y.A y.h.length y.k, .int .i64 y.g, .int .i64 y.z, .string y.p, .int .i64 y.e]⟩ 54)).alloc (by simp) (.cells ⟨[.string z.f, .string z.t, .int .i64 z.s, .int .i64 z.m, .int .i64 z.a, .int .i64 z.u, .slice z.A z.h.length z.k, .int .i64 z.g, .int .i64 z.z, .string z.p, .int .i64 z.e]⟩ 54)
        have HX2 := Lib.hid (HX.out _ hb2)
        have hbz := hb2.size
        have HB2 := Lib.hid (hbw.out.trans (hb2.mono hbw.out.size)); have HBZ := Lib.hid (Nat.le_trans hbw.out.size hbz)
        clear HX hb2 hbz
        cases hq : eqO y.d z.d with
        | true =>
          rw [hq] at HX2
          have HVN := Lib.hid (HN.out hq)
          clear HH HN hq
          go_wp2_with (go_at_fn 35; refine HX2.out.mono ?_; rintro e w' ⟨rfl, hb'⟩)
          go_roundw
          case rel => exact ⟨k + 1, by go_num, by omega, HVN, Lib.hid (HB2.out.trans (hb'.mono HBZ.out))⟩
          case measure => simp [intOf]; omega
        | false =>
          rw [hq] at HX2
          have HV := Lib.hid (HH.out hq)
          clear HH HN hq
          go_wp2_with (go_at_fn 35; refine HX2.out.mono ?_; rintro e w' ⟨rfl, hb'⟩)
          go_ret
          exact ⟨by rw [HV.out]; rfl, HB2.out.trans (hb'.mono HBZ.out)⟩
      · obtain rfl : k = a.length := by omega
        have HV := Lib.hid (eqL_yes (q := (fun x y : OrR => eqO x.d y.d)) hl.out (fun j ha hb => hall.out j ha hb ha))
        clear hall
        go_wp2
        go_ret
        exact ⟨by rw [HV.out]; rfl, hbw.out⟩
  · have hlb : ((a.length : Int) != (b.length : Int)) = true := by simp; omega
    have HV := Lib.hid (eqL_len (q := (fun x y : OrR => eqO x.d y.d)) hl)
    go_enter Try.func34, Try.ntmps34
    go_wp2
    go_ret
    exact ⟨by rw [HV.out]; rfl, Below.refl _ _⟩
end Go.Proofs.Ytgidonhihgcadaa

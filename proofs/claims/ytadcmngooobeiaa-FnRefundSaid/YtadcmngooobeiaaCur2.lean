/- Draws out of short lists; a new cursor. -/
import Derived.Test.YtadcmngooobeiaaCur
namespace Go.Proofs.Ytadcmngooobeiaa
open Go.RowKit
theorem CurOK.keep {w w' : World} {g : Nat} (h : CurOK w g) (hg : g < w.heap.size) (hb : Below w.heap.size w w') : CurOK w' g := by
  obtain ⟨A, n, cap, k, x, h1, h2, h3, h4⟩ := h
  exact ⟨A, n, cap, k, x, by rw [hb.block g hg, h1], h2, h3, h4.keep (only_of_below hb g)⟩
theorem CurOK.lt {w : World} {g : Nat} (h : CurOK w g) : g < w.heap.size := by
  obtain ⟨A, n, cap, k, x, h1, _⟩ := h
  exact (Array.getElem?_eq_some_iff.1 h1).1
theorem CurOK.alloc {w : World} {g : Nat} (h : CurOK w g) (o : Obj) : CurOK (w.alloc o) g := h.keep h.lt ((Below.refl _ _).alloc (Nat.le_refl _) _)
def i64B (x : Int) : Prop := -9223372036854775808 ≤ x ∧ x ≤ 9223372036854775807
def okInt : Value → Bool
  | .int .i64 x => decide (-9223372036854775808 ≤ x ∧ x ≤ 9223372036854775807)
  | _ => false
def okStr : Value → Bool
  | .string s => decide (s.size ≤ 64)
  | _ => false
set_option maxRecDepth 100000 in
set_option maxHeartbeats 1000000 in
theorem int_new (g m : Nat) (u : World) (cs : Array Value) (T : TypeId) (hc : CurOK u g) (hm : cs.size = m) (hm0 : 0 < m) (hm1 : m ≤ 1000) (hok : cs.toList.all okInt = true) :
    Calls Try.prog 77 #[.pointer (some ⟨g, 0, none⟩), .slice (some ⟨u.heap.size, 0, none⟩) m m] (u.alloc (.cells cs T)) fun e w' => (∃ x : Int, i64B x ∧ e = .returned (.int .i64 x)) ∧ CurOK w' g ∧ u.grownBy w' (some g) := by
  have hgl := hc.lt
  have HC := Lib.hid (hc.alloc (.cells cs T))
  have ho := only_of_below ((Below.refl u.heap.size u).alloc (Nat.le_refl _) (.cells cs T)) g
  have hblk : (u.alloc (.cells cs T)).heap[u.heap.size]? = some (.cells cs T (0, 0)) := heap_alloc_new u _
  have hzu : u.heap.size < (u.alloc (.cells cs T)).heap.size := by simp
  generalize hb : u.heap.size = b at *
  have hne : b ≠ g := by omega
  generalize u.alloc (.cells cs T) = W at *
  have HBK := Lib.hid hblk; clear hblk hb hc
  go_enter Try.func77, Try.ntmps77
  go_wp2_with fail
  refine (below_any g m _ (by omega) HC.out).mono ?_; rintro e w1 ⟨⟨x, hx0, hx1, _, rfl⟩, hc1, ho1⟩
  have hxm := hx1 (by omega)
  obtain ⟨k, rfl⟩ := Int.eq_ofNat_of_zero_le hx0
  clear hx0 hx1
  have hk : k < cs.size := by omega
  have hkm : k < m := by omega
  have hcell : w1.cell? ⟨b, k, none⟩ = some (cs[k]) := by
    rw [cell_of_row w1 b k cs T (0, 0) ((ho1.block b hzu (fun e => by injection e with e; exact hne e)).trans HBK.out)]
    exact Array.getElem?_eq_getElem hk
  have hmem : okInt cs[k] = true := by
    rw [List.all_eq_true] at hok
    exact hok _ (by simp)
  have H1 := Lib.hid hc1; clear hc1 hok
  match hv : cs[k], hmem with
  | .int .i64 y, hmem =>
    rw [hv] at hcell
    have hy : i64B y := by unfold i64B; simpa [okInt] using hmem
    have HY := Lib.hid hy
    clear hmem hv hy
    go_wp2
    go_ret
    exact ⟨⟨y, HY.out, rfl⟩, H1.out, only_trans ho ho1⟩
end Go.Proofs.Ytadcmngooobeiaa

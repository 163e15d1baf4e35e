/- The draws of zones. -/
import Derived.Test.YtichnpjpldkceaaDraw
import Derived.Test.YtichnpjpldkceaaZone
namespace Go.Proofs.Ytichnpjpldkceaa
open Go.RowKit
/-- a slice of zones of the call's own, with short texts -/
def ZnsV (w : World) (base : Nat) (m : Nat) (e : Ending) : Prop := ∃ (v : Value) (l : List Zn), e = .returned v ∧ OwnK 123 2 zC w base v l ∧ (∀ z ∈ l, z.1.size ≤ 64 ∧ z.2.size ≤ 64) ∧ l.length ≤ m
theorem own_lit {w : World} {base g : Nat} {T : TypeId} (l : List Zn) (h : w.heap[g]? = some (.cells (l.flatMap zC).toArray T (0, 0))) (hb : base ≤ g) (hl : l.length ≤ 64) :
    OwnK T 2 zC w base (.slice (some ⟨g, 0, none⟩) l.length l.length) l := by
  have hl2 := flat_len zC_len l
  exact ⟨hl2, .inr ⟨g, l.length, _, rfl, hb, h, Nat.le_refl _, by unfold maxLen; omega, by rw [List.size_toArray, hl2], by show List.take (l.length * 2) (l.flatMap zC) = _; rw [← hl2, List.take_length]⟩⟩
theorem five (w : World) (o0 o1 o2 o3 o4 : Obj) :
    (((((w.alloc o0).alloc o1).alloc o2).alloc o3).alloc o4).heap[w.heap.size]? = some o0 ∧
    (((((w.alloc o0).alloc o1).alloc o2).alloc o3).alloc o4).heap[w.heap.size + 1]? = some o1 ∧
    (((((w.alloc o0).alloc o1).alloc o2).alloc o3).alloc o4).heap[w.heap.size + 1 + 1]? = some o2 ∧
    (((((w.alloc o0).alloc o1).alloc o2).alloc o3).alloc o4).heap[w.heap.size + 1 + 1 + 1]? = some o3 ∧
    (((((w.alloc o0).alloc o1).alloc o2).alloc o3).alloc o4).heap[w.heap.size + 1 + 1 + 1 + 1]? = some o4 ∧
    (((((w.alloc o0).alloc o1).alloc o2).alloc o3).alloc o4).heap.size = w.heap.size + 5 := by
  simp only [World.alloc, Array.getElem?_push, Array.size_push]
  refine ⟨?_, ?_, ?_, ?_, ?_, trivial⟩
  all_goals (repeat rw [if_neg (by omega)])
  all_goals exact if_pos trivial
set_option maxRecDepth 100000 in
set_option maxHeartbeats 1000000 in
theorem zones_draw (g : Nat) (w : World) (hc : CurOK w g) :
    Calls Try.prog 114 #[.pointer (some ⟨g, 0, none⟩)] w fun e w' => ZnsV w' w.heap.size 3 e ∧ CurOK w' g ∧ w.grownBy w' (some g) := by
  have hgl := hc.lt
  have HC := Lib.hid hc; clear hc
  go_enter Try.func114, Try.ntmps114
  go_wp2_with fail
  have hcW := ((((HC.out.alloc (.cells #[.string ⟨#[65, 77, 83]⟩, .string ⟨#[67, 68, 71]⟩, .string ⟨#[68, 85, 66]⟩, .string ⟨#[71, 79, 84]⟩] 123)).alloc (.cells #[.string ⟨#[65, 65, 65]⟩, .string ⟨#[90, 90, 90]⟩] 123)).alloc (.cells #[.string ⟨#[65, 77, 83]⟩, .string ⟨#[65, 77, 83]⟩, .string ⟨#[66, 82, 85]⟩, .string ⟨#[69, 68, 73]⟩, .string ⟨#[70, 82, 65]⟩, .string ⟨#[70, 82, 65]⟩] 123)).alloc (.cells #[] 123)).alloc (.cells #[.slice (some ⟨w.heap.size, 0, none⟩) 2 2, .slice (some ⟨w.heap.size + 1, 0, none⟩) 1 1, .slice (some ⟨w.heap.size + 1 + 1, 0, none⟩) 3 3, .slice (some ⟨w.heap.size + 1 + 1 + 1, 0, none⟩) 0 0] 30)
  have hoW := only_alloc (only_alloc (only_alloc (only_alloc (only_alloc (only_refl w (some g)) (.cells #[.string ⟨#[65, 77, 83]⟩, .string ⟨#[67, 68, 71]⟩, .string ⟨#[68, 85, 66]⟩, .string ⟨#[71, 79, 84]⟩] 123)) (.cells #[.string ⟨#[65, 65, 65]⟩, .string ⟨#[90, 90, 90]⟩] 123)) (.cells #[.string ⟨#[65, 77, 83]⟩, .string ⟨#[65, 77, 83]⟩, .string ⟨#[66, 82, 85]⟩, .string ⟨#[69, 68, 73]⟩, .string ⟨#[70, 82, 65]⟩, .string ⟨#[70, 82, 65]⟩] 123)) (.cells #[] 123)) (.cells #[.slice (some ⟨w.heap.size, 0, none⟩) 2 2, .slice (some ⟨w.heap.size + 1, 0, none⟩) 1 1, .slice (some ⟨w.heap.size + 1 + 1, 0, none⟩) 3 3, .slice (some ⟨w.heap.size + 1 + 1 + 1, 0, none⟩) 0 0] 30)
  have h5 := five w (.cells #[.string ⟨#[65, 77, 83]⟩, .string ⟨#[67, 68, 71]⟩, .string ⟨#[68, 85, 66]⟩, .string ⟨#[71, 79, 84]⟩] 123) (.cells #[.string ⟨#[65, 65, 65]⟩, .string ⟨#[90, 90, 90]⟩] 123) (.cells #[.string ⟨#[65, 77, 83]⟩, .string ⟨#[65, 77, 83]⟩, .string ⟨#[66, 82, 85]⟩, .string ⟨#[69, 68, 73]⟩, .string ⟨#[70, 82, 65]⟩, .string ⟨#[70, 82, 65]⟩] 123) (.cells #[] 123) (.cells #[.slice (some ⟨w.heap.size, 0, none⟩) 2 2, .slice (some ⟨w.heap.size + 1, 0, none⟩) 1 1, .slice (some ⟨w.heap.size + 1 + 1, 0, none⟩) 3 3, .slice (some ⟨w.heap.size + 1 + 1 + 1, 0, none⟩) 0 0] 30)
  clear HC
  generalize World.alloc _ _ = W at *
  refine (below_any g 4 _ (by omega) hcW).mono ?_; rintro e w1 ⟨⟨x, hx0, hx1, _, rfl⟩, hc1, ho1⟩
  have hx4 := hx1 (by omega)
  clear hx1 hcW
  obtain ⟨f0, f1, f2, f3, f4, hsz⟩ := h5
  have q0 := Lib.hid ((ho1.block _ (by omega) (fun e => by injection e with e; omega)).trans f0)
  have q1 := Lib.hid ((ho1.block _ (by omega) (fun e => by injection e with e; omega)).trans f1)
  have q2 := Lib.hid ((ho1.block _ (by omega) (fun e => by injection e with e; omega)).trans f2)
  have q3 := Lib.hid ((ho1.block _ (by omega) (fun e => by injection e with e; omega)).trans f3)
  have q4 := (ho1.block _ (by omega) (fun e => by injection e with e; omega)).trans f4
  clear f0 f1 f2 f3 f4
  have H1 := Lib.hid hc1; clear hc1
  have HO := Lib.hid (only_trans hoW ho1)
  have hcs : x = 0 ∨ x = 1 ∨ x = 2 ∨ x = 3 := by omega
  rcases hcs with h | h | h | h
  · subst h
    have c0 : w1.cell? ⟨w.heap.size + 1 + 1 + 1 + 1, 0, none⟩ = some (.slice (some ⟨w.heap.size, 0, none⟩) 2 2) := by rw [cell_of_row _ _ 0 _ _ _ q4]; rfl
    go_wp2
    go_ret
    exact ⟨⟨_, [(⟨#[65, 77, 83]⟩, ⟨#[67, 68, 71]⟩), (⟨#[68, 85, 66]⟩, ⟨#[71, 79, 84]⟩)], rfl, own_lit [_, _] q0.out (by omega) (by simp), by decide, by simp⟩, H1.out, HO.out⟩
  · subst h
    have c0 : w1.cell? ⟨w.heap.size + 1 + 1 + 1 + 1, 1, none⟩ = some (.slice (some ⟨w.heap.size + 1, 0, none⟩) 1 1) := by rw [cell_of_row _ _ 1 _ _ _ q4]; rfl
    go_wp2
    go_ret
    exact ⟨⟨_, [(⟨#[65, 65, 65]⟩, ⟨#[90, 90, 90]⟩)], rfl, own_lit [_] q1.out (by omega) (by simp), by decide, by simp⟩, H1.out, HO.out⟩
  · subst h
    have c0 : w1.cell? ⟨w.heap.size + 1 + 1 + 1 + 1, 2, none⟩ = some (.slice (some ⟨w.heap.size + 1 + 1, 0, none⟩) 3 3) := by rw [cell_of_row _ _ 2 _ _ _ q4]; rfl
    go_wp2
    go_ret
    exact ⟨⟨_, [(⟨#[65, 77, 83]⟩, ⟨#[65, 77, 83]⟩), (⟨#[66, 82, 85]⟩, ⟨#[69, 68, 73]⟩), (⟨#[70, 82, 65]⟩, ⟨#[70, 82, 65]⟩)], rfl, own_lit [_, _, _] q2.out (by omega) (by simp), by decide, by simp⟩, H1.out, HO.out⟩
  · subst h
    have c0 : w1.cell? ⟨w.heap.size + 1 + 1 + 1 + 1, 3, none⟩ = some (.slice (some ⟨w.heap.size + 1 + 1 + 1, 0, none⟩) 0 0) := by rw [cell_of_row _ _ 3 _ _ _ q4]; rfl
    go_wp2
    go_ret
    exact ⟨⟨_, [], rfl, own_lit [] q3.out (by omega) (by simp), by simp, by simp⟩, H1.out, HO.out⟩
end Go.Proofs.Ytichnpjpldkceaa

/- The laws' marks on a slice of texts, and the test that two slices of texts are alike. -/
import Derived.Test.YtinijleelhbpoaaStrs
import Derived.Test.YtinijleelhbpoaaDecM
import Derived.Test.YtinijleelhbpoaaConv1
import Derived.Test.YtinijleelhbpoaaOnly
import Derived.Deep.RegionWith
import Derived.Deep.RegionHeld3
import Derived.Laws.OwnMore
import Derived.WalkKit
namespace Go.Proofs.Ytinijleelhbpoaa
open Go.RowKit
def mtxt (k : Nat) : ByteArray := ⟨#[109]⟩ ++ ⟨(Lib.itoa k).toArray⟩
def mks (k n : Nat) : List ByteArray := (List.range n).map fun i => mtxt (k + i)
theorem mks_len (k0 j : Nat) (l : List ByteArray) (hj : j ≤ l.length) : (mks k0 j ++ l.drop j).length = l.length := by simp [mks]; omega
theorem mks_set (k0 j : Nat) (l : List ByteArray) (hj : j < l.length) : strV (mks k0 (j + 1) ++ l.drop (j + 1)) = (strV (mks k0 j ++ l.drop j)).set j (.string (mtxt (k0 + j))) := by
  have e : l.drop j = l[j] :: l.drop (j + 1) := List.drop_eq_getElem_cons hj
  have hl : (mks k0 j).length = j := by simp [mks]
  rw [e]
  simp only [strV, List.map_append, List.map_cons]
  rw [List.set_append_right _ _ (by simp [hl])]
  simp [mks, List.range_succ]
set_option maxRecDepth 100000 in
set_option maxHeartbeats 400000 in
theorem eq_strs (v u : Value) (l : List ByteArray) (b c : Nat) (w : World) (hv : OwnStr w b v l) (hu : OwnStr w c u l) (hn : l.length ≤ 4000000) :
    Calls Try.prog 13 #[v, u] w fun e w' => e = .returned (.bool true) ∧ Below w.heap.size w w' := by
  by_cases hl : l = []
  · subst hl
    obtain ⟨cv, A, rfl⟩ : ∃ (cv : Nat) (A : Option Addr), v = .slice A 0 cv := by
      rcases hv.2 with ⟨h, _⟩ | ⟨g, cap, _, h, _⟩
      · exact ⟨_, _, h⟩
      · exact ⟨_, _, h⟩
    obtain ⟨cu, B, rfl⟩ : ∃ (cu : Nat) (B : Option Addr), u = .slice B 0 cu := by
      rcases hu.2 with ⟨h, _⟩ | ⟨g, cap, _, h, _⟩
      · exact ⟨_, _, h⟩
      · exact ⟨_, _, h⟩
    go_enter Try.func13, Try.ntmps13
    go_wp2
    go_loopw [5] (fun i wr => i = .int .i64 0 ∧ wr = w) (fun _ _ => 0)
    case atStart => exact ⟨rfl, rfl⟩
    case round =>
      obtain ⟨rfl, rfl⟩ := hrel
      go_wp2
      go_ret
      exact ⟨rfl, Below.refl _ _⟩
  · have hne : 0 < l.length := List.length_pos_iff.2 hl
    obtain ⟨g, cap, rfl⟩ : ∃ g cap, v = .slice (some ⟨g, 0, none⟩) l.length cap := by
      rcases hv.2 with ⟨_, h⟩ | ⟨g, cap, _, h, _⟩
      · omega
      · exact ⟨_, _, h⟩
    obtain ⟨g', cap', rfl⟩ : ∃ g cap, u = .slice (some ⟨g, 0, none⟩) l.length cap := by
      rcases hu.2 with ⟨_, h⟩ | ⟨g, cap, _, h, _⟩
      · omega
      · exact ⟨_, _, h⟩
    have hc1 : ∀ j (hj : j < l.length), w.cell? ⟨g, j, none⟩ = some (.string l[j]) := fun j hj => by
      have h := World.ownsRow.cellAt (w := w) (base := b) (e := 9) (size := 1) hv j (by omega)
      rw [h]; simp [strV, hj]
    have hc2 : ∀ j (hj : j < l.length), w.cell? ⟨g', j, none⟩ = some (.string l[j]) := fun j hj => by
      have h := World.ownsRow.cellAt (w := w) (base := c) (e := 9) (size := 1) hu j (by omega)
      rw [h]; simp [strV, hj]
    have HC1 := Lib.hid hc1; have HC2 := Lib.hid hc2
    clear hc1 hc2 hv hu hl
    have hlb : ((l.length : Int) != (l.length : Int)) = false := by simp
    go_enter Try.func13, Try.ntmps13
    go_wp2
    go_loopw [5] (fun i wr => ∃ j : Nat, j ≤ l.length ∧ i = .int .i64 j ∧ Below w.heap.size w wr ∧ (∀ a, wr.cell? a = w.cell? a)) (fun i _ => l.length - (intOf i).toNat)
    case atStart => exact ⟨0, Nat.zero_le _, rfl, Below.refl _ _, fun _ => rfl⟩
    case round =>
      obtain ⟨j, hj, rfl, hb, hsame⟩ := hrel
      have HS := Lib.hid hsame; clear hsame
      by_cases hlt : (j : Int) < (l.length : Int)
      · have hjn : j < l.length := by omega
        have k1 := (HS.out _).trans (HC1.out j hjn)
        have k2 := (HS.out _).trans (HC2.out j hjn)
        have hq : (l[j].toList != l[j].toList) = false := by simp
        go_wp2_with fail
        go_quiet (fail)
        go_wp2
        go_roundw
        case rel => exact ⟨j + 1, by omega, by go_num, below_drewN hb _, fun a => HS.out a⟩
        case measure => simp [intOf]; omega
      · go_wp2
        go_ret
        exact ⟨rfl, hb⟩
end Go.Proofs.Ytinijleelhbpoaa

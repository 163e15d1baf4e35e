/- The draws of one label, and of two. -/
import Derived.Test.YtphcjppdmdmejaaDoorDrawL
namespace Go.Proofs.YtphcjppdmdmejaaDoor
open Go.RowKit
theorem BoxW.below {W W' : World} {b : Nat} {x y : Int} {s : ByteArray} (h : BoxW W b x y s) (hb : Below W.heap.size W W') : BoxW W' b x y s := (hb.block b h.lt).trans h
set_option maxRecDepth 100000 in
set_option maxHeartbeats 1000000 in
theorem drawFormatLabel_any (A : Option Addr) (n cap : Nat) (w : World) (hn : n ≤ 4096) (hb : BytesIn w A n) :
    Calls Tryd.prog 15 #[.slice A n cap] w fun e w' => LabV e ∧ Below w.heap.size w w' := by
  have hb0 := BoxW.new w 0 0 ⟨#[]⟩
  have hbW := (Below.refl w.heap.size w).alloc (Nat.le_refl _) (.cells #[.int .i64 0, .int .i64 0, .string ⟨#[]⟩] 26)
  have HB := Lib.hid (hb.below hbW); clear hb
  go_enter Tryd.func15, Tryd.ntmps15
  go_wp2_with fail
  generalize hB : w.heap.size = B at *
  have HBE := Lib.hid hB; clear hB
  generalize w.alloc (.cells #[.int .i64 0, .int .i64 0, .string ⟨#[]⟩] 26) = W at *
  have hBl := hb0.lt
  refine (new_any A n cap _ hn HB.out).mono ?_; rintro e w1 ⟨g, rfl, hc1, hgl, hb1⟩
  have hb1' := hb0.below hb1
  have hne : B ≠ g := by omega
  have H1 := Lib.hid hc1; clear hc1
  go_wp2_with fail
  refine (any_label_draw g _ H1.out).mono ?_; rintro e w2 ⟨⟨a, b, s, ha, hbb, hs, rfl⟩, _, ho2⟩
  have HA := Lib.hid ha; have HBB := Lib.hid hbb; clear ha hbb
  have hb2 := hb1'.only ho2 hne
  obtain ⟨c0, c1, c2, f0, f1, f2⟩ := hb2.cells
  have hbz : Below B w w2 := hbW.trans ((hb1.mono (by omega)).trans (only_below ho2 (by have := hb1.size; omega) (by omega)))
  go_wp2
  exact bodyPost_ret (v := .agg #[.int .i64 a, .int .i64 b, .string s]) (by simp [results, Tryd.results15, go_sem, c0, c1, c2]) rfl
    ⟨⟨a, b, s, HA.out, HBB.out, hs, rfl⟩, by rw [HBE.out]; exact ((hbz.setCell (p := ⟨B, 0, none⟩) (Nat.le_refl _) _).setCell (p := ⟨B, 1, none⟩) (Nat.le_refl _) _).setCell (p := ⟨B, 2, none⟩) (Nat.le_refl _) _⟩
end Go.Proofs.YtphcjppdmdmejaaDoor

/- The walk of the law on ParseLabel. -/
import Derived.Test.YtphcjppdmdmejaaDoorPLab2
namespace Go.Proofs.YtphcjppdmdmejaaDoor
open Go.RowKit
set_option maxHeartbeats 400000 in
theorem eq_label_same (a b : Int) (s : ByteArray) (w : World) :
    Calls Tryd.prog 33 #[.agg #[.int .i64 a, .int .i64 b, .string s], .agg #[.int .i64 a, .int .i64 b, .string s]] w fun e w' => e = .returned (.bool true) ∧ Below w.heap.size w w' := by
  have h1 : (a != a) = false := by simp
  have h2 : (b != b) = false := by simp
  go_enter Tryd.func33, Tryd.ntmps33
  go_wp2
  go_ret
  exact ⟨rfl, ((Below.refl _ _).alloc (Nat.le_refl _) _).alloc (by simp) _⟩
namespace fnExactParseLabel
theorem unique {str : ByteArray} {a b : Int} {s : ByteArray} {a' b' : Int} {s' : ByteArray} (h : IsLab str a b s) (h' : IsLab str a' b' s') : a = a' ∧ b = b' ∧ s = s' :=
  flab_inj h.1 h'.1 (h.2.trans h'.2.symm)
set_option maxRecDepth 100000 in
set_option maxHeartbeats 1000000 in
theorem walk (s : ByteArray) (hs : s.size ≤ maxLen) (w : World) (hp : PowIs w) (he : ErrIs w "strconv.ErrRange" ∧ ErrIs w "strconv.ErrSyntax") :
    Calls Tryd.prog 11 #[.string s] w fun e w' => e = .returned (.bool true) ∧ Below w.heap.size w w' := by
  have hm := hs
  unfold maxLen at hm
  have HP := Lib.hid hp; clear hp
  have HE := Lib.hid he; clear he
  by_cases hbig : (1048576 : Int) < (s.size : Int)
  · go_enter Tryd.func11, Tryd.ntmps11
    go_wp2
    go_ret
    exact ⟨rfl, Below.refl _ _⟩
  · have main : ∀ (a b : Int) (t : ByteArray) (ok : Bool), True := fun _ _ _ _ => trivial
    clear main
    go_enter Tryd.func11, Tryd.ntmps11
    go_wp2_with fail
    refine (plab_spec _ _ (by omega)).mono ?_; rintro e w1 ⟨h1, hb1⟩
    rcases h1 with ⟨a, b, t, hl, rfl⟩ | ⟨hn, rfl⟩
    · have HL := Lib.hid hl; clear hl
      have hk := BoxW.new w1 a b t
      have hbw := hb1.alloc hb1.size (.cells #[.int .i64 a, .int .i64 b, .string t] 26)
      have hp2 := HP.out.below hbw
      have he2 := And.intro (HE.out.1.below hbw) (HE.out.2.below hbw)
      go_wp2_with fail
      generalize w1.alloc (.cells #[.int .i64 a, .int .i64 b, .string t] 26) = W at *
      refine (plab_impl _ _ (by omega) hp2 he2).mono ?_; rintro e w2 ⟨h2, hb2⟩
      clear hp2 he2
      rcases h2 with ⟨a', b', t', hl', rfl⟩ | ⟨hn, rfl⟩
      · obtain ⟨rfl, rfl, rfl⟩ := unique HL.out hl'
        clear hl'
        have hk2 := (hk.below hb2).alloc (.cells #[.int .i64 a, .int .i64 b, .string t] 26)
        have hk3 := BoxW.new w2 a b t
        have hbw2 := (hbw.trans (hb2.mono hbw.size)).alloc (by have := hbw.size; have := hb2.size; omega) (.cells #[.int .i64 a, .int .i64 b, .string t] 26)
        obtain ⟨c0, c1, c2, _, _, _⟩ := hk2.cells
        obtain ⟨d0, d1, d2, _, _, _⟩ := hk3.cells
        go_wp2_with fail
        refine (eq_label_same a b t _).mono ?_; rintro e w3 ⟨rfl, hb3⟩
        go_wp2
        go_ret
        exact ⟨rfl, hbw2.trans (hb3.mono hbw2.size)⟩
      · exact absurd HL.out (hn a b t)
    · have HN := Lib.hid hn; clear hn
      have hk := BoxW.new w1 0 0 ⟨#[]⟩
      have hbw := hb1.alloc hb1.size (.cells #[.int .i64 0, .int .i64 0, .string ⟨#[]⟩] 26)
      have hp2 := HP.out.below hbw
      have he2 := And.intro (HE.out.1.below hbw) (HE.out.2.below hbw)
      go_wp2_with fail
      generalize w1.alloc (.cells #[.int .i64 0, .int .i64 0, .string ⟨#[]⟩] 26) = W at *
      refine (plab_impl _ _ (by omega) hp2 he2).mono ?_; rintro e w2 ⟨h2, hb2⟩
      clear hp2 he2
      rcases h2 with ⟨a', b', t', hl', rfl⟩ | ⟨hn, rfl⟩
      · exact absurd hl' (HN.out a' b' t')
      · clear hn
        have hk2 := (hk.below hb2).alloc (.cells #[.int .i64 0, .int .i64 0, .string ⟨#[]⟩] 26)
        have hk3 := BoxW.new w2 0 0 ⟨#[]⟩
        have hbw2 := (hbw.trans (hb2.mono hbw.size)).alloc (by have := hbw.size; have := hb2.size; omega) (.cells #[.int .i64 0, .int .i64 0, .string ⟨#[]⟩] 26)
        obtain ⟨c0, c1, c2, _, _, _⟩ := hk2.cells
        obtain ⟨d0, d1, d2, _, _, _⟩ := hk3.cells
        go_wp2_with fail
        refine (eq_label_same 0 0 ⟨#[]⟩ _).mono ?_; rintro e w3 ⟨rfl, hb3⟩
        go_wp2
        go_ret
        exact ⟨rfl, hbw2.trans (hb3.mono hbw2.size)⟩
end fnExactParseLabel
end Go.Proofs.YtphcjppdmdmejaaDoor

/- Contracts of serves, mostLegs, timeOf, and of slices.Index and Contains on texts. -/
import Derived.Test.YtamlbiagjipedaaPlI
import Derived.Test.YtamlbiagjipedaaTripOn
namespace Go.Proofs.Ytamlbiagjipedaa
open Go.RowKit
theorem own_getD {w : World} {b g cap : Nat} {l : List ByteArray} (h : OwnStr w b (.slice (some ⟨g, 0, none⟩) l.length cap) l) : ∀ j, j < l.length → w.cell? ⟨g, 0 + j, none⟩ = some (.string (l.getD j ByteArray.empty)) := by
  intro j hj
  rw [Nat.zero_add, World.ownsRow.cellAt (w := w) (base := b) (e := 9) (size := 1) h j (by omega)]
  simp [strV, List.getD, hj]
theorem contains_own {w : World} {b : Nat} {v : Value} {l : List ByteArray} (h : OwnStr w b v l) (hl : l.length ≤ 4000000) (s : ByteArray) :
    Calls Try.prog 81 #[v, .string s] w fun e w' => e = .returned (.bool (Lib.containsS l s)) ∧ w' = w := by
  by_cases h0 : l = []
  · subst h0
    obtain ⟨A, cap, rfl⟩ := own_empty h
    exact Try.slices_Contains_string_empty A cap s w
  · obtain ⟨g, cap, rfl, _, _⟩ := own_slice h h0
    have := Try.slices_Contains_string g 0 l.length cap l s w (Nat.le_refl _) (by omega) (own_getD h)
    rwa [List.take_length] at this
theorem index_own {w : World} {b : Nat} {v : Value} {l : List ByteArray} (h : OwnStr w b v l) (hl : l.length ≤ 4000000) (s : ByteArray) :
    Calls Try.prog 94 #[v, .string s] w fun e w' => e = .returned (.int .i64 (idxI l s)) ∧ w' = w := by
  by_cases h0 : l = []
  · subst h0
    obtain ⟨A, cap, rfl⟩ := own_empty h
    exact Try.slices_Index_string_empty A cap s w
  · obtain ⟨g, cap, rfl, _, _⟩ := own_slice h h0
    have := Try.slices_Index_string g 0 l.length cap l s w (Nat.le_refl _) (by omega) (own_getD h)
    rwa [List.take_length] at this
def servB (l : List Lg) (zs : List Int) (x : Int) (s : ByteArray) : Bool := netB l zs x && Lib.containsS (placesB l) s
set_option maxRecDepth 100000 in
set_option maxHeartbeats 2000000 in
theorem serves_impl (s : ByteArray) (A : Option Addr) (ca : Nat) (l : List Lg) (D : Option Addr) (cd : Nat) (zs : List Int) (x : Int) (w : World) (hA : InK 6 lgC w A l) (hD : IntsIn w D zs) (hs : ∀ z ∈ l, z.f.size ≤ maxLen ∧ z.t.size ≤ maxLen) (hn : l.length ≤ 1048576) (hm : zs.length ≤ 1048576) :
    Calls Try.prog 69 #[.agg #[.slice A l.length ca, .slice D zs.length cd, .int .i64 x], .string s] w fun e w' => e = .returned (.bool (servB l zs x s)) ∧ Below w.heap.size w w' := by
  have hB := Box3.new (T := 32) (v0 := .slice A l.length ca) (v1 := .slice D zs.length cd) (v2 := .int .i64 x) w
  have hb0 := (Below.refl w.heap.size w).alloc (Nat.le_refl _) (.cells #[.slice A l.length ca, .slice D zs.length cd, .int .i64 x] 32)
  have H0 := Lib.hid (And.intro hB (And.intro hb0 (And.intro (hA.below hb0) (hD.below hb0)))); clear hB hb0 hA hD
  have HI := Lib.hid (fun W (h1 : InK 6 lgC W A l) (h2 : IntsIn W D zs) => is_net A ca l D cd zs x W h1 h2 hs hn hm)
  have HP := Lib.hid (fun W (h1 : InK 6 lgC W A l) => places_impl A ca l D cd zs.length x W h1 hn)
  have HL := Lib.hid (show (placesB l).length ≤ 4000000 by have := placesB_len l; omega)
  have hSB : servB l zs x s = (netB l zs x && Lib.containsS (placesB l) s) := rfl
  clear hs
  generalize servB l zs x s = R at *
  cases hnet : netB l zs x with
  | false =>
    rw [hnet] at HI hSB; clear hnet
    have HR := Lib.hid hSB; clear hSB
    go_enter Try.func69, Try.ntmps69
    go_wp2_with fail
    refine (HI.out _ H0.out.2.2.1 H0.out.2.2.2).mono ?_; rintro e w1 ⟨rfl, hb1⟩
    go_wp2
    go_ret
    exact ⟨ret_bool HR.out.symm, H0.out.2.1.trans (hb1.mono (Nat.le_of_lt H0.out.1.lt))⟩
  | true =>
    rw [hnet] at HI hSB; clear hnet
    have HR := Lib.hid hSB; clear hSB
    go_enter Try.func69, Try.ntmps69
    go_wp2_with fail
    refine (HI.out _ H0.out.2.2.1 H0.out.2.2.2).mono ?_; rintro e w1 ⟨rfl, hb1⟩
    obtain ⟨b0, b1, b2⟩ := (H0.out.1.below hb1).cells
    go_wp2_with fail
    refine (HP.out w1 (H0.out.2.2.1.below hb1)).mono ?_; rintro e w2 ⟨⟨v, rfl, hv⟩, hb2⟩
    have HC := Lib.hid (contains_own hv HL.out s)
    clear hv b0 b1 b2
    generalize Lib.containsS (placesB l) s = V at *
    go_wp2_with fail
    refine HC.out.mono ?_; rintro e w3 ⟨rfl, rfl⟩
    go_wp2
    go_ret
    exact ⟨ret_bool HR.out.symm, H0.out.2.1.trans ((hb1.trans (hb2.mono hb1.size)).mono (Nat.le_of_lt H0.out.1.lt))⟩
set_option maxRecDepth 100000 in
set_option maxHeartbeats 2000000 in
theorem most_legs (A : Option Addr) (ca : Nat) (l : List Lg) (D : Option Addr) (cd m : Nat) (x : Int) (w : World) (hA : InK 6 lgC w A l) (hn : l.length ≤ 1048576) :
    Calls Try.prog 41 #[.agg #[.slice A l.length ca, .slice D m cd, .int .i64 x]] w fun e w' => e = .returned (.int .i64 ((placesB l).length : Nat)) ∧ Below w.heap.size w w' := by
  have hB := Box3.new (T := 32) (v0 := .slice A l.length ca) (v1 := .slice D m cd) (v2 := .int .i64 x) w
  have hb0 := (Below.refl w.heap.size w).alloc (Nat.le_refl _) (.cells #[.slice A l.length ca, .slice D m cd, .int .i64 x] 32)
  have H0 := Lib.hid (And.intro hB (And.intro hb0 (hA.below hb0))); clear hB hb0 hA
  have HP := Lib.hid (fun W (h1 : InK 6 lgC W A l) => places_impl A ca l D cd m x W h1 hn)
  go_enter Try.func41, Try.ntmps41
  go_wp2_with fail
  refine (HP.out _ H0.out.2.2).mono ?_; rintro e w2 ⟨⟨v, rfl, hv⟩, hb2⟩
  have hvo : ∃ (B : Option Addr) (cap : Nat), v = .slice B (placesB l).length cap := by
    by_cases h0 : placesB l = []
    · rw [h0] at hv
      rw [h0]; exact own_empty hv
    · obtain ⟨g, cap, rfl, _⟩ := own_slice hv h0
      exact ⟨_, _, rfl⟩
  obtain ⟨B, cap, rfl⟩ := hvo
  clear hv
  go_wp2
  go_ret
  exact ⟨rfl, H0.out.2.1.trans (hb2.mono (Nat.le_of_lt H0.out.1.lt))⟩
def timeB (pl : List ByteArray) (p : ByteArray) (ts : List Int) : Int := if idxI pl p < 0 ∨ (ts.length : Int) ≤ idxI pl p then -1 else ts.getD (idxI pl p).toNat 0
theorem idxF_bd (x : ByteArray) : ∀ (zs : List ByteArray) (i : Nat), Lib.idxFromS zs x i = -1 ∨ ((i : Int) ≤ Lib.idxFromS zs x i ∧ Lib.idxFromS zs x i < (i : Int) + zs.length)
  | [], _ => .inl rfl
  | z :: zs, i => by
    unfold Lib.idxFromS
    by_cases e : z = x
    · rw [if_pos e]; simp; omega
    · rw [if_neg e]
      rcases idxF_bd x zs (i + 1) with h | h
      · exact .inl h
      · simp only [List.length_cons]; omega
theorem idxI_ge (l : List ByteArray) (p : ByteArray) : -1 ≤ idxI l p ∧ idxI l p < max 1 (l.length : Int) := by
  have h := idxF_bd p l 0
  rw [show idxI l p = Lib.idxFromS l p 0 from rfl]
  omega
end Go.Proofs.Ytamlbiagjipedaa

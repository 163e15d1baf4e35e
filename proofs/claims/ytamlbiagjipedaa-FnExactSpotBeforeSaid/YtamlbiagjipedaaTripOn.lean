/- The first trip of a leg for what has arrived at its start. -/
import Derived.Test.YtamlbiagjipedaaMapT
import Derived.Test.YtamlbiagjipedaaNext2
namespace Go.Proofs.Ytamlbiagjipedaa
open Go.RowKit
/-- the day of the next trip of a leg, -1 if nothing has arrived at its start or none runs -/
def onD (zs : List Int) (ch : Int) (fr : ByteArray) (g : Tm) (x : Lg) : Int := match g x.f with
  | none => -1
  | some a => firstD (nextP x zs (readyI ch fr x.f a)) 61
theorem onD_none {zs : List Int} {ch : Int} {fr : ByteArray} {g : Tm} {x : Lg} (h : g x.f = none) : onD zs ch fr g x = -1 := by unfold onD; rw [h]
theorem onD_some {zs : List Int} {ch : Int} {fr : ByteArray} {g : Tm} {x : Lg} {a : Int} (h : g x.f = some a) : onD zs ch fr g x = firstD (nextP x zs (readyI ch fr x.f a)) 61 := by unfold onD; rw [h]
theorem legOut_of {zs : List Int} {ch : Int} {fr : ByteArray} {g : Tm} {x : Lg} : legOut zs ch fr g x = if onD zs ch fr g x < 0 then none else some (onD zs ch fr g x * 1440 + x.s + x.k) := by
  unfold legOut onD
  cases g x.f with
  | none => rfl
  | some a => rfl
theorem onD_bd {zs : List Int} {ch : Int} {fr : ByteArray} {g : Tm} {x : Lg} : onD zs ch fr g x = -1 ∨ (0 ≤ onD zs ch fr g x ∧ onD zs ch fr g x ≤ 60) := by
  unfold onD
  cases g x.f with
  | none => exact .inl rfl
  | some a =>
    dsimp only
    rcases firstD_bd (nextP x zs (readyI ch fr x.f a)) 61 with h | h
    · by_cases h0 : firstD (nextP x zs (readyI ch fr x.f a)) 61 = -1
      · exact .inl h0
      · exact .inr (by omega)
    · exact .inl h
theorem str_ext {s t : ByteArray} (h : s.data.toList = t.data.toList) : s = t := by cases s; cases t; simp_all [Array.toList_inj]
theorem str_eq {s t : ByteArray} (h : s = t) : (s.toList == t.toList) = true := by rw [h]; simp
theorem str_ne {s t : ByteArray} (h : s ≠ t) : (s.toList == t.toList) = false := by
  have : s.toList ≠ t.toList := fun e => h (str_ext (by rw [← ByteArray.toList_eq, ← ByteArray.toList_eq]; exact e))
  simpa using this
theorem trOk_net {l : List Lg} {zs : List Int} {x : Int} {k : Nat} (h : netB l zs x = true) (hk : k < l.length) : trOk l zs x k = true := by
  unfold trOk; rw [h, decide_eq_true (by omega)]; rfl
set_option maxRecDepth 100000 in
set_option maxHeartbeats 2000000 in
theorem trip_on (fr : ByteArray) (b m : Nat) (g : Tm) (k : Nat) (A : Option Addr) (ca : Nat) (l : List Lg) (D : Option Addr) (cd : Nat) (zs : List Int) (x : Int) (w : World) (hA : InK 6 lgC w A l) (hD : IntsIn w D zs) (hs : ∀ z ∈ l, z.f.size ≤ maxLen ∧ z.t.size ≤ maxLen) (hn : l.length ≤ 1048576) (hm : zs.length ≤ 1048576)
    (hnet : netB l zs x = true) (hk : k < l.length) (hM : MapT w b m g) (hg : ∀ q v, g q = some v → 0 ≤ v ∧ v ≤ 100000) :
    Calls Try.prog 74 #[.agg #[.slice A l.length ca, .slice D zs.length cd, .int .i64 x], .string fr, .map (some b), .int .i64 (k : Int)] w fun e w' => e = .returned (trTup k (onD zs x fr g l[k])) ∧ Below w.heap.size w w' := by
  have hB := Box3.new (T := 32) (v0 := .slice A l.length ca) (v1 := .slice D zs.length cd) (v2 := .int .i64 x) w
  have hb0 := ((Below.refl w.heap.size w).alloc (Nat.le_refl _) (.cells #[.slice A l.length ca, .slice D zs.length cd, .int .i64 x] 32)).alloc (by simp) (.cells #[.int .i64 0, .int .i64 0] 45)
  replace hB := hB.below ((Below.refl _ _).alloc (Nat.le_refl _) (.cells #[.int .i64 0, .int .i64 0] 45))
  have hT := Box2.new (T := 45) (v0 := .int .i64 0) (v1 := .int .i64 0) (w.alloc (.cells #[.slice A l.length ca, .slice D zs.length cd, .int .i64 x] 32))
  rw [show (w.alloc (.cells #[.slice A l.length ca, .slice D zs.length cd, .int .i64 x] 32)).heap.size = w.heap.size + 1 from by simp] at hT
  have H0 := Lib.hid (And.intro hB (And.intro hb0 (And.intro (hA.below hb0) (And.intro (hD.below hb0) hT))))
  have HM := Lib.hid (hM.below hb0)
  have HX := Lib.hid (fun r W (h1 : InK 6 lgC W A l) (h2 : IntsIn W D zs) => next_trip (k : Int) r A ca l D cd zs x W h1 h2 hs hn hm)
  have HV := Lib.hid (fun r => nextD_ok (b := r) (trOk_net hnet hk) hk)
  obtain ⟨gb, rfl, hgb, c0, c1, c2, c3, c4, c5⟩ := (hA.below hb0).lg k hk
  obtain ⟨b0, b1, b2⟩ := hB.cells
  obtain ⟨r0, r1⟩ := hT.cells
  obtain ⟨f0, f1⟩ := hT.free
  have hx := (net_at hnet).2.2.2
  have hsf := (hs l[k] (List.getElem_mem hk)).1
  have hki : (k : Int) < (l.length : Int) := by omega
  obtain ⟨y, hy⟩ : ∃ y, y = l[k] := ⟨_, rfl⟩
  rw [← hy] at c0 c1 c2 c3 c4 c5 hsf HV ⊢
  clear hy hM hB hA hD hs hb0 hT
  cases hgy : g y.f with
  | none =>
    have HR := Lib.hid (show trTup k (onD zs x fr g y) = .tuple #[.agg #[.int .i64 0, .int .i64 0], .bool false] from trTup_no (by rw [onD_none hgy]; omega))
    go_enter Try.func74, Try.ntmps74
    go_wp2_with (first
      | (at_lookup; refine wp_look rfl _ _ 77 rfl Try.underlying77 b m g rfl HM.out _ rfl hsf 0 false (by rw [hgy]; rfl) (by rw [hgy]; rfl) ?_)
      | fail)
    go_wp2
    exact bodyPost_ret (v := .tuple #[.agg #[.int .i64 0, .int .i64 0], .bool false]) (by simp [results, Try.results74, go_sem, r0, r1]) rfl ⟨by rw [HR.out], H0.out.2.1⟩
  | some a =>
    have ha := hg y.f a hgy
    have HR := Lib.hid (onD_some (zs := zs) (ch := x) (fr := fr) (x := y) hgy)
    obtain ⟨p, q, r, hV⟩ : ∃ p q r, trTup k (onD zs x fr g y) = .tuple #[.agg #[.int .i64 p, .int .i64 q], .bool r] := by unfold trTup; split <;> exact ⟨_, _, _, rfl⟩
    have HY := Lib.hid (fun W h1 h2 => by
      have h := HX.out (readyI x fr y.f a) W h1 h2
      rw [HV.out, ← HR.out, hV] at h
      exact h)
    rw [hV]
    clear hV HX HV
    by_cases hfr : y.f = fr
    · have hq := str_eq hfr
      have hrd : readyI x fr y.f a = a := if_pos hfr
      rw [hrd] at HY
      clear hfr hrd
      go_enter Try.func74, Try.ntmps74
      go_wp2_with (first
        | (at_lookup; refine wp_look rfl _ _ 77 rfl Try.underlying77 b m g rfl HM.out _ rfl hsf a true (by rw [hgy]; rfl) (by rw [hgy]; rfl) ?_)
        | fail)
      refine (HY.out _ H0.out.2.2.1 H0.out.2.2.2.1).mono ?_; rintro e w1 ⟨rfl, hb1⟩
      clear r0 r1 f0 f1 b0 b1 b2 c0 c1 c2 c3 c4 c5
      obtain ⟨r0, r1⟩ := (H0.out.2.2.2.2.below hb1).cells
      obtain ⟨f0, f1⟩ := (H0.out.2.2.2.2.below hb1).free
      have HB1 := Lib.hid (H0.out.2.1.trans (hb1.mono (Nat.le_of_lt H0.out.1.lt)))
      go_wp2
      exact bodyPost_ret (v := .tuple #[.agg #[.int .i64 p, .int .i64 q], .bool r]) (by simp [results, Try.results74, go_sem, r0, r1]) rfl
        ⟨rfl, (HB1.out.setCell (by dsimp only; omega) _).setCell (by dsimp only; omega) _⟩
    · have hq := str_ne hfr
      have hrd : readyI x fr y.f a = a + x := if_neg hfr
      rw [hrd] at HY
      clear hfr hrd
      go_enter Try.func74, Try.ntmps74
      go_wp2_with (first
        | (at_lookup; refine wp_look rfl _ _ 77 rfl Try.underlying77 b m g rfl HM.out _ rfl hsf a true (by rw [hgy]; rfl) (by rw [hgy]; rfl) ?_)
        | fail)
      refine (HY.out _ H0.out.2.2.1 H0.out.2.2.2.1).mono ?_; rintro e w1 ⟨rfl, hb1⟩
      clear r0 r1 f0 f1 b0 b1 b2 c0 c1 c2 c3 c4 c5
      obtain ⟨r0, r1⟩ := (H0.out.2.2.2.2.below hb1).cells
      obtain ⟨f0, f1⟩ := (H0.out.2.2.2.2.below hb1).free
      have HB1 := Lib.hid (H0.out.2.1.trans (hb1.mono (Nat.le_of_lt H0.out.1.lt)))
      go_wp2
      exact bodyPost_ret (v := .tuple #[.agg #[.int .i64 p, .int .i64 q], .bool r]) (by simp [results, Try.results74, go_sem, r0, r1]) rfl
        ⟨rfl, (HB1.out.setCell (by dsimp only; omega) _).setCell (by dsimp only; omega) _⟩
end Go.Proofs.Ytamlbiagjipedaa

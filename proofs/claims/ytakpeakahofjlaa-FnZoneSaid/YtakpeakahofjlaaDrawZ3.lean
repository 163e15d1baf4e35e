/- The draw of zones and a place. -/
import Derived.Test.YtakpeakahofjlaaDrawZ2
namespace Go.Proofs.Ytakpeakahofjlaa
open Go.RowKit
set_option maxRecDepth 100000 in
set_option maxHeartbeats 1000000 in
theorem drawZoneOf_any (A : Option Addr) (n cap : Nat) (w : World) (hn : n ≤ 4096) (hb : BytesIn w A n) :
    Calls Try.prog 24 #[.slice A n cap] w fun e w' => (∃ (v : Value) (l : List Zn) (p : ByteArray), e = .returned (.tuple #[v, .string p]) ∧ OwnK 37 2 zC w' w.heap.size v l ∧ (∀ z ∈ l, z.1.size ≤ 64 ∧ z.2.size ≤ 64) ∧ l.length ≤ 9 ∧ p.size ≤ 64) ∧ Below w.heap.size w w' := by
  have HB := Lib.hid hb; clear hb
  go_enter Try.func24, Try.ntmps24
  go_wp2_with fail
  refine (new_any A n cap w hn HB.out).mono ?_; rintro e w1 ⟨g, rfl, hc1, hg, hb1⟩
  have hgl := hc1.lt
  have H1 := Lib.hid hc1; clear hc1
  go_wp2_with fail
  refine (any_zones_draw g _ H1.out).mono ?_; rintro e w2 ⟨⟨v, l, rfl, hO, hs, hl⟩, hc2, ho2⟩
  have H2 := Lib.hid hc2; clear hc2 H1
  have HS := Lib.hid hs; clear hs
  have HO := Lib.hid hO; clear hO
  go_wp2_with fail
  refine (place_draw g _ H2.out).mono ?_; rintro e w3 ⟨⟨p, hp, rfl⟩, hc3, ho3⟩
  have H3 := Lib.hid hc3; clear hc3 H2
  have HO3 := Lib.hid (World.ownsRow.kept HO.out ho3 (own_off HO.out hgl))
  have ho3' := only_trans ho2 ho3
  clear ho2 ho3 HO
  go_wp2_with fail
  refine (once_any g 4 _ (by omega) H3.out).mono ?_; rintro e w4 ⟨⟨t, rfl⟩, hc4, ho4⟩
  have H4 := Lib.hid hc4; clear hc4 H3
  have HO4 := Lib.hid (World.ownsRow.kept HO3.out ho4 (own_off HO3.out hgl))
  have ho4' := only_trans ho3' ho4
  clear ho3' ho4 HO3
  have hz := hb1.size
  cases t with
  | false =>
    go_wp2
    exact bodyPost_ret (v := .tuple #[v, .string p]) (by simp [results, Try.results24, go_sem]) rfl ⟨⟨v, l, p, rfl, OwnK.mono (k := 2) (enc := zC) HO4.out hz, HS.out, hl, hp⟩, hb1.trans (only_below ho4' hz hg)⟩
  | true =>
    go_wp2_with fail
    refine (str_new g 5 _ _ _ H4.out rfl (by omega) (by omega) (by decide)).mono ?_; rintro e w5 ⟨⟨q, hq, rfl⟩, hc5, ho5⟩
    have HO5 := Lib.hid (World.ownsRow.kept HO4.out ho5 (own_off HO4.out hgl))
    have ho5' := only_trans ho4' ho5
    go_wp2
    exact bodyPost_ret (v := .tuple #[v, .string q]) (by simp [results, Try.results24, go_sem]) rfl ⟨⟨v, l, q, rfl, OwnK.mono (k := 2) (enc := zC) HO5.out hz, HS.out, hl, hq⟩, hb1.trans (only_below ho5' hz hg)⟩
end Go.Proofs.Ytakpeakahofjlaa

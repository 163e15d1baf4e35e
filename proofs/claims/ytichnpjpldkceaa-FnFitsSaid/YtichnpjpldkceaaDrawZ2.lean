/- The draws of zones, valid or not. -/
import Derived.Test.YtichnpjpldkceaaDrawZ
import Derived.Maps.AppendAt
import Derived.Test.YtichnpjpldkceaaConv1
namespace Go.Proofs.Ytichnpjpldkceaa
open Go.RowKit
theorem CurOK.keepB {w w' : World} {g : Nat} (h : CurOK w g) (hb : Below (g + 1) w w') : CurOK w' g := by
  obtain ⟨A, n, cap, k, x, h1, h2, h3, h4⟩ := h
  refine ⟨A, n, cap, k, x, by rw [hb.block g (by omega)]; exact h1, h2, h3, fun j hj => ?_⟩
  obtain ⟨ad, u, a1, a2, a3, a4, a5⟩ := h4 j hj
  exact ⟨ad, u, a1, a2, Nat.lt_of_lt_of_le a3 hb.size, by rw [hb.cell (by rw [addr_block]; omega)]; exact a4, a5⟩
theorem only_own {a b c : World} {g : Nat} {r : Option Nat} (h : a.grownBy b (some g)) (k : b.grownBy c r) (hr : ∀ x, r = some x → a.heap.size ≤ x) : a.grownBy c (some g) :=
  ⟨k.os.trans h.os, k.tape.trans h.tape, k.output.trans h.output, Nat.le_trans h.size k.size, fun i hi hn => (k.block i (Nat.lt_of_lt_of_le hi h.size) (fun e => by have := hr i e.symm; omega)).trans (h.block i hi hn)⟩
theorem below_own {b c : World} {B : Nat} {r : Option Nat} (k : b.grownBy c r) (hB : B ≤ b.heap.size) (hr : ∀ x, r = some x → B ≤ x) : Below B b c :=
  ⟨k.os, k.tape, k.output, k.size, fun i hi => k.block i (Nat.lt_of_lt_of_le hi hB) (fun e => by have := hr i e.symm; omega)⟩
theorem own_off {w : World} {base g k n : Nat} {T : TypeId} {v : Value} {xs : List Value} (h : w.ownsRow base T k v n xs) (hg : g < base) : v.ownBlock = none ∨ v.ownBlock ≠ some g := by
  cases hv : v.ownBlock with
  | none => exact .inl rfl
  | some x => exact .inr (fun e => by injection e with e; have := (h.lt x hv).1; omega)
theorem zone_is : ∃ i, Try.prog.info? 123 = some i ∧ i.zero = some (.agg #[.string ⟨#[]⟩, .string ⟨#[]⟩]) ∧ i.size = 2 ∧ i.bytes = 32 := by
  obtain ⟨i, h1, h2⟩ := Option.map_eq_some_iff.1 zone_info
  simp only [Prod.mk.injEq] at h2
  exact ⟨i, h1, h2⟩
theorem one_zone (z : Zn) : ∀ u ∈ zC z, u.oneCell' = true := by
  intro u hu
  simp only [zC, List.mem_cons, List.not_mem_nil, or_false] at hu
  rcases hu with rfl | rfl <;> rfl
theorem zone_news (wr : World) (s t : ByteArray) : ∀ j u, (zC (s, t))[j]? = some u → (wr.alloc (.cells #[.string s, .string t] 123)).cell? ((⟨wr.heap.size, 0, none⟩ : Addr).add j) = some u := by
  intro j u h
  have hn : (wr.alloc (.cells #[.string s, .string t] 123)).heap[wr.heap.size]? = some (.cells #[.string s, .string t] 123 (0, 0)) := heap_alloc_new wr _
  rw [Addr.add_lit, Nat.zero_add, cell_of_row _ _ j _ _ _ hn, ← h]
  exact List.getElem?_toArray
theorem own_app {w : World} {base : Nat} {T : TypeId} {v : Value} {l : List Zn} {z : Zn} (h : w.ownsRow base T 2 v (l.length + 1) (l.flatMap zC ++ zC z)) : OwnK T 2 zC w base v (l ++ [z]) := by
  unfold OwnK
  rw [List.length_append, List.flatMap_append, List.flatMap_cons, List.flatMap_nil, List.append_nil]
  exact h
theorem short_app {l : List Zn} {z : Zn} (h : ∀ z ∈ l, z.1.size ≤ 64 ∧ z.2.size ≤ 64) (h1 : z.1.size ≤ 64) (h2 : z.2.size ≤ 64) : ∀ y ∈ l ++ [z], y.1.size ≤ 64 ∧ y.2.size ≤ 64 := by
  intro y hy
  rcases List.mem_append.1 hy with h' | h'
  · exact h y h'
  · rw [List.mem_singleton.1 h']; exact ⟨h1, h2⟩
theorem flat_takes {α : Type} {enc : α → List Value} {k : Nat} (hk : ∀ a, (enc a).length = k) (l : List α) (m : Nat) : (l.take m).flatMap enc = (l.flatMap enc).take (m * k) := by
  induction l generalizing m with
  | nil => simp
  | cons a l ih =>
    cases m with
    | zero => simp
    | succ m => rw [List.take_succ_cons, List.flatMap_cons, List.flatMap_cons, ih, List.take_append, hk, show (m + 1) * k - k = m * k from by rw [Nat.succ_mul]; omega, show (enc a).take ((m + 1) * k) = enc a from List.take_of_length_le (by rw [hk, Nat.succ_mul]; omega)]
theorem OwnK.cap9 {w : World} {base : Nat} {T : TypeId} {A : Option Addr} {cap : Nat} {l : List Zn} (h : OwnK T 2 zC w base (.slice A l.length cap) l) (hl : 0 < l.length) : ∃ g, A = some ⟨g, 0, none⟩ ∧ l.length ≤ cap := by
  rcases h.2 with ⟨_, h⟩ | ⟨g, c, cur, e, h1, h2, h3, _⟩
  · omega
  · simp only [Value.slice.injEq] at e
    obtain ⟨rfl, _, rfl⟩ := e
    exact ⟨g, rfl, h3⟩
theorem OwnK.takes {w : World} {base g : Nat} {T : TypeId} {n cap : Nat} {l : List Zn} (h : w.ownsRow base T 2 (.slice (some ⟨g, 0, none⟩) n cap) l.length (l.flatMap zC)) (m : Nat) (hm : m ≤ l.length) : OwnK T 2 zC w base (.slice (some ⟨g, 0, none⟩) m cap) (l.take m) := by
  rcases h.2 with ⟨e, _⟩ | ⟨g', c, cur, e, h1, h2, h3, h4, h5, h6⟩
  · simp at e
  · simp only [Value.slice.injEq, Option.some.injEq, Addr.mk.injEq] at e
    obtain ⟨⟨rfl, _, _⟩, rfl, rfl⟩ := e
    have hlen : (l.take m).length = m := by rw [List.length_take]; omega
    refine ⟨flat_len zC_len _, .inr ⟨g, cap, cur, by rw [hlen], h1, h2, by omega, h4, h5, ?_⟩⟩
    rw [hlen, flat_takes zC_len, ← h6, List.take_take, Nat.min_eq_left (Nat.mul_le_mul_right 2 hm)]
theorem short_take {l : List Zn} (m : Nat) (h : ∀ z ∈ l, z.1.size ≤ 64 ∧ z.2.size ≤ 64) : ∀ z ∈ l.take m, z.1.size ≤ 64 ∧ z.2.size ≤ 64 := fun z hz => h z (List.mem_of_mem_take hz)
def okIn (p : Int → Bool) : Value → Bool
  | .int .i64 x => p x && decide (-9223372036854775808 ≤ x ∧ x ≤ 9223372036854775807)
  | _ => false
set_option maxRecDepth 100000 in
set_option maxHeartbeats 1000000 in
theorem int_in (g m : Nat) (u : World) (cs : Array Value) (T : TypeId) (p : Int → Bool) (hc : CurOK u g) (hm : cs.size = m) (hm0 : 0 < m) (hm1 : m ≤ 1000) (hok : cs.toList.all (okIn p) = true) :
    Calls Try.prog 106 #[.pointer (some ⟨g, 0, none⟩), .slice (some ⟨u.heap.size, 0, none⟩) m m] (u.alloc (.cells cs T)) fun e w' => (∃ x : Int, p x = true ∧ e = .returned (.int .i64 x)) ∧ CurOK w' g ∧ u.grownBy w' (some g) := by
  have hgl := hc.lt
  have HC := Lib.hid (hc.alloc (.cells cs T))
  have ho := only_of_below ((Below.refl u.heap.size u).alloc (Nat.le_refl _) (.cells cs T)) g
  have hblk : (u.alloc (.cells cs T)).heap[u.heap.size]? = some (.cells cs T (0, 0)) := heap_alloc_new u _
  have hzu : u.heap.size < (u.alloc (.cells cs T)).heap.size := by simp
  generalize hb : u.heap.size = b at *
  have hne : b ≠ g := by omega
  generalize u.alloc (.cells cs T) = W at *
  have HBK := Lib.hid hblk; clear hblk hb hc
  go_enter Try.func106, Try.ntmps106
  go_wp2_with fail
  refine (below_any g m _ (by omega) HC.out).mono ?_; rintro e w1 ⟨⟨x, hx0, hx1, _, rfl⟩, hc1, ho1⟩
  have hxm := hx1 (by omega)
  obtain ⟨k, rfl⟩ := Int.eq_ofNat_of_zero_le hx0
  clear hx0 hx1
  have hk : k < cs.size := by omega
  have hkm : k < m := by omega
  have hcell : w1.cell? ⟨b, k, none⟩ = some (cs[k]) := by
    rw [cell_of_row w1 b k cs T (0, 0) ((ho1.block b hzu (fun e => by injection e with e; exact hne e)).trans HBK.out)]
    exact Array.getElem?_eq_getElem hk
  have hmem : okIn p cs[k] = true := by
    rw [List.all_eq_true] at hok
    exact hok _ (by simp)
  have H1 := Lib.hid hc1; clear hc1 hok
  match hv : cs[k], hmem with
  | .int .i64 y, hmem =>
    rw [hv] at hcell
    have hy : p y = true := by simp only [okIn, Bool.and_eq_true] at hmem; exact hmem.1
    have HY := Lib.hid hy
    clear hmem hv hy
    go_wp2
    go_ret
    exact ⟨⟨y, HY.out, rfl⟩, H1.out, only_trans ho ho1⟩
def lenOf : Value → Nat
  | .slice _ n _ => n
  | _ => 0
set_option maxRecDepth 100000 in
set_option maxHeartbeats 1000000 in
theorem any_zones_draw (g : Nat) (w : World) (hc : CurOK w g) :
    Calls Try.prog 116 #[.pointer (some ⟨g, 0, none⟩)] w fun e w' => ZnsV w' w.heap.size 9 e ∧ CurOK w' g ∧ w.grownBy w' (some g) := by
  have hgl := hc.lt
  have HC := Lib.hid hc; clear hc
  obtain ⟨i0, hi0, hz0, hz1, hz2⟩ := zone_is
  go_enter Try.func116, Try.ntmps116
  go_wp2_with fail
  refine (zones_draw g _ HC.out).mono ?_; rintro e w1 ⟨⟨v, l, rfl, hO, hs, hl⟩, hc1, ho1⟩
  have H1 := Lib.hid hc1; clear hc1
  have HS := Lib.hid hs; clear hs
  have hO1 := Lib.hid hO; clear hO
  go_wp2_with fail
  refine (below_any g 5 _ (by omega) H1.out).mono ?_; rintro e w2 ⟨⟨x, hx0, hx1, _, rfl⟩, hc2, ho2⟩
  have hx5 := hx1 (by omega)
  clear hx1 H1
  have H2 := Lib.hid hc2; clear hc2
  have ho2' := only_trans ho1 ho2
  have hO2 := Lib.hid (World.ownsRow.kept hO1.out ho2 (own_off hO1.out hgl))
  clear hO1 ho1 ho2
  have hcs : x = 0 ∨ x = 1 ∨ 1 < x := by omega
  rcases hcs with h | h | h
  · subst h
    go_wp2_with fail
    refine (str_new g 4 _ _ _ H2.out rfl (by omega) (by omega) (by decide)).mono ?_; rintro e w5 ⟨⟨z, hz, rfl⟩, hc5, ho5⟩
    have hO5 := World.ownsRow.kept hO2.out ho5 (own_off hO2.out hgl)
    have hO5' := hO5.alloc (.cells #[.string ⟨#[71, 79, 84]⟩, .string z] 123)
    have ho5' := only_alloc (only_trans ho2' ho5) (.cells #[.string ⟨#[71, 79, 84]⟩, .string z] 123)
    have hc5' := hc5.alloc (.cells #[.string ⟨#[71, 79, 84]⟩, .string z] 123)
    have hnw := zone_news w5 ⟨#[71, 79, 84]⟩ z
    have hsz := ho5'.size
    have hm : l.length + 1 ≤ maxLen := by unfold maxLen; omega
    have hm2 : (l.length + 1) * 32 ≤ 140737488355328 := by omega
    have HX := Lib.hid (And.intro hO5' (And.intro ho5' hc5'))
    clear hO5 hO5' ho5' hc5'
    go_wp2_with (at_builtin; refine wpList_append_own_at _ rfl (.tmp 10) (.tmp 15) 30 rfl w.heap.size 123 i0 _ 2 32 Try.underlying30 hi0 hz0 hz1 hz2 rfl (by omega) _ _ _ rfl HX.out.1 ⟨w5.heap.size, 0, none⟩ 1 1 (zC (⟨#[71, 79, 84]⟩, z)) rfl rfl hnw (one_zone _) hm hm2 hsz ?_; intro v' w4 hown' hg' _ _)
    replace hg' : World.grownBy _ w4 v.ownBlock := hg'
    go_ret
    exact ⟨⟨v', l ++ [_], rfl, own_app hown', short_app HS.out (show 3 ≤ 64 by omega) hz, by simp; omega⟩, HX.out.2.2.keepB (below_own hg' (by omega) (fun x e => by have := (HX.out.1.lt x e).1; omega)), only_own HX.out.2.1 hg' (fun x e => (HX.out.1.lt x e).1)⟩
  · subst h
    obtain ⟨A, cap, rfl⟩ := OwnK.opens (k := 2) (enc := zC) hO2.out
    go_wp2
    go_loopw [3] (fun s wr => ∃ (v : Value) (l' : List Zn), s = v ∧ Hid (OwnK 123 2 zC wr w.heap.size v l') ∧ Hid (∀ z ∈ l', z.1.size ≤ 64 ∧ z.2.size ≤ 64) ∧ l'.length ≤ 9 ∧ Hid (CurOK wr g) ∧ Hid (w.grownBy wr (some g))) (fun s _ => 9 - lenOf s)
    case atStart => exact ⟨_, l, rfl, hO2, HS, by omega, H2, Lib.hid ho2'⟩
    case round =>
      obtain ⟨v, l', rfl, hO3, HS3, hl3, hc3, ho3⟩ := hrel
      obtain ⟨A, cap, rfl⟩ := OwnK.opens (k := 2) (enc := zC) hO3.out
      by_cases hlt : (l'.length : Int) < 9
      · have kc1 := conv_one wr (65 + (l'.length : Int)) (by omega) (by omega)
        have kc2 := conv_one (wr.alloc (.cells #[.int .u8 (65 + (l'.length : Int))] 5)) (65 + (l'.length : Int)) (by omega) (by omega)
        rw [World.size_alloc] at kc2
        have hO4 := ((World.ownsRow.alloc hO3.out (.cells #[.int .u8 (65 + (l'.length : Int))] 5)).alloc (.cells #[.int .u8 (65 + (l'.length : Int))] 5)).alloc (.cells #[.string (⟨#[90]⟩ ++ ⟨#[65 + UInt8.ofNat l'.length]⟩ ++ ⟨#[65]⟩), .string (⟨#[90]⟩ ++ ⟨#[65 + UInt8.ofNat l'.length]⟩ ++ ⟨#[66]⟩)] 123)
        have ho4 := only_alloc (only_alloc (only_alloc ho3.out (.cells #[.int .u8 (65 + (l'.length : Int))] 5)) (.cells #[.int .u8 (65 + (l'.length : Int))] 5)) (.cells #[.string (⟨#[90]⟩ ++ ⟨#[65 + UInt8.ofNat l'.length]⟩ ++ ⟨#[65]⟩), .string (⟨#[90]⟩ ++ ⟨#[65 + UInt8.ofNat l'.length]⟩ ++ ⟨#[66]⟩)] 123)
        have hc4 := ((hc3.out.alloc (.cells #[.int .u8 (65 + (l'.length : Int))] 5)).alloc (.cells #[.int .u8 (65 + (l'.length : Int))] 5)).alloc (.cells #[.string (⟨#[90]⟩ ++ ⟨#[65 + UInt8.ofNat l'.length]⟩ ++ ⟨#[65]⟩), .string (⟨#[90]⟩ ++ ⟨#[65 + UInt8.ofNat l'.length]⟩ ++ ⟨#[66]⟩)] 123)
        have hnw := zone_news ((wr.alloc (.cells #[.int .u8 (65 + (l'.length : Int))] 5)).alloc (.cells #[.int .u8 (65 + (l'.length : Int))] 5)) (⟨#[90]⟩ ++ ⟨#[65 + UInt8.ofNat l'.length]⟩ ++ ⟨#[65]⟩) (⟨#[90]⟩ ++ ⟨#[65 + UInt8.ofNat l'.length]⟩ ++ ⟨#[66]⟩)
        simp only [World.size_alloc] at hnw
        have hsz := ho4.size
        have hs1 : ((⟨#[90]⟩ ++ ⟨#[65 + UInt8.ofNat l'.length]⟩ ++ ⟨#[65]⟩) : ByteArray).size = 3 := by rw [ByteArray.size_append, ByteArray.size_append]; rfl
        have hs2 : ((⟨#[90]⟩ ++ ⟨#[65 + UInt8.ofNat l'.length]⟩ ++ ⟨#[66]⟩) : ByteArray).size = 3 := by rw [ByteArray.size_append, ByteArray.size_append]; rfl
        have HSS := Lib.hid (And.intro hs1 hs2)
        clear hs1 hs2
        have hm : l'.length + 1 ≤ maxLen := by unfold maxLen; omega
        have hm2 : (l'.length + 1) * 32 ≤ 140737488355328 := by omega
        have HX := Lib.hid (And.intro hO4 (And.intro ho4 hc4))
        clear hO4 ho4 hc4
        go_wp2_with (at_builtin; refine wpList_append_own_at _ rfl (.tmp 22) (.tmp 40) 30 rfl w.heap.size 123 i0 _ 2 32 Try.underlying30 hi0 hz0 hz1 hz2 rfl (by omega) _ _ _ rfl HX.out.1 ⟨wr.heap.size + 1 + 1, 0, none⟩ 1 1 (zC ((⟨#[90]⟩ ++ ⟨#[65 + UInt8.ofNat l'.length]⟩ ++ ⟨#[65]⟩), (⟨#[90]⟩ ++ ⟨#[65 + UInt8.ofNat l'.length]⟩ ++ ⟨#[66]⟩))) rfl rfl hnw (one_zone _) hm hm2 hsz ?_; intro v' w4 hown' hg' _ _)
        replace hg' : World.grownBy _ w4 (Value.slice A l'.length cap).ownBlock := hg'
        obtain ⟨A', cap', rfl⟩ := OwnK.opens (own_app hown')
        go_roundw
        case rel => exact ⟨_, l' ++ [_], rfl, Lib.hid (own_app hown'), Lib.hid (short_app HS3.out (by rw [HSS.out.1]; omega) (by rw [HSS.out.2]; omega)), by simp; omega, Lib.hid (HX.out.2.2.keepB (below_own hg' (by omega) (fun x e => by have := (HX.out.1.lt x e).1; omega))), Lib.hid (only_own HX.out.2.1 hg' (fun x e => (HX.out.1.lt x e).1))⟩
        case measure => simp [lenOf]; omega
      · have hl9 : l'.length = 9 := by omega
        obtain ⟨g', hA, hcp⟩ := OwnK.cap9 hO3.out (by omega)
        subst hA
        rw [hl9] at hO3
        rw [hl9]
        go_wp2_with fail
        refine (int_in g 2 _ _ _ (fun x => x == 8 || x == 9) hc3.out rfl (by omega) (by omega) (by decide)).mono ?_; rintro e w6 ⟨⟨z, hz, rfl⟩, hc6, ho6⟩
        have HO6 := Lib.hid (World.ownsRow.kept hO3.out ho6 (own_off hO3.out hgl))
        have hz' : z = 8 ∨ z = 9 := by simpa using hz
        clear hz
        have H6 := Lib.hid (And.intro hc6 (only_trans ho3.out ho6))
        clear hc6 ho6
        rcases hz' with rfl | rfl
        · go_wp2
          go_ret
          exact ⟨⟨_, l'.take 8, rfl, OwnK.takes HO6.out 8 (by omega), short_take 8 HS3.out, by simp; omega⟩, H6.out.1, H6.out.2⟩
        · go_wp2
          go_ret
          exact ⟨⟨_, l', rfl, HO6.out, HS3.out, by omega⟩, H6.out.1, H6.out.2⟩
  · have q0 : (x == 0) = false := by simp; omega
    have q1 : (x == 1) = false := by simp; omega
    go_wp2
    go_ret
    exact ⟨⟨v, l, rfl, hO2.out, HS.out, by omega⟩, H2.out, ho2'⟩
end Go.Proofs.Ytichnpjpldkceaa

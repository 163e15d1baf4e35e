/- SortScans: both contracts, as the laws want them. -/
import Derived.Test.YtamlbiagjipedaaGreatScSrS
import Derived.Test.YtamlbiagjipedaaGreatScanMk
namespace Go.Proofs.YtamlbiagjipedaaGreat
open Go.RowKit
theorem sortV_len {l : List Lg} {zs : List Int} {x : Int} {ls : List Sc} : (sortV l zs x ls).length ≤ ls.length := by
  have h1 := dedU_len (sortSc (validB l zs x ls)) (sortSc (validB l zs x ls)).length
  have h2 := sortSc_len (validB l zs x ls)
  have h3 : (validB l zs x ls).length ≤ ls.length := Nat.le_trans (List.length_filter_le _ _) (by rw [List.length_take]; omega)
  show (dedU _ _).length ≤ _
  omega
theorem sort_specV (A : Option Addr) (ca : Nat) (l : List Lg) (D : Option Addr) (cd : Nat) (zs : List Int) (x : Int) (E : Option Addr) (ce : Nat) (ls : List Sc) (w : World) (hA : InK 6 lgC w A l) (hD : IntsIn w D zs) (hs : ∀ z ∈ l, z.f.size ≤ maxLen ∧ z.t.size ≤ maxLen) (hn : l.length ≤ 1048576) (hm : zs.length ≤ 1048576) (hE : InK 6 scC w E ls) (hk : ls.length ≤ 1048576) (_hc : ls.length ≤ ce) :
    Calls Tryz.prog 17 #[.agg #[.slice A l.length ca, .slice D zs.length cd, .int .i64 x], .slice E ls.length ce] w fun e w' => ∃ v, e = .returned v ∧ OwnKsc w' w.heap.size v (sortV l zs x ls) ∧ Below w.heap.size w w' :=
  (sort_spec A ca l D cd zs x E ce ls w hA hD hs hn hm hE hk).mono fun _ _ ⟨_, _, he, hr, hb⟩ => ⟨_, he, hr, hb⟩
theorem sort_implV (A : Option Addr) (ca : Nat) (l : List Lg) (D : Option Addr) (cd : Nat) (zs : List Int) (x : Int) (E : Option Addr) (ce : Nat) (ls : List Sc) (w : World) (hA : InK 6 lgC w A l) (hD : IntsIn w D zs) (hs : ∀ z ∈ l, z.f.size ≤ maxLen ∧ z.t.size ≤ maxLen) (hn : l.length ≤ 1048576) (hm : zs.length ≤ 1048576) (hE : InK 6 scC w E ls) (hk : ls.length ≤ 1048576) (hce : ls.length ≤ ce) :
    Calls Tryz.prog 16 #[.agg #[.slice A l.length ca, .slice D zs.length cd, .int .i64 x], .slice E ls.length ce] w fun e w' => ∃ v, e = .returned v ∧ OwnKsc w' w.heap.size v (sortV l zs x ls) ∧ Below w.heap.size w w' :=
  (sort_impl A ca l D cd zs x E ce ls w hA hD hs hn hm hE hk hce).mono fun _ _ ⟨_, _, he, hr, hb⟩ => ⟨_, he, hr, hb⟩
end Go.Proofs.YtamlbiagjipedaaGreat

/- Zones: what the exact laws make and compare. -/
import Derived.Test.YtichnpjpldkceaaOwnK
import Derived.Test.YtichnpjpldkceaaBytes
import Derived.Test.YtichnpjpldkceaaSz
import Derived.Deep.RegionHeld3
import Derived.Deep.Slices
namespace Go.Proofs.Ytichnpjpldkceaa
open Go.RowKit
abbrev Zn := ByteArray × ByteArray
def zC (z : Zn) : List Value := [.string z.1, .string z.2]
theorem zC_len (z : Zn) : (zC z).length = 2 := rfl
theorem zone_info : (Try.prog.info? 123).map (fun i => (i.zero, i.size, i.bytes)) = some (some (.agg #[.string ⟨#[]⟩, .string ⟨#[]⟩]), 2, 32) := by kernel_rfl
theorem InK.zone {w : World} {A : Option Addr} {l : List Zn} (h : InK 2 zC w A l) (j : Nat) (hj : j < l.length) : ∃ g, A = some ⟨g, 0, none⟩ ∧ g < w.heap.size ∧ w.cell? ⟨g, j * 2, none⟩ = some (.string l[j].1) ∧ w.cell? ⟨g, j * 2 + 1, none⟩ = some (.string l[j].2) := by
  obtain ⟨g, h1, h2, h3⟩ := h j hj
  exact ⟨g, h1, h2, h3 0 (by omega), h3 1 (by omega)⟩
theorem RawK.zone {w : World} {A : Option Addr} {l : List Zn} (h : RawK 2 zC w A l) (j : Nat) (hj : j < l.length) : ∃ b o, A = some ⟨b, o, none⟩ ∧ b < w.heap.size ∧ w.cell? ⟨b, o + j * 2, none⟩ = some (.string l[j].1) ∧ w.cell? ⟨b, o + j * 2 + 1, none⟩ = some (.string l[j].2) := by
  obtain ⟨b, o, h1, h2, h3⟩ := h j hj
  exact ⟨b, o, h1, h2, h3 0 (by omega), h3 1 (by omega)⟩
end Go.Proofs.Ytichnpjpldkceaa

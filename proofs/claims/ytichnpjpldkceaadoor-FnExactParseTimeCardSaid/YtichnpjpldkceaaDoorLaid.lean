/- What the rows' lists of the library's variables give: the table of powers of ten, and the two errors of strconv; a world that holds them, for the witness. -/
import Derived.Test.YtichnpjpldkceaaDoorCards
import Derived.Test.YtichnpjpldkceaaDoorTie
import Derived.Test.YtichnpjpldkceaaDoorLaw
import Derived.Lib.LaidTab
import Derived.Lib.ItoaLen
import Derived.Deep.DeepHandedRow
import Derived.Deep.DeepWitnessRowRef
import Derived.Stop.LaidErr
import Derived.Shelf.Strconv.Itoa3
namespace Go.Proofs.YtichnpjpldkceaaDoor
open Go.ChangeShapes Go.WideShapes Go.ChangeAt Go.RowKit

theorem gPow : Tryd.prog.globalNamed "internal/strconv.uint64pow10" = some 3 := by kernel_rfl
theorem gPowT : (Tryd.prog.globals[3]?).map (·.type) = some 135 := by kernel_rfl
theorem cellsPow : Tryd.prog.cellsOf 135 = 20 := by kernel_rfl
theorem cellsU64 : Tryd.prog.cellsOf 112 = 1 := by kernel_rfl
def PowIs (W : World) : Prop := Lib.TabIs Tryd.prog W "internal/strconv.uint64pow10" .u64 Lib.pow10Tab
theorem pow_is {x y : String × DataW Unit} {r : List (String × DataW Unit)} {W : World} (h : laidMet Tryd.prog (x :: y :: ("internal/strconv.uint64pow10", Rows.laid_internal_strconv_uint64pow10) :: r) W) : PowIs W :=
  Lib.tabIs_of_head (rest := r) gPow gPowT Tryd.underlying135 Tryd.underlying112 cellsU64 cellsPow h.tail.tail
theorem PowIs.below {W W' : World} (h : PowIs W) (hb : Below W.heap.size W W') : PowIs W' := by
  unfold PowIs Lib.TabIs at h ⊢
  rw [← h]
  unfold World.var? at h ⊢
  rw [gPow] at h ⊢
  simp only [Option.bind_some] at h ⊢
  have hg : 3 < W.heap.size := by
    cases hh : W.heap[3]? with
    | none => rw [hh] at h; cases h
    | some o => exact (Array.getElem?_eq_some_iff.1 hh).1
  rw [hb.block _ hg]
theorem PowIs.drew {W : World} (h : PowIs W) : PowIs W.drew := h
theorem gSyn : Tryd.prog.globalNamed "strconv.ErrSyntax" = some 1 := by kernel_rfl
theorem gRng : Tryd.prog.globalNamed "strconv.ErrRange" = some 2 := by kernel_rfl
theorem gSynT : (Tryd.prog.globals[1]?).map (·.type) = some 72 := by kernel_rfl
theorem gRngT : (Tryd.prog.globals[2]?).map (·.type) = some 72 := by kernel_rfl
theorem cellsErr : Tryd.prog.cellsOf 140 = 1 := by kernel_rfl
theorem cellsStr : Tryd.prog.cellsOf 9 = 1 := by kernel_rfl
theorem star : "*" ++ "errors.errorString" = "*errors.errorString" := by decide
theorem rowErr (u : TypeId) (h : Tryd.prog.typeName? 3 u = some "*errors.errorString") : u = 138 :=
  typeName_ptr_named (nm := "errors.errorString") (by rw [star]; kernel_rfl) (by kernel_rfl) (by decide) u (by rw [star]; exact h)
def ErrIs (W : World) (n : String) : Prop := ∃ tp p, W.var? Tryd.prog n = some #[.iface tp p]
theorem errs_are {x y z : String × DataW Unit} {W : World} (h : laidMet Tryd.prog [x, y, z, ("strconv.ErrRange", Rows.laid_strconv_ErrRange), ("strconv.ErrSyntax", Rows.laid_strconv_ErrSyntax)] W) : ErrIs W "strconv.ErrRange" ∧ ErrIs W "strconv.ErrSyntax" := by
  obtain ⟨a0, s0, hv0, _⟩ := laid_sentinel h.tail.tail.tail gRng gRngT Tryd.underlying72 rowErr Tryd.underlying138 Tryd.underlying140 rfl rfl Tryd.underlying9 cellsErr cellsStr
  obtain ⟨a1, s1, hv1, _⟩ := laid_sentinel h.tail.tail.tail.tail gSyn gSynT Tryd.underlying72 rowErr Tryd.underlying138 Tryd.underlying140 rfl rfl Tryd.underlying9 cellsErr cellsStr
  exact ⟨⟨_, _, hv0⟩, ⟨_, _, hv1⟩⟩
theorem ErrIs.below {W W' : World} {n : String} (h : ErrIs W n) (hb : Below W.heap.size W W') : ErrIs W' n := by
  obtain ⟨tp, p, h⟩ := h
  refine ⟨tp, p, ?_⟩
  rw [← h]
  unfold World.var? at h ⊢
  cases hg : Tryd.prog.globalNamed n with
  | none => rfl
  | some g =>
    rw [hg] at h
    simp only [Option.bind_some] at h ⊢
    have hg : g < W.heap.size := by
      cases hh : W.heap[g]? with
      | none => rw [hh] at h; cases h
      | some o => exact (Array.getElem?_eq_some_iff.1 hh).1
    rw [hb.block _ hg]
/-! ### A world for the witness -/
def put (h : Array Obj) (g : Nat) (cs : Array Value) : Array Obj := h.modify g fun
  | .cells _ t frozen => .cells cs t frozen
  | o => o
def tab8 (l : List Int) : Array Value := (l.map fun z => Value.int .u8 z).toArray
def tab64 (l : List Int) : Array Value := (l.map fun z => Value.int .u64 z).toArray
def db32 : List Int := [0, 1, 28, 2, 29, 14, 24, 3, 30, 22, 20, 15, 25, 17, 4, 8, 31, 27, 13, 23, 21, 19, 16, 7, 26, 12, 18, 6, 11, 5, 10, 9]
def db64 : List Int := [0, 1, 56, 2, 57, 49, 28, 3, 61, 58, 42, 50, 38, 29, 17, 4, 62, 47, 59, 36, 45, 43, 51, 22, 53, 39, 33, 30, 24, 18, 12, 5, 63, 55, 48, 27, 60, 41, 37, 16, 46, 35, 44, 21, 52, 32, 23, 11, 54, 26, 40, 15, 34, 20, 31, 10, 25, 14, 19, 9, 13, 8, 7, 6]
noncomputable def low : Nat := (World.holding Tryd.prog default ⟨#[], #[], []⟩).heap.size
noncomputable def laidWorld (os : Os) : World :=
  let w0 := World.holding Tryd.prog os ⟨#[.cells #[.string ⟨#[105, 110, 118, 97, 108, 105, 100, 32, 115, 121, 110, 116, 97, 120]⟩] 140, .cells #[.string ⟨#[118, 97, 108, 117, 101, 32, 111, 117, 116, 32, 111, 102, 32, 114, 97, 110, 103, 101]⟩] 140], #[], []⟩
  { w0 with heap := put (put (put (put (put w0.heap 1 #[.iface 138 (.pointer (some ⟨low, 0, none⟩))]) 2 #[.iface 138 (.pointer (some ⟨low + 1, 0, none⟩))])
      3 (tab64 Lib.pow10Tab)) 6 (tab8 db32)) 7 (tab8 db64) }
theorem laid_met5 (os : Os) (args : Array Value) : laidMet Tryd.prog [("math/bits.deBruijn32tab", Rows.laid_math_bits_deBruijn32tab), ("math/bits.deBruijn64tab", Rows.laid_math_bits_deBruijn64tab), ("internal/strconv.uint64pow10", Rows.laid_internal_strconv_uint64pow10), ("strconv.ErrRange", Rows.laid_strconv_ErrRange), ("strconv.ErrSyntax", Rows.laid_strconv_ErrSyntax)] ((laidWorld os).forCall (fun _ _ => 0) ⟨#[], args, []⟩).memory :=
  laidMet_of_run' 8 (by kernel_rfl) (by kernel_rfl)
theorem laid_met3 (os : Os) (args : Array Value) : laidMet Tryd.prog [("math/bits.deBruijn32tab", Rows.laid_math_bits_deBruijn32tab), ("math/bits.deBruijn64tab", Rows.laid_math_bits_deBruijn64tab), ("internal/strconv.uint64pow10", Rows.laid_internal_strconv_uint64pow10)] ((laidWorld os).forCall (fun _ _ => 0) ⟨#[], args, []⟩).memory :=
  laidMet_of_run' 8 (by kernel_rfl) (by kernel_rfl)
end Go.Proofs.YtichnpjpldkceaaDoor

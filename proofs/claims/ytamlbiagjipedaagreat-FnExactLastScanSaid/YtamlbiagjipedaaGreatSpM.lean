/- Where scans are, the plain mathematics. Written by mk/spots.py. -/
import Derived.Test.YtamlbiagjipedaaGreatScM
namespace Go.Proofs.YtamlbiagjipedaaGreat
open Go.RowKit
section
variable {l : List Lg} {zs : List Int} {x : Int} {r : Sc}
def placeSc (l : List Lg) (zs : List Int) (x : Int) (r : Sc) : ByteArray := if scB l zs x r = true then (if r.k = 3 then (lgAt l r.g).f else if r.k = 2 then (lgAt l r.g).t else r.p) else ⟨#[]⟩
theorem place_no (h : scB l zs x r = false) : placeSc l zs x r = ⟨#[]⟩ := by unfold placeSc; rw [if_neg (by rw [h]; decide)]
theorem place_load (h : scB l zs x r = true) (hk : r.k = 3) : placeSc l zs x r = (lgAt l r.g).f := by unfold placeSc; rw [if_pos h, if_pos hk]
theorem place_drop (h : scB l zs x r = true) (hk : r.k = 2) : placeSc l zs x r = (lgAt l r.g).t := by unfold placeSc; rw [if_pos h, if_neg (by omega), if_pos hk]
theorem place_here (h : scB l zs x r = true) (h3 : r.k ≠ 3) (h2 : r.k ≠ 2) : placeSc l zs x r = r.p := by unfold placeSc; rw [if_pos h, if_neg h3, if_neg h2]
/-- the spot behind a scan, the spot before it -/
def behP (l : List Lg) (zs : List Int) (x : Int) (r : Sc) : ByteArray := if scB l zs x r = true then (if r.k = 3 then (lgAt l r.g).t else placeSc l zs x r) else ⟨#[]⟩
def behA (l : List Lg) (zs : List Int) (x : Int) (r : Sc) : Int := if scB l zs x r = true then (if r.k = 3 then trE l ⟨r.g, r.d⟩ else r.a) else 0
def befP (l : List Lg) (zs : List Int) (x : Int) (r : Sc) : ByteArray := if scB l zs x r = true then (if r.k = 3 ∨ r.k = 2 then (lgAt l r.g).f else r.p) else ⟨#[]⟩
def befA (l : List Lg) (zs : List Int) (x : Int) (r : Sc) : Int := if scB l zs x r = true then (if r.k = 3 ∨ r.k = 2 then trS l ⟨r.g, r.d⟩ else r.a) else 0
theorem beh_no (h : scB l zs x r = false) : behP l zs x r = ⟨#[]⟩ ∧ behA l zs x r = 0 := by unfold behP behA; rw [if_neg (by rw [h]; decide), if_neg (by rw [h]; decide)]; exact ⟨rfl, rfl⟩
theorem beh_load (h : scB l zs x r = true) (hk : r.k = 3) : behP l zs x r = (lgAt l r.g).t ∧ behA l zs x r = trE l ⟨r.g, r.d⟩ := by unfold behP behA; rw [if_pos h, if_pos h, if_pos hk, if_pos hk]; exact ⟨rfl, rfl⟩
theorem beh_else (h : scB l zs x r = true) (hk : r.k ≠ 3) : behP l zs x r = placeSc l zs x r ∧ behA l zs x r = r.a := by unfold behP behA; rw [if_pos h, if_pos h, if_neg hk, if_neg hk]; exact ⟨rfl, rfl⟩
theorem bef_no (h : scB l zs x r = false) : befP l zs x r = ⟨#[]⟩ ∧ befA l zs x r = 0 := by unfold befP befA; rw [if_neg (by rw [h]; decide), if_neg (by rw [h]; decide)]; exact ⟨rfl, rfl⟩
theorem bef_trip (h : scB l zs x r = true) (hk : r.k = 3 ∨ r.k = 2) : befP l zs x r = (lgAt l r.g).f ∧ befA l zs x r = trS l ⟨r.g, r.d⟩ := by unfold befP befA; rw [if_pos h, if_pos h, if_pos hk, if_pos hk]; exact ⟨rfl, rfl⟩
theorem bef_else (h : scB l zs x r = true) (hk : ¬ (r.k = 3 ∨ r.k = 2)) : befP l zs x r = r.p ∧ befA l zs x r = r.a := by unfold befP befA; rw [if_pos h, if_pos h, if_neg hk, if_neg hk]; exact ⟨rfl, rfl⟩
end
end Go.Proofs.YtamlbiagjipedaaGreat

/- A box of three cells stays where another row is written. -/
import Derived.Test.YtamlbiagjipedaaBb
import Derived.Test.YtamlbiagjipedaaExL
namespace Go.Proofs.Ytamlbiagjipedaa
open Go.RowKit
theorem Box3.apart {T : TypeId} {W W' : World} {B : Nat} {v0 v1 v2 : Value} {r : Option Nat} (h : Box3 T W B v0 v1 v2) (hg : W.grownBy W' r) (hn : some B ≠ r) : Box3 T W' B v0 v1 v2 := (hg.block B h.lt hn).trans h
end Go.Proofs.Ytamlbiagjipedaa

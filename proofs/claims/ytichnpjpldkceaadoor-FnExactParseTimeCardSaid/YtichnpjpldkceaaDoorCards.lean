/-
  DERIVED. GIVEN WITH THE SEED: THE CARDS: each row of YtichnpjpldkceaaDoorRows.lean that lists a variable, with what it lists TIED to the program's text (the seventh form; the later family's looks); each row that meets fmt, with fmt's text TOLD by the authors' own Lean function (tested against real Go, not proved from fmt's source: count such statements apart). THE CARD IS WHAT COUNTS. Prove the row's statement (the work); the ties are given (YtichnpjpldkceaaDoorTie.lean); close each card by the builder's one call (the guide's Derived/Test/ToyasCard.lean, 'card_holds'). Laid BY PROGRAM, IN A SANDBOX (cutbox-door.mjs). By AI agents, Wed Nov 11 2026. No macro, syntax, notation, axiom, sorry.
-/
import Derived.Test.YtichnpjpldkceaaDoorRows
import GoSem.ClaimSeven
namespace Go.Proofs.YtichnpjpldkceaaDoor
namespace Rows

/-- THE TIED CARD OF 'laws.FnExactFormatParcel'. -/
def fnExactFormatParcelCard : Claim7 := { stood := { row := fnExactFormatParcelRow, standIns := [], harness := (true, "64ff9800a61f89536baab204f4396fff28af73c9faf7eab7dcab93a52a520256"), looks := true }, kinds := [], alts := [], laidByText := true, laidKinds := [.data, .data, .data], laidTests := true, laidLooks := .later }
def FnExactFormatParcelCardSaid : Prop := Claim7.holds Tryd.pinned (.plain (OpenSpec.ofChange fnExactFormatParcelSpec)) fnExactFormatParcelCard

/-- THE TIED CARD OF 'laws.FnExactFormatTime'. -/
def fnExactFormatTimeCard : Claim7 := { stood := { row := fnExactFormatTimeRow, standIns := [], harness := (true, "64ff9800a61f89536baab204f4396fff28af73c9faf7eab7dcab93a52a520256"), looks := true }, kinds := [], alts := [], laidByText := true, laidKinds := [.data, .data, .data], laidTests := true, laidLooks := .later }
def FnExactFormatTimeCardSaid : Prop := Claim7.holds Tryd.pinned (.plain (OpenSpec.ofChange fnExactFormatTimeSpec)) fnExactFormatTimeCard

/-- THE TIED CARD OF 'laws.FnExactParseTime'. -/
def fnExactParseTimeCard : Claim7 := { stood := { row := fnExactParseTimeRow, standIns := [], harness := (true, "64ff9800a61f89536baab204f4396fff28af73c9faf7eab7dcab93a52a520256"), looks := true }, kinds := [], alts := [], laidByText := true, laidKinds := [.data, .data, .data, .sentinel, .sentinel], laidTests := true, laidLooks := .later }
def FnExactParseTimeCardSaid : Prop := Claim7.holds Tryd.pinned (.plain (OpenSpec.ofChange fnExactParseTimeSpec)) fnExactParseTimeCard

/-- THE TIED CARD OF 'laws.FnExactFormatLeg'. -/
def fnExactFormatLegCard : Claim7 := { stood := { row := fnExactFormatLegRow, standIns := [], harness := (true, "64ff9800a61f89536baab204f4396fff28af73c9faf7eab7dcab93a52a520256"), looks := true }, kinds := [], alts := [], laidByText := true, laidKinds := [.data, .data, .data], laidTests := true, laidLooks := .later }
def FnExactFormatLegCardSaid : Prop := Claim7.holds Tryd.pinned (.plain (OpenSpec.ofChange fnExactFormatLegSpec)) fnExactFormatLegCard

/-- THE TIED CARD OF 'laws.FnExactParseLeg'. -/
def fnExactParseLegCard : Claim7 := { stood := { row := fnExactParseLegRow, standIns := [], harness := (true, "64ff9800a61f89536baab204f4396fff28af73c9faf7eab7dcab93a52a520256"), looks := true }, kinds := [], alts := [], laidByText := true, laidKinds := [.data, .data, .data, .data, .sentinel, .sentinel, .pinned], laidTests := true, laidLooks := .later }
def FnExactParseLegCardSaid : Prop := Claim7.holds Tryd.pinned (.plain (OpenSpec.ofChange fnExactParseLegSpec)) fnExactParseLegCard

/-- THE SECOND FORM's CARD OF 'laws.FnExactFormatParcel'. -/
def fnExactFormatParcelUptoCard : Claim7 := { stood := { row := fnExactFormatParcelUptoRow, standIns := [], harness := (true, "64ff9800a61f89536baab204f4396fff28af73c9faf7eab7dcab93a52a520256"), looks := true }, kinds := [], alts := [], laidByText := true, laidKinds := [.data, .data, .data], laidTests := true, laidLooks := .later }
def FnExactFormatParcelUptoCardSaid : Prop := Claim7.holds Tryd.pinned (.plain (OpenSpec.upto fnExactFormatParcelSpec)) fnExactFormatParcelUptoCard

/-- THE SECOND FORM's CARD OF 'laws.FnExactFormatTime'. -/
def fnExactFormatTimeUptoCard : Claim7 := { stood := { row := fnExactFormatTimeUptoRow, standIns := [], harness := (true, "64ff9800a61f89536baab204f4396fff28af73c9faf7eab7dcab93a52a520256"), looks := true }, kinds := [], alts := [], laidByText := true, laidKinds := [.data, .data, .data], laidTests := true, laidLooks := .later }
def FnExactFormatTimeUptoCardSaid : Prop := Claim7.holds Tryd.pinned (.plain (OpenSpec.upto fnExactFormatTimeSpec)) fnExactFormatTimeUptoCard

/-- THE SECOND FORM's CARD OF 'laws.FnExactParseTime'. -/
def fnExactParseTimeUptoCard : Claim7 := { stood := { row := fnExactParseTimeUptoRow, standIns := [], harness := (true, "64ff9800a61f89536baab204f4396fff28af73c9faf7eab7dcab93a52a520256"), looks := true }, kinds := [], alts := [], laidByText := true, laidKinds := [.data, .data, .data, .sentinel, .sentinel], laidTests := true, laidLooks := .later }
def FnExactParseTimeUptoCardSaid : Prop := Claim7.holds Tryd.pinned (.plain (OpenSpec.upto fnExactParseTimeSpec)) fnExactParseTimeUptoCard

/-- THE SECOND FORM's CARD OF 'laws.FnExactFormatLeg'. -/
def fnExactFormatLegUptoCard : Claim7 := { stood := { row := fnExactFormatLegUptoRow, standIns := [], harness := (true, "64ff9800a61f89536baab204f4396fff28af73c9faf7eab7dcab93a52a520256"), looks := true }, kinds := [], alts := [], laidByText := true, laidKinds := [.data, .data, .data], laidTests := true, laidLooks := .later }
def FnExactFormatLegUptoCardSaid : Prop := Claim7.holds Tryd.pinned (.plain (OpenSpec.upto fnExactFormatLegSpec)) fnExactFormatLegUptoCard

/-- THE SECOND FORM's CARD OF 'laws.FnExactParseLeg'. -/
def fnExactParseLegUptoCard : Claim7 := { stood := { row := fnExactParseLegUptoRow, standIns := [], harness := (true, "64ff9800a61f89536baab204f4396fff28af73c9faf7eab7dcab93a52a520256"), looks := true }, kinds := [], alts := [], laidByText := true, laidKinds := [.data, .data, .data, .data, .sentinel, .sentinel, .pinned], laidTests := true, laidLooks := .later }
def FnExactParseLegUptoCardSaid : Prop := Claim7.holds Tryd.pinned (.plain (OpenSpec.upto fnExactParseLegSpec)) fnExactParseLegUptoCard
end Rows
end Go.Proofs.YtichnpjpldkceaaDoor

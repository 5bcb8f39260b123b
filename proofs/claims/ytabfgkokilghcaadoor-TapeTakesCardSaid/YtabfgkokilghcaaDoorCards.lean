/-
  DERIVED. GIVEN WITH THE SEED: THE CARDS: each row of YtabfgkokilghcaaDoorRows.lean that lists a variable, with what it lists TIED to the program's text (the seventh form; the later family's looks); each row that meets fmt, with fmt's text TOLD by the authors' own Lean function (tested against real Go, not proved from fmt's source: count such statements apart). THE CARD IS WHAT COUNTS. Prove the row's statement (the work); the ties are given (YtabfgkokilghcaaDoorTie.lean); close each card by the builder's one call (the guide's Derived/Test/ToyasCard.lean, 'card_holds'). Laid BY PROGRAM, IN A SANDBOX (cutbox-door.mjs). By AI agents, Wed Nov 11 2026. No macro, syntax, notation, axiom, sorry.
-/
import Derived.Test.YtabfgkokilghcaaDoorRows
import GoSem.ClaimSeven
namespace Go.Proofs.YtabfgkokilghcaaDoor
namespace Rows

/-- THE TIED CARD OF 'drawlotlaw07.TapeTakes'. -/
def tapeTakesCard : Claim7 := { stood := { row := tapeTakesRow, standIns := [], harness := (true, "85f08216ce9dc26477af0f915207407bca3680ddb54717b438b79d7745c2318c"), looks := false }, kinds := [], alts := [], laidByText := true, laidKinds := [.data], laidTests := true, laidLooks := .later }
def TapeTakesCardSaid : Prop := Claim7.holds Tryd.pinned (.plain (OpenSpec.ofChange tapeTakesSpec)) tapeTakesCard

/-- THE TIED CARD OF 'drawlotlaw07.TapeMakes'. -/
def tapeMakesCard : Claim7 := { stood := { row := tapeMakesRow, standIns := [], harness := (true, "85f08216ce9dc26477af0f915207407bca3680ddb54717b438b79d7745c2318c"), looks := false }, kinds := [], alts := [], laidByText := true, laidKinds := [.data], laidTests := true, laidLooks := .later }
def TapeMakesCardSaid : Prop := Claim7.holds Tryd.pinned (.plain (OpenSpec.ofChange tapeMakesSpec)) tapeMakesCard

/-- THE TIED CARD OF 'drawlotlaw07.TapeBits'. -/
def tapeBitsCard : Claim7 := { stood := { row := tapeBitsRow, standIns := [], harness := (true, "85f08216ce9dc26477af0f915207407bca3680ddb54717b438b79d7745c2318c"), looks := false }, kinds := [], alts := [], laidByText := true, laidKinds := [.data], laidTests := true, laidLooks := .later }
def TapeBitsCardSaid : Prop := Claim7.holds Tryd.pinned (.plain (OpenSpec.ofChange tapeBitsSpec)) tapeBitsCard

/-- THE TIED CARD OF 'drawlotlaw07.TapeTwo'. -/
def tapeTwoCard : Claim7 := { stood := { row := tapeTwoRow, standIns := [], harness := (true, "85f08216ce9dc26477af0f915207407bca3680ddb54717b438b79d7745c2318c"), looks := false }, kinds := [], alts := [], laidByText := true, laidKinds := [.data], laidTests := true, laidLooks := .later }
def TapeTwoCardSaid : Prop := Claim7.holds Tryd.pinned (.plain (OpenSpec.ofChange tapeTwoSpec)) tapeTwoCard

/-- THE SECOND FORM's CARD OF 'drawlotlaw07.TapeTakes'. -/
def tapeTakesUptoCard : Claim7 := { stood := { row := tapeTakesUptoRow, standIns := [], harness := (true, "85f08216ce9dc26477af0f915207407bca3680ddb54717b438b79d7745c2318c"), looks := false }, kinds := [], alts := [], laidByText := true, laidKinds := [.data], laidTests := true, laidLooks := .later }
def TapeTakesUptoCardSaid : Prop := Claim7.holds Tryd.pinned (.plain (OpenSpec.upto tapeTakesSpec)) tapeTakesUptoCard

/-- THE SECOND FORM's CARD OF 'drawlotlaw07.TapeMakes'. -/
def tapeMakesUptoCard : Claim7 := { stood := { row := tapeMakesUptoRow, standIns := [], harness := (true, "85f08216ce9dc26477af0f915207407bca3680ddb54717b438b79d7745c2318c"), looks := false }, kinds := [], alts := [], laidByText := true, laidKinds := [.data], laidTests := true, laidLooks := .later }
def TapeMakesUptoCardSaid : Prop := Claim7.holds Tryd.pinned (.plain (OpenSpec.upto tapeMakesSpec)) tapeMakesUptoCard

/-- THE SECOND FORM's CARD OF 'drawlotlaw07.TapeBits'. -/
def tapeBitsUptoCard : Claim7 := { stood := { row := tapeBitsUptoRow, standIns := [], harness := (true, "85f08216ce9dc26477af0f915207407bca3680ddb54717b438b79d7745c2318c"), looks := false }, kinds := [], alts := [], laidByText := true, laidKinds := [.data], laidTests := true, laidLooks := .later }
def TapeBitsUptoCardSaid : Prop := Claim7.holds Tryd.pinned (.plain (OpenSpec.upto tapeBitsSpec)) tapeBitsUptoCard

/-- THE SECOND FORM's CARD OF 'drawlotlaw07.TapeTwo'. -/
def tapeTwoUptoCard : Claim7 := { stood := { row := tapeTwoUptoRow, standIns := [], harness := (true, "85f08216ce9dc26477af0f915207407bca3680ddb54717b438b79d7745c2318c"), looks := false }, kinds := [], alts := [], laidByText := true, laidKinds := [.data], laidTests := true, laidLooks := .later }
def TapeTwoUptoCardSaid : Prop := Claim7.holds Tryd.pinned (.plain (OpenSpec.upto tapeTwoSpec)) tapeTwoUptoCard
end Rows
end Go.Proofs.YtabfgkokilghcaaDoor

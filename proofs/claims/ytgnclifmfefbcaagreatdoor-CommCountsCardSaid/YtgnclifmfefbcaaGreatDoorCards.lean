/-
  DERIVED. GIVEN WITH THE SEED: THE CARDS: each row of YtgnclifmfefbcaaGreatDoorRows.lean that lists a variable, with what it lists TIED to the program's text (the seventh form; the later family's looks); each row that meets fmt, with fmt's text TOLD by the authors' own Lean function (tested against real Go, not proved from fmt's source: count such statements apart). THE CARD IS WHAT COUNTS. Prove the row's statement (the work); the ties are given (YtgnclifmfefbcaaGreatDoorTie.lean); close each card by the builder's one call (the guide's Derived/Test/ToyasCard.lean, 'card_holds'). Laid BY PROGRAM, IN A SANDBOX (cutbox-door.mjs). By AI agents, Wed Nov 11 2026. No macro, syntax, notation, axiom, sorry.
-/
import Derived.Test.YtgnclifmfefbcaaGreatDoorRows
import GoSem.ClaimSeven
namespace Go.Proofs.YtgnclifmfefbcaaGreatDoor
namespace Rows

/-- THE TIED CARD OF 'drawlotlaw17.CommLists'. -/
def commListsCard : Claim7 := { stood := { row := commListsRow, standIns := [], harness := (true, "223ac32069d604a006d7a3e87737fbd023982e76fe15ad42b4dd1eb88a69971d"), looks := false }, kinds := [], alts := [], laidByText := true, laidKinds := [.data, .data, .data], laidTests := true, laidLooks := .later }
def CommListsCardSaid : Prop := Claim7.holds Tryz.pinned (.plain (OpenSpec.ofChange commListsSpec)) commListsCard

/-- THE TIED CARD OF 'drawlotlaw17.CommTrees'. -/
def commTreesCard : Claim7 := { stood := { row := commTreesRow, standIns := [], harness := (true, "223ac32069d604a006d7a3e87737fbd023982e76fe15ad42b4dd1eb88a69971d"), looks := false }, kinds := [], alts := [], laidByText := true, laidKinds := [.data, .data, .data], laidTests := true, laidLooks := .later }
def CommTreesCardSaid : Prop := Claim7.holds Tryz.pinned (.plain (OpenSpec.ofChange commTreesSpec)) commTreesCard

/-- THE TIED CARD OF 'drawlotlaw17.CommUnlike'. -/
def commUnlikeCard : Claim7 := { stood := { row := commUnlikeRow, standIns := [], harness := (true, "223ac32069d604a006d7a3e87737fbd023982e76fe15ad42b4dd1eb88a69971d"), looks := false }, kinds := [], alts := [], laidByText := true, laidKinds := [.data, .data, .data], laidTests := true, laidLooks := .later }
def CommUnlikeCardSaid : Prop := Claim7.holds Tryz.pinned (.plain (OpenSpec.ofChange commUnlikeSpec)) commUnlikeCard

/-- THE TIED CARD OF 'drawlotlaw17.CommWays'. -/
def commWaysCard : Claim7 := { stood := { row := commWaysRow, standIns := [], harness := (true, "223ac32069d604a006d7a3e87737fbd023982e76fe15ad42b4dd1eb88a69971d"), looks := false }, kinds := [], alts := [], laidByText := true, laidKinds := [.data, .data, .data], laidTests := true, laidLooks := .later }
def CommWaysCardSaid : Prop := Claim7.holds Tryz.pinned (.plain (OpenSpec.ofChange commWaysSpec)) commWaysCard

/-- THE TIED CARD OF 'drawlotlaw17.CommCounts'. -/
def commCountsCard : Claim7 := { stood := { row := commCountsRow, standIns := [], harness := (true, "223ac32069d604a006d7a3e87737fbd023982e76fe15ad42b4dd1eb88a69971d"), looks := false }, kinds := [], alts := [], laidByText := true, laidKinds := [.data, .data, .data], laidTests := true, laidLooks := .later }
def CommCountsCardSaid : Prop := Claim7.holds Tryz.pinned (.plain (OpenSpec.ofChange commCountsSpec)) commCountsCard

/-- THE SECOND FORM's CARD OF 'drawlotlaw17.CommLists'. -/
def commListsUptoCard : Claim7 := { stood := { row := commListsUptoRow, standIns := [], harness := (true, "223ac32069d604a006d7a3e87737fbd023982e76fe15ad42b4dd1eb88a69971d"), looks := false }, kinds := [], alts := [], laidByText := true, laidKinds := [.data, .data, .data], laidTests := true, laidLooks := .later }
def CommListsUptoCardSaid : Prop := Claim7.holds Tryz.pinned (.plain (OpenSpec.upto commListsSpec)) commListsUptoCard

/-- THE SECOND FORM's CARD OF 'drawlotlaw17.CommTrees'. -/
def commTreesUptoCard : Claim7 := { stood := { row := commTreesUptoRow, standIns := [], harness := (true, "223ac32069d604a006d7a3e87737fbd023982e76fe15ad42b4dd1eb88a69971d"), looks := false }, kinds := [], alts := [], laidByText := true, laidKinds := [.data, .data, .data], laidTests := true, laidLooks := .later }
def CommTreesUptoCardSaid : Prop := Claim7.holds Tryz.pinned (.plain (OpenSpec.upto commTreesSpec)) commTreesUptoCard

/-- THE SECOND FORM's CARD OF 'drawlotlaw17.CommUnlike'. -/
def commUnlikeUptoCard : Claim7 := { stood := { row := commUnlikeUptoRow, standIns := [], harness := (true, "223ac32069d604a006d7a3e87737fbd023982e76fe15ad42b4dd1eb88a69971d"), looks := false }, kinds := [], alts := [], laidByText := true, laidKinds := [.data, .data, .data], laidTests := true, laidLooks := .later }
def CommUnlikeUptoCardSaid : Prop := Claim7.holds Tryz.pinned (.plain (OpenSpec.upto commUnlikeSpec)) commUnlikeUptoCard

/-- THE SECOND FORM's CARD OF 'drawlotlaw17.CommWays'. -/
def commWaysUptoCard : Claim7 := { stood := { row := commWaysUptoRow, standIns := [], harness := (true, "223ac32069d604a006d7a3e87737fbd023982e76fe15ad42b4dd1eb88a69971d"), looks := false }, kinds := [], alts := [], laidByText := true, laidKinds := [.data, .data, .data], laidTests := true, laidLooks := .later }
def CommWaysUptoCardSaid : Prop := Claim7.holds Tryz.pinned (.plain (OpenSpec.upto commWaysSpec)) commWaysUptoCard

/-- THE SECOND FORM's CARD OF 'drawlotlaw17.CommCounts'. -/
def commCountsUptoCard : Claim7 := { stood := { row := commCountsUptoRow, standIns := [], harness := (true, "223ac32069d604a006d7a3e87737fbd023982e76fe15ad42b4dd1eb88a69971d"), looks := false }, kinds := [], alts := [], laidByText := true, laidKinds := [.data, .data, .data], laidTests := true, laidLooks := .later }
def CommCountsUptoCardSaid : Prop := Claim7.holds Tryz.pinned (.plain (OpenSpec.upto commCountsSpec)) commCountsUptoCard
end Rows
end Go.Proofs.YtgnclifmfefbcaaGreatDoor

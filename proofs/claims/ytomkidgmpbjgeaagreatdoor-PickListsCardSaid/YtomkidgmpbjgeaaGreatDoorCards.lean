/-
  DERIVED. GIVEN WITH THE SEED: THE CARDS: each row of YtomkidgmpbjgeaaGreatDoorRows.lean that lists a variable, with what it lists TIED to the program's text (the seventh form; the later family's looks); each row that meets fmt, with fmt's text TOLD by the authors' own Lean function (tested against real Go, not proved from fmt's source: count such statements apart). THE CARD IS WHAT COUNTS. Prove the row's statement (the work); the ties are given (YtomkidgmpbjgeaaGreatDoorTie.lean); close each card by the builder's one call (the guide's Derived/Test/ToyasCard.lean, 'card_holds'). Laid BY PROGRAM, IN A SANDBOX (cutbox-door.mjs). By AI agents, Wed Nov 11 2026. No macro, syntax, notation, axiom, sorry.
-/
import Derived.Test.YtomkidgmpbjgeaaGreatDoorRows
import GoSem.ClaimSeven
namespace Go.Proofs.YtomkidgmpbjgeaaGreatDoor
namespace Rows

/-- THE TIED CARD OF 'drawlotlaw15.PickDraws'. -/
def pickDrawsCard : Claim7 := { stood := { row := pickDrawsRow, standIns := [], harness := (true, "0302e28f44fb8af83b8c4cf26226ab7beef796657e7220633a079f560dd05a48"), looks := false }, kinds := [], alts := [], laidByText := true, laidKinds := [.data], laidTests := true, laidLooks := .later }
def PickDrawsCardSaid : Prop := Claim7.holds Tryz.pinned (.plain (OpenSpec.ofChange pickDrawsSpec)) pickDrawsCard

/-- THE TIED CARD OF 'drawlotlaw15.PickLists'. -/
def pickListsCard : Claim7 := { stood := { row := pickListsRow, standIns := [], harness := (true, "0302e28f44fb8af83b8c4cf26226ab7beef796657e7220633a079f560dd05a48"), looks := false }, kinds := [], alts := [], laidByText := true, laidKinds := [.data], laidTests := true, laidLooks := .later }
def PickListsCardSaid : Prop := Claim7.holds Tryz.pinned (.plain (OpenSpec.ofChange pickListsSpec)) pickListsCard

/-- THE SECOND FORM's CARD OF 'drawlotlaw15.PickDraws'. -/
def pickDrawsUptoCard : Claim7 := { stood := { row := pickDrawsUptoRow, standIns := [], harness := (true, "0302e28f44fb8af83b8c4cf26226ab7beef796657e7220633a079f560dd05a48"), looks := false }, kinds := [], alts := [], laidByText := true, laidKinds := [.data], laidTests := true, laidLooks := .later }
def PickDrawsUptoCardSaid : Prop := Claim7.holds Tryz.pinned (.plain (OpenSpec.upto pickDrawsSpec)) pickDrawsUptoCard

/-- THE SECOND FORM's CARD OF 'drawlotlaw15.PickLists'. -/
def pickListsUptoCard : Claim7 := { stood := { row := pickListsUptoRow, standIns := [], harness := (true, "0302e28f44fb8af83b8c4cf26226ab7beef796657e7220633a079f560dd05a48"), looks := false }, kinds := [], alts := [], laidByText := true, laidKinds := [.data], laidTests := true, laidLooks := .later }
def PickListsUptoCardSaid : Prop := Claim7.holds Tryz.pinned (.plain (OpenSpec.upto pickListsSpec)) pickListsUptoCard
end Rows
end Go.Proofs.YtomkidgmpbjgeaaGreatDoor

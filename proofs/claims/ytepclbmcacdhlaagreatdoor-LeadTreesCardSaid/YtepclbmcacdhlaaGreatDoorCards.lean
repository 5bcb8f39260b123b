/-
  DERIVED. GIVEN WITH THE SEED: THE CARDS: each row of YtepclbmcacdhlaaGreatDoorRows.lean that lists a variable, with what it lists TIED to the program's text (the seventh form; the later family's looks); each row that meets fmt, with fmt's text TOLD by the authors' own Lean function (tested against real Go, not proved from fmt's source: count such statements apart). THE CARD IS WHAT COUNTS. Prove the row's statement (the work); the ties are given (YtepclbmcacdhlaaGreatDoorTie.lean); close each card by the builder's one call (the guide's Derived/Test/ToyasCard.lean, 'card_holds'). Laid BY PROGRAM, IN A SANDBOX (cutbox-door.mjs). By AI agents, Wed Nov 11 2026. No macro, syntax, notation, axiom, sorry.
-/
import Derived.Test.YtepclbmcacdhlaaGreatDoorRows
import GoSem.ClaimSeven
namespace Go.Proofs.YtepclbmcacdhlaaGreatDoor
namespace Rows

/-- THE TIED CARD OF 'drawlotlaw13.LeadLists'. -/
def leadListsCard : Claim7 := { stood := { row := leadListsRow, standIns := [], harness := (true, "7efa763d7f51dafe47a00817deb9a45dae598e9ef7ced26856e54c76ebe8b0a9"), looks := false }, kinds := [], alts := [], laidByText := true, laidKinds := [.data, .data, .data], laidTests := true, laidLooks := .later }
def LeadListsCardSaid : Prop := Claim7.holds Tryz.pinned (.plain (OpenSpec.ofChange leadListsSpec)) leadListsCard

/-- THE TIED CARD OF 'drawlotlaw13.LeadTrees'. -/
def leadTreesCard : Claim7 := { stood := { row := leadTreesRow, standIns := [], harness := (true, "7efa763d7f51dafe47a00817deb9a45dae598e9ef7ced26856e54c76ebe8b0a9"), looks := false }, kinds := [], alts := [], laidByText := true, laidKinds := [.data, .data, .data], laidTests := true, laidLooks := .later }
def LeadTreesCardSaid : Prop := Claim7.holds Tryz.pinned (.plain (OpenSpec.ofChange leadTreesSpec)) leadTreesCard

/-- THE SECOND FORM's CARD OF 'drawlotlaw13.LeadLists'. -/
def leadListsUptoCard : Claim7 := { stood := { row := leadListsUptoRow, standIns := [], harness := (true, "7efa763d7f51dafe47a00817deb9a45dae598e9ef7ced26856e54c76ebe8b0a9"), looks := false }, kinds := [], alts := [], laidByText := true, laidKinds := [.data, .data, .data], laidTests := true, laidLooks := .later }
def LeadListsUptoCardSaid : Prop := Claim7.holds Tryz.pinned (.plain (OpenSpec.upto leadListsSpec)) leadListsUptoCard

/-- THE SECOND FORM's CARD OF 'drawlotlaw13.LeadTrees'. -/
def leadTreesUptoCard : Claim7 := { stood := { row := leadTreesUptoRow, standIns := [], harness := (true, "7efa763d7f51dafe47a00817deb9a45dae598e9ef7ced26856e54c76ebe8b0a9"), looks := false }, kinds := [], alts := [], laidByText := true, laidKinds := [.data, .data, .data], laidTests := true, laidLooks := .later }
def LeadTreesUptoCardSaid : Prop := Claim7.holds Tryz.pinned (.plain (OpenSpec.upto leadTreesSpec)) leadTreesUptoCard
end Rows
end Go.Proofs.YtepclbmcacdhlaaGreatDoor

/-
  DERIVED. GIVEN WITH THE SEED: THE CARDS: each row of YtkhlkggdibaefaaGreatDoorRows.lean that lists a variable, with what it lists TIED to the program's text (the seventh form; the later family's looks); each row that meets fmt, with fmt's text TOLD by the authors' own Lean function (tested against real Go, not proved from fmt's source: count such statements apart). THE CARD IS WHAT COUNTS. Prove the row's statement (the work); the ties are given (YtkhlkggdibaefaaGreatDoorTie.lean); close each card by the builder's one call (the guide's Derived/Test/ToyasCard.lean, 'card_holds'). Laid BY PROGRAM, IN A SANDBOX (cutbox-door.mjs). By AI agents, Wed Nov 11 2026. No macro, syntax, notation, axiom, sorry.
-/
import Derived.Test.YtkhlkggdibaefaaGreatDoorRows
import GoSem.ClaimSeven
namespace Go.Proofs.YtkhlkggdibaefaaGreatDoor
namespace Rows

/-- THE TIED CARD OF 'drawlottop.WholeTapes'. -/
def wholeTapesCard : Claim7 := { stood := { row := wholeTapesRow, standIns := [], harness := (true, "062013943a5651618439e046e9bab84118dabcd957fb595f3a17d556a7c9fd20"), looks := false }, kinds := [], alts := [], laidByText := true, laidKinds := [.data, .data, .data], laidTests := true, laidLooks := .later }
def WholeTapesCardSaid : Prop := Claim7.holds Tryz.pinned (.plain (OpenSpec.ofChange wholeTapesSpec)) wholeTapesCard

/-- THE TIED CARD OF 'drawlottop.WholeAlias'. -/
def wholeAliasCard : Claim7 := { stood := { row := wholeAliasRow, standIns := [], harness := (true, "062013943a5651618439e046e9bab84118dabcd957fb595f3a17d556a7c9fd20"), looks := false }, kinds := [], alts := [], laidByText := true, laidKinds := [.data, .data, .data], laidTests := true, laidLooks := .later }
def WholeAliasCardSaid : Prop := Claim7.holds Tryz.pinned (.plain (OpenSpec.ofChange wholeAliasSpec)) wholeAliasCard

/-- THE TIED CARD OF 'drawlottop.WholeTickets'. -/
def wholeTicketsCard : Claim7 := { stood := { row := wholeTicketsRow, standIns := [], harness := (true, "062013943a5651618439e046e9bab84118dabcd957fb595f3a17d556a7c9fd20"), looks := false }, kinds := [], alts := [], laidByText := true, laidKinds := [.data, .data, .data], laidTests := true, laidLooks := .later }
def WholeTicketsCardSaid : Prop := Claim7.holds Tryz.pinned (.plain (OpenSpec.ofChange wholeTicketsSpec)) wholeTicketsCard

/-- THE TIED CARD OF 'drawlottop.WholeCommittee'. -/
def wholeCommitteeCard : Claim7 := { stood := { row := wholeCommitteeRow, standIns := [], harness := (true, "062013943a5651618439e046e9bab84118dabcd957fb595f3a17d556a7c9fd20"), looks := false }, kinds := [], alts := [], laidByText := true, laidKinds := [.data, .data, .data], laidTests := true, laidLooks := .later }
def WholeCommitteeCardSaid : Prop := Claim7.holds Tryz.pinned (.plain (OpenSpec.ofChange wholeCommitteeSpec)) wholeCommitteeCard

/-- THE TIED CARD OF 'drawlottop.WholeWays'. -/
def wholeWaysCard : Claim7 := { stood := { row := wholeWaysRow, standIns := [], harness := (true, "062013943a5651618439e046e9bab84118dabcd957fb595f3a17d556a7c9fd20"), looks := false }, kinds := [], alts := [], laidByText := true, laidKinds := [.data, .data, .data], laidTests := true, laidLooks := .later }
def WholeWaysCardSaid : Prop := Claim7.holds Tryz.pinned (.plain (OpenSpec.ofChange wholeWaysSpec)) wholeWaysCard

/-- THE TIED CARD OF 'drawlottop.WholeStream'. -/
def wholeStreamCard : Claim7 := { stood := { row := wholeStreamRow, standIns := [], harness := (true, "062013943a5651618439e046e9bab84118dabcd957fb595f3a17d556a7c9fd20"), looks := false }, kinds := [], alts := [], laidByText := true, laidKinds := [.data, .data, .data], laidTests := true, laidLooks := .later }
def WholeStreamCardSaid : Prop := Claim7.holds Tryz.pinned (.plain (OpenSpec.ofChange wholeStreamSpec)) wholeStreamCard

/-- THE SECOND FORM's CARD OF 'drawlottop.WholeTapes'. -/
def wholeTapesUptoCard : Claim7 := { stood := { row := wholeTapesUptoRow, standIns := [], harness := (true, "062013943a5651618439e046e9bab84118dabcd957fb595f3a17d556a7c9fd20"), looks := false }, kinds := [], alts := [], laidByText := true, laidKinds := [.data, .data, .data], laidTests := true, laidLooks := .later }
def WholeTapesUptoCardSaid : Prop := Claim7.holds Tryz.pinned (.plain (OpenSpec.upto wholeTapesSpec)) wholeTapesUptoCard

/-- THE SECOND FORM's CARD OF 'drawlottop.WholeAlias'. -/
def wholeAliasUptoCard : Claim7 := { stood := { row := wholeAliasUptoRow, standIns := [], harness := (true, "062013943a5651618439e046e9bab84118dabcd957fb595f3a17d556a7c9fd20"), looks := false }, kinds := [], alts := [], laidByText := true, laidKinds := [.data, .data, .data], laidTests := true, laidLooks := .later }
def WholeAliasUptoCardSaid : Prop := Claim7.holds Tryz.pinned (.plain (OpenSpec.upto wholeAliasSpec)) wholeAliasUptoCard

/-- THE SECOND FORM's CARD OF 'drawlottop.WholeTickets'. -/
def wholeTicketsUptoCard : Claim7 := { stood := { row := wholeTicketsUptoRow, standIns := [], harness := (true, "062013943a5651618439e046e9bab84118dabcd957fb595f3a17d556a7c9fd20"), looks := false }, kinds := [], alts := [], laidByText := true, laidKinds := [.data, .data, .data], laidTests := true, laidLooks := .later }
def WholeTicketsUptoCardSaid : Prop := Claim7.holds Tryz.pinned (.plain (OpenSpec.upto wholeTicketsSpec)) wholeTicketsUptoCard

/-- THE SECOND FORM's CARD OF 'drawlottop.WholeCommittee'. -/
def wholeCommitteeUptoCard : Claim7 := { stood := { row := wholeCommitteeUptoRow, standIns := [], harness := (true, "062013943a5651618439e046e9bab84118dabcd957fb595f3a17d556a7c9fd20"), looks := false }, kinds := [], alts := [], laidByText := true, laidKinds := [.data, .data, .data], laidTests := true, laidLooks := .later }
def WholeCommitteeUptoCardSaid : Prop := Claim7.holds Tryz.pinned (.plain (OpenSpec.upto wholeCommitteeSpec)) wholeCommitteeUptoCard

/-- THE SECOND FORM's CARD OF 'drawlottop.WholeWays'. -/
def wholeWaysUptoCard : Claim7 := { stood := { row := wholeWaysUptoRow, standIns := [], harness := (true, "062013943a5651618439e046e9bab84118dabcd957fb595f3a17d556a7c9fd20"), looks := false }, kinds := [], alts := [], laidByText := true, laidKinds := [.data, .data, .data], laidTests := true, laidLooks := .later }
def WholeWaysUptoCardSaid : Prop := Claim7.holds Tryz.pinned (.plain (OpenSpec.upto wholeWaysSpec)) wholeWaysUptoCard

/-- THE SECOND FORM's CARD OF 'drawlottop.WholeStream'. -/
def wholeStreamUptoCard : Claim7 := { stood := { row := wholeStreamUptoRow, standIns := [], harness := (true, "062013943a5651618439e046e9bab84118dabcd957fb595f3a17d556a7c9fd20"), looks := false }, kinds := [], alts := [], laidByText := true, laidKinds := [.data, .data, .data], laidTests := true, laidLooks := .later }
def WholeStreamUptoCardSaid : Prop := Claim7.holds Tryz.pinned (.plain (OpenSpec.upto wholeStreamSpec)) wholeStreamUptoCard
end Rows
end Go.Proofs.YtkhlkggdibaefaaGreatDoor

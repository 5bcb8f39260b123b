/-
  DERIVED. GIVEN WITH THE SEED: THE CARDS: each row of YtomkidgmpbjgeaaDoorRows.lean that lists a variable, with what it lists TIED to the program's text (the seventh form; the later family's looks); each row that meets fmt, with fmt's text TOLD by the authors' own Lean function (tested against real Go, not proved from fmt's source: count such statements apart). THE CARD IS WHAT COUNTS. Prove the row's statement (the work); the ties are given (YtomkidgmpbjgeaaDoorTie.lean); close each card by the builder's one call (the guide's Derived/Test/ToyasCard.lean, 'card_holds'). Laid BY PROGRAM, IN A SANDBOX (cutbox-door.mjs). By AI agents, Wed Nov 11 2026. No macro, syntax, notation, axiom, sorry.
-/
import Derived.Test.YtomkidgmpbjgeaaDoorRows
import GoSem.ClaimSeven
namespace Go.Proofs.YtomkidgmpbjgeaaDoor
namespace Rows

/-- THE TIED CARD OF 'drawlotlaw15.PickCounts'. -/
def pickCountsCard : Claim7 := { stood := { row := pickCountsRow, standIns := [], harness := (true, "483b48b7d7489ad3ec4d8b23e454198147834c8c1cd19c188ab2ad402df0db9d"), looks := false }, kinds := [], alts := [], laidByText := true, laidKinds := [.data], laidTests := true, laidLooks := .later }
def PickCountsCardSaid : Prop := Claim7.holds Tryd.pinned (.plain (OpenSpec.ofChange pickCountsSpec)) pickCountsCard

/-- THE TIED CARD OF 'drawlotlaw15.PickStakes'. -/
def pickStakesCard : Claim7 := { stood := { row := pickStakesRow, standIns := [], harness := (true, "483b48b7d7489ad3ec4d8b23e454198147834c8c1cd19c188ab2ad402df0db9d"), looks := false }, kinds := [], alts := [], laidByText := true, laidKinds := [.data], laidTests := true, laidLooks := .later }
def PickStakesCardSaid : Prop := Claim7.holds Tryd.pinned (.plain (OpenSpec.ofChange pickStakesSpec)) pickStakesCard

/-- THE SECOND FORM's CARD OF 'drawlotlaw15.PickCounts'. -/
def pickCountsUptoCard : Claim7 := { stood := { row := pickCountsUptoRow, standIns := [], harness := (true, "483b48b7d7489ad3ec4d8b23e454198147834c8c1cd19c188ab2ad402df0db9d"), looks := false }, kinds := [], alts := [], laidByText := true, laidKinds := [.data], laidTests := true, laidLooks := .later }
def PickCountsUptoCardSaid : Prop := Claim7.holds Tryd.pinned (.plain (OpenSpec.upto pickCountsSpec)) pickCountsUptoCard

/-- THE SECOND FORM's CARD OF 'drawlotlaw15.PickStakes'. -/
def pickStakesUptoCard : Claim7 := { stood := { row := pickStakesUptoRow, standIns := [], harness := (true, "483b48b7d7489ad3ec4d8b23e454198147834c8c1cd19c188ab2ad402df0db9d"), looks := false }, kinds := [], alts := [], laidByText := true, laidKinds := [.data], laidTests := true, laidLooks := .later }
def PickStakesUptoCardSaid : Prop := Claim7.holds Tryd.pinned (.plain (OpenSpec.upto pickStakesSpec)) pickStakesUptoCard
end Rows
end Go.Proofs.YtomkidgmpbjgeaaDoor

/-
  DERIVED. GIVEN WITH THE SEED: THE CARDS: each row of YtepclbmcacdhlaaDoorRows.lean that lists a variable, with what it lists TIED to the program's text (the seventh form; the later family's looks); each row that meets fmt, with fmt's text TOLD by the authors' own Lean function (tested against real Go, not proved from fmt's source: count such statements apart). THE CARD IS WHAT COUNTS. Prove the row's statement (the work); the ties are given (YtepclbmcacdhlaaDoorTie.lean); close each card by the builder's one call (the guide's Derived/Test/ToyasCard.lean, 'card_holds'). Laid BY PROGRAM, IN A SANDBOX (cutbox-door.mjs). By AI agents, Wed Nov 11 2026. No macro, syntax, notation, axiom, sorry.
-/
import Derived.Test.YtepclbmcacdhlaaDoorRows
import GoSem.ClaimSeven
namespace Go.Proofs.YtepclbmcacdhlaaDoor
namespace Rows

/-- THE TIED CARD OF 'drawlotlaw13.LeadCounts'. -/
def leadCountsCard : Claim7 := { stood := { row := leadCountsRow, standIns := [], harness := (true, "aff0d18152b041015f22d38a8e285b0138d17f3f585cb1b89586a917422e7851"), looks := false }, kinds := [], alts := [], laidByText := true, laidKinds := [.data, .data, .data], laidTests := true, laidLooks := .later }
def LeadCountsCardSaid : Prop := Claim7.holds Tryd.pinned (.plain (OpenSpec.ofChange leadCountsSpec)) leadCountsCard

/-- THE TIED CARD OF 'drawlotlaw13.LeadStakes'. -/
def leadStakesCard : Claim7 := { stood := { row := leadStakesRow, standIns := [], harness := (true, "aff0d18152b041015f22d38a8e285b0138d17f3f585cb1b89586a917422e7851"), looks := false }, kinds := [], alts := [], laidByText := true, laidKinds := [.data, .data, .data], laidTests := true, laidLooks := .later }
def LeadStakesCardSaid : Prop := Claim7.holds Tryd.pinned (.plain (OpenSpec.ofChange leadStakesSpec)) leadStakesCard

/-- THE SECOND FORM's CARD OF 'drawlotlaw13.LeadCounts'. -/
def leadCountsUptoCard : Claim7 := { stood := { row := leadCountsUptoRow, standIns := [], harness := (true, "aff0d18152b041015f22d38a8e285b0138d17f3f585cb1b89586a917422e7851"), looks := false }, kinds := [], alts := [], laidByText := true, laidKinds := [.data, .data, .data], laidTests := true, laidLooks := .later }
def LeadCountsUptoCardSaid : Prop := Claim7.holds Tryd.pinned (.plain (OpenSpec.upto leadCountsSpec)) leadCountsUptoCard

/-- THE SECOND FORM's CARD OF 'drawlotlaw13.LeadStakes'. -/
def leadStakesUptoCard : Claim7 := { stood := { row := leadStakesUptoRow, standIns := [], harness := (true, "aff0d18152b041015f22d38a8e285b0138d17f3f585cb1b89586a917422e7851"), looks := false }, kinds := [], alts := [], laidByText := true, laidKinds := [.data, .data, .data], laidTests := true, laidLooks := .later }
def LeadStakesUptoCardSaid : Prop := Claim7.holds Tryd.pinned (.plain (OpenSpec.upto leadStakesSpec)) leadStakesUptoCard
end Rows
end Go.Proofs.YtepclbmcacdhlaaDoor

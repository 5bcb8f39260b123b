/-
  DERIVED. GIVEN WITH THE SEED: THE CARDS: each row of YtilccjjagdedaaaDoorRows.lean that lists a variable, with what it lists TIED to the program's text (the seventh form; the later family's looks); each row that meets fmt, with fmt's text TOLD by the authors' own Lean function (tested against real Go, not proved from fmt's source: count such statements apart). THE CARD IS WHAT COUNTS. Prove the row's statement (the work); the ties are given (YtilccjjagdedaaaDoorTie.lean); close each card by the builder's one call (the guide's Derived/Test/ToyasCard.lean, 'card_holds'). Laid BY PROGRAM, IN A SANDBOX (cutbox-door.mjs). By AI agents, Wed Nov 11 2026. No macro, syntax, notation, axiom, sorry.
-/
import Derived.Test.YtilccjjagdedaaaDoorRows
import GoSem.ClaimSeven
namespace Go.Proofs.YtilccjjagdedaaaDoor
namespace Rows

/-- THE TIED CARD OF 'drawlotlaw12.ScanTrees'. -/
def scanTreesCard : Claim7 := { stood := { row := scanTreesRow, standIns := [], harness := (true, "b53f30a5981f73ae88dc65e84b47eead0b3cd7045d7472138c87530f7419a480"), looks := false }, kinds := [], alts := [], laidByText := true, laidKinds := [.data, .data], laidTests := true, laidLooks := .later }
def ScanTreesCardSaid : Prop := Claim7.holds Tryd.pinned (.plain (OpenSpec.ofChange scanTreesSpec)) scanTreesCard

/-- THE SECOND FORM's CARD OF 'drawlotlaw12.ScanTrees'. -/
def scanTreesUptoCard : Claim7 := { stood := { row := scanTreesUptoRow, standIns := [], harness := (true, "b53f30a5981f73ae88dc65e84b47eead0b3cd7045d7472138c87530f7419a480"), looks := false }, kinds := [], alts := [], laidByText := true, laidKinds := [.data, .data], laidTests := true, laidLooks := .later }
def ScanTreesUptoCardSaid : Prop := Claim7.holds Tryd.pinned (.plain (OpenSpec.upto scanTreesSpec)) scanTreesUptoCard
end Rows
end Go.Proofs.YtilccjjagdedaaaDoor

/-
  DERIVED. GIVEN WITH THE SEED: THE CARDS: each row of YtjmpbmgeaeemnaaDoorRows.lean that lists a variable, with what it lists TIED to the program's text (the seventh form; the later family's looks); each row that meets fmt, with fmt's text TOLD by the authors' own Lean function (tested against real Go, not proved from fmt's source: count such statements apart). THE CARD IS WHAT COUNTS. Prove the row's statement (the work); the ties are given (YtjmpbmgeaeemnaaDoorTie.lean); close each card by the builder's one call (the guide's Derived/Test/ToyasCard.lean, 'card_holds'). Laid BY PROGRAM, IN A SANDBOX (cutbox-door.mjs). By AI agents, Wed Nov 11 2026. No macro, syntax, notation, axiom, sorry.
-/
import Derived.Test.YtjmpbmgeaeemnaaDoorRows
import GoSem.ClaimSeven
namespace Go.Proofs.YtjmpbmgeaeemnaaDoor
namespace Rows

/-- THE TIED CARD OF 'drawlotlaw04.CompRounds'. -/
def compRoundsCard : Claim7 := { stood := { row := compRoundsRow, standIns := [], harness := (true, "47c2f3ac20c83e40ed0ea6f562b88c9d016be6acd0c2733f1d31c65fc0a29c6d"), looks := false }, kinds := [], alts := [], laidByText := true, laidKinds := [.data], laidTests := true, laidLooks := .later }
def CompRoundsCardSaid : Prop := Claim7.holds Tryd.pinned (.plain (OpenSpec.ofChange compRoundsSpec)) compRoundsCard

/-- THE TIED CARD OF 'drawlotlaw04.CompTakes'. -/
def compTakesCard : Claim7 := { stood := { row := compTakesRow, standIns := [], harness := (true, "47c2f3ac20c83e40ed0ea6f562b88c9d016be6acd0c2733f1d31c65fc0a29c6d"), looks := false }, kinds := [], alts := [], laidByText := true, laidKinds := [.data], laidTests := true, laidLooks := .later }
def CompTakesCardSaid : Prop := Claim7.holds Tryd.pinned (.plain (OpenSpec.ofChange compTakesSpec)) compTakesCard

/-- THE TIED CARD OF 'drawlotlaw04.CompBack'. -/
def compBackCard : Claim7 := { stood := { row := compBackRow, standIns := [], harness := (true, "47c2f3ac20c83e40ed0ea6f562b88c9d016be6acd0c2733f1d31c65fc0a29c6d"), looks := false }, kinds := [], alts := [], laidByText := true, laidKinds := [.data], laidTests := true, laidLooks := .later }
def CompBackCardSaid : Prop := Claim7.holds Tryd.pinned (.plain (OpenSpec.ofChange compBackSpec)) compBackCard

/-- THE TIED CARD OF 'drawlotlaw04.CompRoots'. -/
def compRootsCard : Claim7 := { stood := { row := compRootsRow, standIns := [], harness := (true, "47c2f3ac20c83e40ed0ea6f562b88c9d016be6acd0c2733f1d31c65fc0a29c6d"), looks := false }, kinds := [], alts := [], laidByText := true, laidKinds := [.data], laidTests := true, laidLooks := .later }
def CompRootsCardSaid : Prop := Claim7.holds Tryd.pinned (.plain (OpenSpec.ofChange compRootsSpec)) compRootsCard

/-- THE SECOND FORM's CARD OF 'drawlotlaw04.CompRounds'. -/
def compRoundsUptoCard : Claim7 := { stood := { row := compRoundsUptoRow, standIns := [], harness := (true, "47c2f3ac20c83e40ed0ea6f562b88c9d016be6acd0c2733f1d31c65fc0a29c6d"), looks := false }, kinds := [], alts := [], laidByText := true, laidKinds := [.data], laidTests := true, laidLooks := .later }
def CompRoundsUptoCardSaid : Prop := Claim7.holds Tryd.pinned (.plain (OpenSpec.upto compRoundsSpec)) compRoundsUptoCard

/-- THE SECOND FORM's CARD OF 'drawlotlaw04.CompTakes'. -/
def compTakesUptoCard : Claim7 := { stood := { row := compTakesUptoRow, standIns := [], harness := (true, "47c2f3ac20c83e40ed0ea6f562b88c9d016be6acd0c2733f1d31c65fc0a29c6d"), looks := false }, kinds := [], alts := [], laidByText := true, laidKinds := [.data], laidTests := true, laidLooks := .later }
def CompTakesUptoCardSaid : Prop := Claim7.holds Tryd.pinned (.plain (OpenSpec.upto compTakesSpec)) compTakesUptoCard

/-- THE SECOND FORM's CARD OF 'drawlotlaw04.CompBack'. -/
def compBackUptoCard : Claim7 := { stood := { row := compBackUptoRow, standIns := [], harness := (true, "47c2f3ac20c83e40ed0ea6f562b88c9d016be6acd0c2733f1d31c65fc0a29c6d"), looks := false }, kinds := [], alts := [], laidByText := true, laidKinds := [.data], laidTests := true, laidLooks := .later }
def CompBackUptoCardSaid : Prop := Claim7.holds Tryd.pinned (.plain (OpenSpec.upto compBackSpec)) compBackUptoCard

/-- THE SECOND FORM's CARD OF 'drawlotlaw04.CompRoots'. -/
def compRootsUptoCard : Claim7 := { stood := { row := compRootsUptoRow, standIns := [], harness := (true, "47c2f3ac20c83e40ed0ea6f562b88c9d016be6acd0c2733f1d31c65fc0a29c6d"), looks := false }, kinds := [], alts := [], laidByText := true, laidKinds := [.data], laidTests := true, laidLooks := .later }
def CompRootsUptoCardSaid : Prop := Claim7.holds Tryd.pinned (.plain (OpenSpec.upto compRootsSpec)) compRootsUptoCard
end Rows
end Go.Proofs.YtjmpbmgeaeemnaaDoor

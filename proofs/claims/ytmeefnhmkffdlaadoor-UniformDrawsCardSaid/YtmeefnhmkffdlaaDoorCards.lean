/-
  DERIVED. GIVEN WITH THE SEED: THE CARDS: each row of YtmeefnhmkffdlaaDoorRows.lean that lists a variable, with what it lists TIED to the program's text (the seventh form; the later family's looks); each row that meets fmt, with fmt's text TOLD by the authors' own Lean function (tested against real Go, not proved from fmt's source: count such statements apart). THE CARD IS WHAT COUNTS. Prove the row's statement (the work); the ties are given (YtmeefnhmkffdlaaDoorTie.lean); close each card by the builder's one call (the guide's Derived/Test/ToyasCard.lean, 'card_holds'). Laid BY PROGRAM, IN A SANDBOX (cutbox-door.mjs). By AI agents, Wed Nov 11 2026. No macro, syntax, notation, axiom, sorry.
-/
import Derived.Test.YtmeefnhmkffdlaaDoorRows
import GoSem.ClaimSeven
namespace Go.Proofs.YtmeefnhmkffdlaaDoor
namespace Rows

/-- THE TIED CARD OF 'drawlotlaw08.UniformDraws'. -/
def uniformDrawsCard : Claim7 := { stood := { row := uniformDrawsRow, standIns := [], harness := (true, "a89bae29d6eadc8e2abc08b7dfed986bd16979a683f62ab08fb0ff96cdeb4901"), looks := false }, kinds := [], alts := [], laidByText := true, laidKinds := [.data], laidTests := true, laidLooks := .later }
def UniformDrawsCardSaid : Prop := Claim7.holds Tryd.pinned (.plain (OpenSpec.ofChange uniformDrawsSpec)) uniformDrawsCard

/-- THE TIED CARD OF 'drawlotlaw08.UniformCounts'. -/
def uniformCountsCard : Claim7 := { stood := { row := uniformCountsRow, standIns := [], harness := (true, "a89bae29d6eadc8e2abc08b7dfed986bd16979a683f62ab08fb0ff96cdeb4901"), looks := false }, kinds := [], alts := [], laidByText := true, laidKinds := [.data], laidTests := true, laidLooks := .later }
def UniformCountsCardSaid : Prop := Claim7.holds Tryd.pinned (.plain (OpenSpec.ofChange uniformCountsSpec)) uniformCountsCard

/-- THE TIED CARD OF 'drawlotlaw08.UniformFirst'. -/
def uniformFirstCard : Claim7 := { stood := { row := uniformFirstRow, standIns := [], harness := (true, "a89bae29d6eadc8e2abc08b7dfed986bd16979a683f62ab08fb0ff96cdeb4901"), looks := false }, kinds := [], alts := [], laidByText := true, laidKinds := [.data], laidTests := true, laidLooks := .later }
def UniformFirstCardSaid : Prop := Claim7.holds Tryd.pinned (.plain (OpenSpec.ofChange uniformFirstSpec)) uniformFirstCard

/-- THE TIED CARD OF 'drawlotlaw08.UniformNeeds'. -/
def uniformNeedsCard : Claim7 := { stood := { row := uniformNeedsRow, standIns := [], harness := (true, "a89bae29d6eadc8e2abc08b7dfed986bd16979a683f62ab08fb0ff96cdeb4901"), looks := false }, kinds := [], alts := [], laidByText := true, laidKinds := [.data], laidTests := true, laidLooks := .later }
def UniformNeedsCardSaid : Prop := Claim7.holds Tryd.pinned (.plain (OpenSpec.ofChange uniformNeedsSpec)) uniformNeedsCard

/-- THE SECOND FORM's CARD OF 'drawlotlaw08.UniformDraws'. -/
def uniformDrawsUptoCard : Claim7 := { stood := { row := uniformDrawsUptoRow, standIns := [], harness := (true, "a89bae29d6eadc8e2abc08b7dfed986bd16979a683f62ab08fb0ff96cdeb4901"), looks := false }, kinds := [], alts := [], laidByText := true, laidKinds := [.data], laidTests := true, laidLooks := .later }
def UniformDrawsUptoCardSaid : Prop := Claim7.holds Tryd.pinned (.plain (OpenSpec.upto uniformDrawsSpec)) uniformDrawsUptoCard

/-- THE SECOND FORM's CARD OF 'drawlotlaw08.UniformCounts'. -/
def uniformCountsUptoCard : Claim7 := { stood := { row := uniformCountsUptoRow, standIns := [], harness := (true, "a89bae29d6eadc8e2abc08b7dfed986bd16979a683f62ab08fb0ff96cdeb4901"), looks := false }, kinds := [], alts := [], laidByText := true, laidKinds := [.data], laidTests := true, laidLooks := .later }
def UniformCountsUptoCardSaid : Prop := Claim7.holds Tryd.pinned (.plain (OpenSpec.upto uniformCountsSpec)) uniformCountsUptoCard

/-- THE SECOND FORM's CARD OF 'drawlotlaw08.UniformFirst'. -/
def uniformFirstUptoCard : Claim7 := { stood := { row := uniformFirstUptoRow, standIns := [], harness := (true, "a89bae29d6eadc8e2abc08b7dfed986bd16979a683f62ab08fb0ff96cdeb4901"), looks := false }, kinds := [], alts := [], laidByText := true, laidKinds := [.data], laidTests := true, laidLooks := .later }
def UniformFirstUptoCardSaid : Prop := Claim7.holds Tryd.pinned (.plain (OpenSpec.upto uniformFirstSpec)) uniformFirstUptoCard

/-- THE SECOND FORM's CARD OF 'drawlotlaw08.UniformNeeds'. -/
def uniformNeedsUptoCard : Claim7 := { stood := { row := uniformNeedsUptoRow, standIns := [], harness := (true, "a89bae29d6eadc8e2abc08b7dfed986bd16979a683f62ab08fb0ff96cdeb4901"), looks := false }, kinds := [], alts := [], laidByText := true, laidKinds := [.data], laidTests := true, laidLooks := .later }
def UniformNeedsUptoCardSaid : Prop := Claim7.holds Tryd.pinned (.plain (OpenSpec.upto uniformNeedsSpec)) uniformNeedsUptoCard
end Rows
end Go.Proofs.YtmeefnhmkffdlaaDoor

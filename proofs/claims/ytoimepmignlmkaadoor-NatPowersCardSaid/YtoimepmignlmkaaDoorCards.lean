/-
  DERIVED. GIVEN WITH THE SEED: THE CARDS: each row of YtoimepmignlmkaaDoorRows.lean that lists a variable, with what it lists TIED to the program's text (the seventh form; the later family's looks); each row that meets fmt, with fmt's text TOLD by the authors' own Lean function (tested against real Go, not proved from fmt's source: count such statements apart). THE CARD IS WHAT COUNTS. Prove the row's statement (the work); the ties are given (YtoimepmignlmkaaDoorTie.lean); close each card by the builder's one call (the guide's Derived/Test/ToyasCard.lean, 'card_holds'). Laid BY PROGRAM, IN A SANDBOX (cutbox-door.mjs). By AI agents, Wed Nov 11 2026. No macro, syntax, notation, axiom, sorry.
-/
import Derived.Test.YtoimepmignlmkaaDoorRows
import GoSem.ClaimSeven
namespace Go.Proofs.YtoimepmignlmkaaDoor
namespace Rows

/-- THE TIED CARD OF 'drawlotlaw10.NatSums'. -/
def natSumsCard : Claim7 := { stood := { row := natSumsRow, standIns := [], harness := (true, "891c146a528a283d74d803d3879688071c2050d970b6a6540a0d00f5ef0458a0"), looks := false }, kinds := [], alts := [], laidByText := true, laidKinds := [.data, .data, .data], laidTests := true, laidLooks := .later }
def NatSumsCardSaid : Prop := Claim7.holds Tryd.pinned (.plain (OpenSpec.ofChange natSumsSpec)) natSumsCard

/-- THE TIED CARD OF 'drawlotlaw10.NatTwo'. -/
def natTwoCard : Claim7 := { stood := { row := natTwoRow, standIns := [], harness := (true, "891c146a528a283d74d803d3879688071c2050d970b6a6540a0d00f5ef0458a0"), looks := false }, kinds := [], alts := [], laidByText := true, laidKinds := [.data, .data, .data], laidTests := true, laidLooks := .later }
def NatTwoCardSaid : Prop := Claim7.holds Tryd.pinned (.plain (OpenSpec.ofChange natTwoSpec)) natTwoCard

/-- THE TIED CARD OF 'drawlotlaw10.NatPowers'. -/
def natPowersCard : Claim7 := { stood := { row := natPowersRow, standIns := [], harness := (true, "891c146a528a283d74d803d3879688071c2050d970b6a6540a0d00f5ef0458a0"), looks := false }, kinds := [], alts := [], laidByText := true, laidKinds := [.data, .data, .data], laidTests := true, laidLooks := .later }
def NatPowersCardSaid : Prop := Claim7.holds Tryd.pinned (.plain (OpenSpec.ofChange natPowersSpec)) natPowersCard

/-- THE TIED CARD OF 'drawlotlaw10.NatBack'. -/
def natBackCard : Claim7 := { stood := { row := natBackRow, standIns := [], harness := (true, "891c146a528a283d74d803d3879688071c2050d970b6a6540a0d00f5ef0458a0"), looks := false }, kinds := [], alts := [], laidByText := true, laidKinds := [.data, .data, .data], laidTests := true, laidLooks := .later }
def NatBackCardSaid : Prop := Claim7.holds Tryd.pinned (.plain (OpenSpec.ofChange natBackSpec)) natBackCard

/-- THE TIED CARD OF 'drawlotlaw10.NatSplits'. -/
def natSplitsCard : Claim7 := { stood := { row := natSplitsRow, standIns := [], harness := (true, "891c146a528a283d74d803d3879688071c2050d970b6a6540a0d00f5ef0458a0"), looks := false }, kinds := [], alts := [], laidByText := true, laidKinds := [.data, .data, .data], laidTests := true, laidLooks := .later }
def NatSplitsCardSaid : Prop := Claim7.holds Tryd.pinned (.plain (OpenSpec.ofChange natSplitsSpec)) natSplitsCard

/-- THE SECOND FORM's CARD OF 'drawlotlaw10.NatSums'. -/
def natSumsUptoCard : Claim7 := { stood := { row := natSumsUptoRow, standIns := [], harness := (true, "891c146a528a283d74d803d3879688071c2050d970b6a6540a0d00f5ef0458a0"), looks := false }, kinds := [], alts := [], laidByText := true, laidKinds := [.data, .data, .data], laidTests := true, laidLooks := .later }
def NatSumsUptoCardSaid : Prop := Claim7.holds Tryd.pinned (.plain (OpenSpec.upto natSumsSpec)) natSumsUptoCard

/-- THE SECOND FORM's CARD OF 'drawlotlaw10.NatTwo'. -/
def natTwoUptoCard : Claim7 := { stood := { row := natTwoUptoRow, standIns := [], harness := (true, "891c146a528a283d74d803d3879688071c2050d970b6a6540a0d00f5ef0458a0"), looks := false }, kinds := [], alts := [], laidByText := true, laidKinds := [.data, .data, .data], laidTests := true, laidLooks := .later }
def NatTwoUptoCardSaid : Prop := Claim7.holds Tryd.pinned (.plain (OpenSpec.upto natTwoSpec)) natTwoUptoCard

/-- THE SECOND FORM's CARD OF 'drawlotlaw10.NatPowers'. -/
def natPowersUptoCard : Claim7 := { stood := { row := natPowersUptoRow, standIns := [], harness := (true, "891c146a528a283d74d803d3879688071c2050d970b6a6540a0d00f5ef0458a0"), looks := false }, kinds := [], alts := [], laidByText := true, laidKinds := [.data, .data, .data], laidTests := true, laidLooks := .later }
def NatPowersUptoCardSaid : Prop := Claim7.holds Tryd.pinned (.plain (OpenSpec.upto natPowersSpec)) natPowersUptoCard

/-- THE SECOND FORM's CARD OF 'drawlotlaw10.NatBack'. -/
def natBackUptoCard : Claim7 := { stood := { row := natBackUptoRow, standIns := [], harness := (true, "891c146a528a283d74d803d3879688071c2050d970b6a6540a0d00f5ef0458a0"), looks := false }, kinds := [], alts := [], laidByText := true, laidKinds := [.data, .data, .data], laidTests := true, laidLooks := .later }
def NatBackUptoCardSaid : Prop := Claim7.holds Tryd.pinned (.plain (OpenSpec.upto natBackSpec)) natBackUptoCard

/-- THE SECOND FORM's CARD OF 'drawlotlaw10.NatSplits'. -/
def natSplitsUptoCard : Claim7 := { stood := { row := natSplitsUptoRow, standIns := [], harness := (true, "891c146a528a283d74d803d3879688071c2050d970b6a6540a0d00f5ef0458a0"), looks := false }, kinds := [], alts := [], laidByText := true, laidKinds := [.data, .data, .data], laidTests := true, laidLooks := .later }
def NatSplitsUptoCardSaid : Prop := Claim7.holds Tryd.pinned (.plain (OpenSpec.upto natSplitsSpec)) natSplitsUptoCard
end Rows
end Go.Proofs.YtoimepmignlmkaaDoor

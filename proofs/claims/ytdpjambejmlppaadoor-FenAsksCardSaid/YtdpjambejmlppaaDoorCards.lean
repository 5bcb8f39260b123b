/-
  DERIVED. GIVEN WITH THE SEED: THE CARDS: each row of YtdpjambejmlppaaDoorRows.lean that lists a variable, with what it lists TIED to the program's text (the seventh form; the later family's looks); each row that meets fmt, with fmt's text TOLD by the authors' own Lean function (tested against real Go, not proved from fmt's source: count such statements apart). THE CARD IS WHAT COUNTS. Prove the row's statement (the work); the ties are given (YtdpjambejmlppaaDoorTie.lean); close each card by the builder's one call (the guide's Derived/Test/ToyasCard.lean, 'card_holds'). Laid BY PROGRAM, IN A SANDBOX (cutbox-door.mjs). By AI agents, Wed Nov 11 2026. No macro, syntax, notation, axiom, sorry.
-/
import Derived.Test.YtdpjambejmlppaaDoorRows
import GoSem.ClaimSeven
namespace Go.Proofs.YtdpjambejmlppaaDoor
namespace Rows

/-- THE TIED CARD OF 'drawlotlaw11.FenBuilds'. -/
def fenBuildsCard : Claim7 := { stood := { row := fenBuildsRow, standIns := [], harness := (true, "23c8bc7f82c0a6648045406d045260f9f1c0af71b50c2f9251d084a8a704940a"), looks := false }, kinds := [], alts := [], laidByText := true, laidKinds := [.data, .data], laidTests := true, laidLooks := .later }
def FenBuildsCardSaid : Prop := Claim7.holds Tryd.pinned (.plain (OpenSpec.ofChange fenBuildsSpec)) fenBuildsCard

/-- THE TIED CARD OF 'drawlotlaw11.FenAsks'. -/
def fenAsksCard : Claim7 := { stood := { row := fenAsksRow, standIns := [], harness := (true, "23c8bc7f82c0a6648045406d045260f9f1c0af71b50c2f9251d084a8a704940a"), looks := false }, kinds := [], alts := [], laidByText := true, laidKinds := [.data, .data], laidTests := true, laidLooks := .later }
def FenAsksCardSaid : Prop := Claim7.holds Tryd.pinned (.plain (OpenSpec.ofChange fenAsksSpec)) fenAsksCard

/-- THE TIED CARD OF 'drawlotlaw11.FenTurns'. -/
def fenTurnsCard : Claim7 := { stood := { row := fenTurnsRow, standIns := [], harness := (true, "23c8bc7f82c0a6648045406d045260f9f1c0af71b50c2f9251d084a8a704940a"), looks := false }, kinds := [], alts := [], laidByText := true, laidKinds := [.data, .data], laidTests := true, laidLooks := .later }
def FenTurnsCardSaid : Prop := Claim7.holds Tryd.pinned (.plain (OpenSpec.ofChange fenTurnsSpec)) fenTurnsCard

/-- THE TIED CARD OF 'drawlotlaw11.FenOwns'. -/
def fenOwnsCard : Claim7 := { stood := { row := fenOwnsRow, standIns := [], harness := (true, "23c8bc7f82c0a6648045406d045260f9f1c0af71b50c2f9251d084a8a704940a"), looks := false }, kinds := [], alts := [], laidByText := true, laidKinds := [.data, .data], laidTests := true, laidLooks := .later }
def FenOwnsCardSaid : Prop := Claim7.holds Tryd.pinned (.plain (OpenSpec.ofChange fenOwnsSpec)) fenOwnsCard

/-- THE TIED CARD OF 'drawlotlaw11.FenTotals'. -/
def fenTotalsCard : Claim7 := { stood := { row := fenTotalsRow, standIns := [], harness := (true, "23c8bc7f82c0a6648045406d045260f9f1c0af71b50c2f9251d084a8a704940a"), looks := false }, kinds := [], alts := [], laidByText := true, laidKinds := [.data, .data], laidTests := true, laidLooks := .later }
def FenTotalsCardSaid : Prop := Claim7.holds Tryd.pinned (.plain (OpenSpec.ofChange fenTotalsSpec)) fenTotalsCard

/-- THE SECOND FORM's CARD OF 'drawlotlaw11.FenBuilds'. -/
def fenBuildsUptoCard : Claim7 := { stood := { row := fenBuildsUptoRow, standIns := [], harness := (true, "23c8bc7f82c0a6648045406d045260f9f1c0af71b50c2f9251d084a8a704940a"), looks := false }, kinds := [], alts := [], laidByText := true, laidKinds := [.data, .data], laidTests := true, laidLooks := .later }
def FenBuildsUptoCardSaid : Prop := Claim7.holds Tryd.pinned (.plain (OpenSpec.upto fenBuildsSpec)) fenBuildsUptoCard

/-- THE SECOND FORM's CARD OF 'drawlotlaw11.FenAsks'. -/
def fenAsksUptoCard : Claim7 := { stood := { row := fenAsksUptoRow, standIns := [], harness := (true, "23c8bc7f82c0a6648045406d045260f9f1c0af71b50c2f9251d084a8a704940a"), looks := false }, kinds := [], alts := [], laidByText := true, laidKinds := [.data, .data], laidTests := true, laidLooks := .later }
def FenAsksUptoCardSaid : Prop := Claim7.holds Tryd.pinned (.plain (OpenSpec.upto fenAsksSpec)) fenAsksUptoCard

/-- THE SECOND FORM's CARD OF 'drawlotlaw11.FenTurns'. -/
def fenTurnsUptoCard : Claim7 := { stood := { row := fenTurnsUptoRow, standIns := [], harness := (true, "23c8bc7f82c0a6648045406d045260f9f1c0af71b50c2f9251d084a8a704940a"), looks := false }, kinds := [], alts := [], laidByText := true, laidKinds := [.data, .data], laidTests := true, laidLooks := .later }
def FenTurnsUptoCardSaid : Prop := Claim7.holds Tryd.pinned (.plain (OpenSpec.upto fenTurnsSpec)) fenTurnsUptoCard

/-- THE SECOND FORM's CARD OF 'drawlotlaw11.FenOwns'. -/
def fenOwnsUptoCard : Claim7 := { stood := { row := fenOwnsUptoRow, standIns := [], harness := (true, "23c8bc7f82c0a6648045406d045260f9f1c0af71b50c2f9251d084a8a704940a"), looks := false }, kinds := [], alts := [], laidByText := true, laidKinds := [.data, .data], laidTests := true, laidLooks := .later }
def FenOwnsUptoCardSaid : Prop := Claim7.holds Tryd.pinned (.plain (OpenSpec.upto fenOwnsSpec)) fenOwnsUptoCard

/-- THE SECOND FORM's CARD OF 'drawlotlaw11.FenTotals'. -/
def fenTotalsUptoCard : Claim7 := { stood := { row := fenTotalsUptoRow, standIns := [], harness := (true, "23c8bc7f82c0a6648045406d045260f9f1c0af71b50c2f9251d084a8a704940a"), looks := false }, kinds := [], alts := [], laidByText := true, laidKinds := [.data, .data], laidTests := true, laidLooks := .later }
def FenTotalsUptoCardSaid : Prop := Claim7.holds Tryd.pinned (.plain (OpenSpec.upto fenTotalsSpec)) fenTotalsUptoCard
end Rows
end Go.Proofs.YtdpjambejmlppaaDoor

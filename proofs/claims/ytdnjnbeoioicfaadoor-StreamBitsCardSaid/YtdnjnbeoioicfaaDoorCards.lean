/-
  DERIVED. GIVEN WITH THE SEED: THE CARDS: each row of YtdnjnbeoioicfaaDoorRows.lean that lists a variable, with what it lists TIED to the program's text (the seventh form; the later family's looks); each row that meets fmt, with fmt's text TOLD by the authors' own Lean function (tested against real Go, not proved from fmt's source: count such statements apart). THE CARD IS WHAT COUNTS. Prove the row's statement (the work); the ties are given (YtdnjnbeoioicfaaDoorTie.lean); close each card by the builder's one call (the guide's Derived/Test/ToyasCard.lean, 'card_holds'). Laid BY PROGRAM, IN A SANDBOX (cutbox-door.mjs). By AI agents, Wed Nov 11 2026. No macro, syntax, notation, axiom, sorry.
-/
import Derived.Test.YtdnjnbeoioicfaaDoorRows
import GoSem.ClaimSeven
namespace Go.Proofs.YtdnjnbeoioicfaaDoor
namespace Rows

/-- THE TIED CARD OF 'drawlotlaw06.StreamBlocks'. -/
def streamBlocksCard : Claim7 := { stood := { row := streamBlocksRow, standIns := [], harness := (true, "19f2cdfea07a65e4c8b7e6497cf70927c43ea54d669e3266f1c03e76afdaadde"), looks := false }, kinds := [], alts := [], laidByText := true, laidKinds := [.data], laidTests := true, laidLooks := .later }
def StreamBlocksCardSaid : Prop := Claim7.holds Tryd.pinned (.plain (OpenSpec.ofChange streamBlocksSpec)) streamBlocksCard

/-- THE TIED CARD OF 'drawlotlaw06.StreamBytes'. -/
def streamBytesCard : Claim7 := { stood := { row := streamBytesRow, standIns := [], harness := (true, "19f2cdfea07a65e4c8b7e6497cf70927c43ea54d669e3266f1c03e76afdaadde"), looks := false }, kinds := [], alts := [], laidByText := true, laidKinds := [.data], laidTests := true, laidLooks := .later }
def StreamBytesCardSaid : Prop := Claim7.holds Tryd.pinned (.plain (OpenSpec.ofChange streamBytesSpec)) streamBytesCard

/-- THE TIED CARD OF 'drawlotlaw06.StreamDomains'. -/
def streamDomainsCard : Claim7 := { stood := { row := streamDomainsRow, standIns := [], harness := (true, "19f2cdfea07a65e4c8b7e6497cf70927c43ea54d669e3266f1c03e76afdaadde"), looks := false }, kinds := [], alts := [], laidByText := true, laidKinds := [.data], laidTests := true, laidLooks := .later }
def StreamDomainsCardSaid : Prop := Claim7.holds Tryd.pinned (.plain (OpenSpec.ofChange streamDomainsSpec)) streamDomainsCard

/-- THE TIED CARD OF 'drawlotlaw06.StreamBits'. -/
def streamBitsCard : Claim7 := { stood := { row := streamBitsRow, standIns := [], harness := (true, "19f2cdfea07a65e4c8b7e6497cf70927c43ea54d669e3266f1c03e76afdaadde"), looks := false }, kinds := [], alts := [], laidByText := true, laidKinds := [.data], laidTests := true, laidLooks := .later }
def StreamBitsCardSaid : Prop := Claim7.holds Tryd.pinned (.plain (OpenSpec.ofChange streamBitsSpec)) streamBitsCard

/-- THE SECOND FORM's CARD OF 'drawlotlaw06.StreamBlocks'. -/
def streamBlocksUptoCard : Claim7 := { stood := { row := streamBlocksUptoRow, standIns := [], harness := (true, "19f2cdfea07a65e4c8b7e6497cf70927c43ea54d669e3266f1c03e76afdaadde"), looks := false }, kinds := [], alts := [], laidByText := true, laidKinds := [.data], laidTests := true, laidLooks := .later }
def StreamBlocksUptoCardSaid : Prop := Claim7.holds Tryd.pinned (.plain (OpenSpec.upto streamBlocksSpec)) streamBlocksUptoCard

/-- THE SECOND FORM's CARD OF 'drawlotlaw06.StreamBytes'. -/
def streamBytesUptoCard : Claim7 := { stood := { row := streamBytesUptoRow, standIns := [], harness := (true, "19f2cdfea07a65e4c8b7e6497cf70927c43ea54d669e3266f1c03e76afdaadde"), looks := false }, kinds := [], alts := [], laidByText := true, laidKinds := [.data], laidTests := true, laidLooks := .later }
def StreamBytesUptoCardSaid : Prop := Claim7.holds Tryd.pinned (.plain (OpenSpec.upto streamBytesSpec)) streamBytesUptoCard

/-- THE SECOND FORM's CARD OF 'drawlotlaw06.StreamDomains'. -/
def streamDomainsUptoCard : Claim7 := { stood := { row := streamDomainsUptoRow, standIns := [], harness := (true, "19f2cdfea07a65e4c8b7e6497cf70927c43ea54d669e3266f1c03e76afdaadde"), looks := false }, kinds := [], alts := [], laidByText := true, laidKinds := [.data], laidTests := true, laidLooks := .later }
def StreamDomainsUptoCardSaid : Prop := Claim7.holds Tryd.pinned (.plain (OpenSpec.upto streamDomainsSpec)) streamDomainsUptoCard

/-- THE SECOND FORM's CARD OF 'drawlotlaw06.StreamBits'. -/
def streamBitsUptoCard : Claim7 := { stood := { row := streamBitsUptoRow, standIns := [], harness := (true, "19f2cdfea07a65e4c8b7e6497cf70927c43ea54d669e3266f1c03e76afdaadde"), looks := false }, kinds := [], alts := [], laidByText := true, laidKinds := [.data], laidTests := true, laidLooks := .later }
def StreamBitsUptoCardSaid : Prop := Claim7.holds Tryd.pinned (.plain (OpenSpec.upto streamBitsSpec)) streamBitsUptoCard
end Rows
end Go.Proofs.YtdnjnbeoioicfaaDoor

/-
  No cell of these rows narrows 'for every input' (looked for: loops, veiled, ifaces, maps, wideKeys, modest, calm, conditions, laid).
  DERIVED. THE GIVEN ROWS OF THIS SEAT. 4 by the template 'for every input the law returns true; each argument reads behind the call as it read before'; 0 by the template 'total and deterministic' (their statements: YtacoknbibgkpbaaTotals.lean).
  GIVEN WITH THE SEED: the statements are not yours to turn. If you find one false, say at which input.
  Laid BY PROGRAM, IN A SANDBOX (cutbox-rows.mjs): the forced cells as the released guide's own fill.sh prints them over the translation 59126baef503104c… (all of the seat's roots in one cut). By AI agents, Wed Nov 11 2026. No macro, syntax, notation, axiom, sorry.
-/
import Derived.Test.YtacoknbibgkpbaaChecked
import GoSem.Claim
import GoSem.ClaimJoined
import GoSem.ClaimMapViews
import Derived.JoinedTies
import Derived.KernelRfl
namespace Go.Proofs.Ytacoknbibgkpbaa
/- THE CELL 'sum', in the pinned program and in every row, IS THE sha256 OF THE DUMP (.gsa) THAT YtacoknbibgkpbaaProg.lean LOADS. Nothing in Lean hashes anything: it is a label: what it is worth is what the hold of that sum in a sandbox is worth. -/
noncomputable def Try.pinned : Pinned := { name := "ytacoknbibgkpbaa", sum := "59126baef503104c1ca47b99bc6d0cde94c305b3893403d9f896ad293e4bacad", checked := Try.checked }
namespace Rows
def none {H : Type} : Left H := { results := [], args := [] }

/-- 'drawlotlaw09.SafeTwo': WHATEVER THE INPUT: true; the input reads as it did. -/
def safeTwoSpec : ChangeSpec := { name := "safeTwo", fn := fun _ => fun
  | [d1, d2] => { results := [.lit (.bool true)], args := [d1, d2] }
  | _ => none }
def safeTwoRow : OpenClaim := { program := "ytacoknbibgkpbaa", sum := "59126baef503104c1ca47b99bc6d0cde94c305b3893403d9f896ad293e4bacad", func := "drawlot/drawlotlaw09.SafeTwo", spec := "safeTwo", inPlace := ["math/bits.Add64", "math/bits.Sub64"], apart := false }
def SafeTwoSaid : Prop := safeTwoRow.holds Try.pinned (OpenSpec.ofChange safeTwoSpec)

/-- ITS FALSE NEIGHBOUR: 'it returns false'. Refute it at one input. -/
def safeTwoWrong : ChangeSpec := { name := "safeTwo", fn := fun _ => fun
  | [d1, d2] => { results := [.lit (.bool false)], args := [d1, d2] }
  | _ => none }
def SafeTwoWrongFalsely : Prop := safeTwoRow.holds Try.pinned (OpenSpec.ofChange safeTwoWrong)

/-- 'drawlotlaw09.SafeTotals': WHATEVER THE INPUT: true; the input reads as it did. -/
def safeTotalsSpec : ChangeSpec := { name := "safeTotals", fn := fun _ => fun
  | [d] => { results := [.lit (.bool true)], args := [d] }
  | _ => none }
def safeTotalsRow : OpenClaim := { program := "ytacoknbibgkpbaa", sum := "59126baef503104c1ca47b99bc6d0cde94c305b3893403d9f896ad293e4bacad", func := "drawlot/drawlotlaw09.SafeTotals", spec := "safeTotals", inPlace := ["math/bits.Add64", "math/bits.Sub64"], apart := false }
def SafeTotalsSaid : Prop := safeTotalsRow.holds Try.pinned (OpenSpec.ofChange safeTotalsSpec)

/-- ITS FALSE NEIGHBOUR: 'it returns false'. Refute it at one input. -/
def safeTotalsWrong : ChangeSpec := { name := "safeTotals", fn := fun _ => fun
  | [d] => { results := [.lit (.bool false)], args := [d] }
  | _ => none }
def SafeTotalsWrongFalsely : Prop := safeTotalsRow.holds Try.pinned (OpenSpec.ofChange safeTotalsWrong)

/-- 'drawlotlaw09.SafeBack': WHATEVER THE INPUT: true; the input reads as it did. -/
def safeBackSpec : ChangeSpec := { name := "safeBack", fn := fun _ => fun
  | [d1, d2] => { results := [.lit (.bool true)], args := [d1, d2] }
  | _ => none }
def safeBackRow : OpenClaim := { program := "ytacoknbibgkpbaa", sum := "59126baef503104c1ca47b99bc6d0cde94c305b3893403d9f896ad293e4bacad", func := "drawlot/drawlotlaw09.SafeBack", spec := "safeBack", inPlace := ["math/bits.Add64", "math/bits.Sub64"], apart := false }
def SafeBackSaid : Prop := safeBackRow.holds Try.pinned (OpenSpec.ofChange safeBackSpec)

/-- ITS FALSE NEIGHBOUR: 'it returns false'. Refute it at one input. -/
def safeBackWrong : ChangeSpec := { name := "safeBack", fn := fun _ => fun
  | [d1, d2] => { results := [.lit (.bool false)], args := [d1, d2] }
  | _ => none }
def SafeBackWrongFalsely : Prop := safeBackRow.holds Try.pinned (OpenSpec.ofChange safeBackWrong)

/-- 'drawlotlaw09.SafeSums': WHATEVER THE INPUT: true; the input reads as it did. -/
def safeSumsSpec : ChangeSpec := { name := "safeSums", fn := fun _ => fun
  | [d1, d2] => { results := [.lit (.bool true)], args := [d1, d2] }
  | _ => none }
def safeSumsRow : OpenClaim := { program := "ytacoknbibgkpbaa", sum := "59126baef503104c1ca47b99bc6d0cde94c305b3893403d9f896ad293e4bacad", func := "drawlot/drawlotlaw09.SafeSums", spec := "safeSums", inPlace := ["math/bits.Add64", "math/bits.Sub64"], apart := false }
def SafeSumsSaid : Prop := safeSumsRow.holds Try.pinned (OpenSpec.ofChange safeSumsSpec)

/-- ITS FALSE NEIGHBOUR: 'it returns false'. Refute it at one input. -/
def safeSumsWrong : ChangeSpec := { name := "safeSums", fn := fun _ => fun
  | [d1, d2] => { results := [.lit (.bool false)], args := [d1, d2] }
  | _ => none }
def SafeSumsWrongFalsely : Prop := safeSumsRow.holds Try.pinned (OpenSpec.ofChange safeSumsWrong)

/- THE SECOND FORM. 'bulk': how many values and letters a reading holds, each counted each time it is reached (what is shared counts as often as it is met; a slice's spare places count too). A statement '..UptoSaid' is the law's where the arguments, and the package variables that the reading takes, are together of bulk at most 1048576: NARROWER than '..Said'. Prove '..Said' where nothing that the law and all that it calls make is longer than what came in: it says more and counts as full. Else prove '..UptoSaid'. A law counts once. -/
mutual
def uptoBulk {H : Type} : DataW H → Nat
  | .lit (.string bytes) => bytes.length + 1
  | .lit _ => 1
  | .nil => 1
  | .ptr d => uptoBulk d + 1
  | .slice elems spare => uptoBulkAll elems + uptoBulkAll spare + 1
  | .agg parts => uptoBulkAll parts + 1
  | .iface _ d => uptoBulk d + 1
  | .map entries => uptoBulkEntries entries + 1
  | .held _ => 1
def uptoBulkAll {H : Type} : List (DataW H) → Nat
  | [] => 0
  | d :: r => uptoBulk d + uptoBulkAll r
def uptoBulkEntries {H : Type} : List (Lit × DataW H) → Nat
  | [] => 0
  | x :: r => uptoBulkEntry x + uptoBulkEntries r
def uptoBulkEntry {H : Type} : Lit × DataW H → Nat
  | (.string bytes, d) => bytes.length + uptoBulk d + 1
  | (_, d) => uptoBulk d + 1
 end
def uptoSmall : (H : Type) → List (DataW H) → Bool := fun _ ds => decide (uptoBulkAll ds ≤ 1048576)
def OpenSpec.upto (s : _root_.Go.ChangeSpec) : _root_.Go.OpenSpec := { _root_.Go.OpenSpec.ofChange s with cond := some uptoSmall }

/-- 'drawlotlaw09.SafeTwo', WHERE WHAT IT READS IS OF BULK AT MOST 1048576: true; the input reads as it did. -/
def safeTwoUptoRow : OpenClaim := { program := "ytacoknbibgkpbaa", sum := "59126baef503104c1ca47b99bc6d0cde94c305b3893403d9f896ad293e4bacad", func := "drawlot/drawlotlaw09.SafeTwo", spec := "safeTwo", inPlace := ["math/bits.Add64", "math/bits.Sub64"], apart := false, narrowed := true }
def SafeTwoUptoSaid : Prop := safeTwoUptoRow.holds Try.pinned (OpenSpec.upto safeTwoSpec)

/-- 'drawlotlaw09.SafeTotals', WHERE WHAT IT READS IS OF BULK AT MOST 1048576: true; the input reads as it did. -/
def safeTotalsUptoRow : OpenClaim := { program := "ytacoknbibgkpbaa", sum := "59126baef503104c1ca47b99bc6d0cde94c305b3893403d9f896ad293e4bacad", func := "drawlot/drawlotlaw09.SafeTotals", spec := "safeTotals", inPlace := ["math/bits.Add64", "math/bits.Sub64"], apart := false, narrowed := true }
def SafeTotalsUptoSaid : Prop := safeTotalsUptoRow.holds Try.pinned (OpenSpec.upto safeTotalsSpec)

/-- 'drawlotlaw09.SafeBack', WHERE WHAT IT READS IS OF BULK AT MOST 1048576: true; the input reads as it did. -/
def safeBackUptoRow : OpenClaim := { program := "ytacoknbibgkpbaa", sum := "59126baef503104c1ca47b99bc6d0cde94c305b3893403d9f896ad293e4bacad", func := "drawlot/drawlotlaw09.SafeBack", spec := "safeBack", inPlace := ["math/bits.Add64", "math/bits.Sub64"], apart := false, narrowed := true }
def SafeBackUptoSaid : Prop := safeBackUptoRow.holds Try.pinned (OpenSpec.upto safeBackSpec)

/-- 'drawlotlaw09.SafeSums', WHERE WHAT IT READS IS OF BULK AT MOST 1048576: true; the input reads as it did. -/
def safeSumsUptoRow : OpenClaim := { program := "ytacoknbibgkpbaa", sum := "59126baef503104c1ca47b99bc6d0cde94c305b3893403d9f896ad293e4bacad", func := "drawlot/drawlotlaw09.SafeSums", spec := "safeSums", inPlace := ["math/bits.Add64", "math/bits.Sub64"], apart := false, narrowed := true }
def SafeSumsUptoSaid : Prop := safeSumsUptoRow.holds Try.pinned (OpenSpec.upto safeSumsSpec)

end Rows
end Go.Proofs.Ytacoknbibgkpbaa

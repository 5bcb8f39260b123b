/-
  No cell of these rows narrows 'for every input' (looked for: loops, veiled, ifaces, maps, wideKeys, modest, calm, conditions, laid).
  DERIVED. THE GIVEN ROWS OF THIS SEAT. 5 by the template 'for every input the law returns true; each argument reads behind the call as it read before'; 0 by the template 'total and deterministic' (their statements: YtaaahgkpicjnoaaTotals.lean).
  GIVEN WITH THE SEED: the statements are not yours to turn. If you find one false, say at which input.
  Laid BY PROGRAM, IN A SANDBOX (cutbox-rows.mjs): the forced cells as the released guide's own fill.sh prints them over the translation 9682da3e9ae54a9c… (all of the seat's roots in one cut). By AI agents, Wed Nov 11 2026. No macro, syntax, notation, axiom, sorry.
-/
import Derived.Test.YtaaahgkpicjnoaaChecked
import GoSem.Claim
import GoSem.ClaimJoined
import GoSem.ClaimMapViews
import Derived.JoinedTies
import Derived.KernelRfl
namespace Go.Proofs.Ytaaahgkpicjnoaa
/- THE CELL 'sum', in the pinned program and in every row, IS THE sha256 OF THE DUMP (.gsa) THAT YtaaahgkpicjnoaaProg.lean LOADS. Nothing in Lean hashes anything: it is a label: what it is worth is what the hold of that sum in a sandbox is worth. -/
noncomputable def Try.pinned : Pinned := { name := "ytaaahgkpicjnoaa", sum := "9682da3e9ae54a9cdf473ae1d03ab15699e01ead78434b10f41646a6d6b9945d", checked := Try.checked }
namespace Rows
def none {H : Type} : Left H := { results := [], args := [] }

/-- 'drawlotlaw16.OddsBounds': WHATEVER THE INPUT: true; the input reads as it did. -/
def oddsBoundsSpec : ChangeSpec := { name := "oddsBounds", fn := fun _ => fun
  | [d1, d2, d3] => { results := [.lit (.bool true)], args := [d1, d2, d3] }
  | _ => none }
def oddsBoundsRow : OpenClaim := { program := "ytaaahgkpicjnoaa", sum := "9682da3e9ae54a9cdf473ae1d03ab15699e01ead78434b10f41646a6d6b9945d", func := "drawlot/drawlotlaw16.OddsBounds", spec := "oddsBounds", inPlace := ["math/bits.Add64"], unfollowed := true, recurses := true, named := ["math/bits.divideError", "math/bits.overflowError"], apart := false }
def OddsBoundsSaid : Prop := oddsBoundsRow.holds Try.pinned (OpenSpec.ofChange oddsBoundsSpec)

/-- ITS FALSE NEIGHBOUR: 'it returns false'. Refute it at one input. -/
def oddsBoundsWrong : ChangeSpec := { name := "oddsBounds", fn := fun _ => fun
  | [d1, d2, d3] => { results := [.lit (.bool false)], args := [d1, d2, d3] }
  | _ => none }
def OddsBoundsWrongFalsely : Prop := oddsBoundsRow.holds Try.pinned (OpenSpec.ofChange oddsBoundsWrong)

/-- 'drawlotlaw16.OddsStakes': WHATEVER THE INPUT: true; the input reads as it did. -/
def oddsStakesSpec : ChangeSpec := { name := "oddsStakes", fn := fun _ => fun
  | [d1, d2, d3] => { results := [.lit (.bool true)], args := [d1, d2, d3] }
  | _ => none }
def oddsStakesRow : OpenClaim := { program := "ytaaahgkpicjnoaa", sum := "9682da3e9ae54a9cdf473ae1d03ab15699e01ead78434b10f41646a6d6b9945d", func := "drawlot/drawlotlaw16.OddsStakes", spec := "oddsStakes", inPlace := ["math/bits.Add64"], unfollowed := true, recurses := true, named := ["math/bits.divideError", "math/bits.overflowError"], apart := false }
def OddsStakesSaid : Prop := oddsStakesRow.holds Try.pinned (OpenSpec.ofChange oddsStakesSpec)

/-- ITS FALSE NEIGHBOUR: 'it returns false'. Refute it at one input. -/
def oddsStakesWrong : ChangeSpec := { name := "oddsStakes", fn := fun _ => fun
  | [d1, d2, d3] => { results := [.lit (.bool false)], args := [d1, d2, d3] }
  | _ => none }
def OddsStakesWrongFalsely : Prop := oddsStakesRow.holds Try.pinned (OpenSpec.ofChange oddsStakesWrong)

/-- 'drawlotlaw16.OddsTogether': WHATEVER THE INPUT: true; the input reads as it did. -/
def oddsTogetherSpec : ChangeSpec := { name := "oddsTogether", fn := fun _ => fun
  | [d1, d2] => { results := [.lit (.bool true)], args := [d1, d2] }
  | _ => none }
def oddsTogetherRow : OpenClaim := { program := "ytaaahgkpicjnoaa", sum := "9682da3e9ae54a9cdf473ae1d03ab15699e01ead78434b10f41646a6d6b9945d", func := "drawlot/drawlotlaw16.OddsTogether", spec := "oddsTogether", inPlace := ["math/bits.Add64"], unfollowed := true, recurses := true, named := ["math/bits.divideError", "math/bits.overflowError"], apart := false }
def OddsTogetherSaid : Prop := oddsTogetherRow.holds Try.pinned (OpenSpec.ofChange oddsTogetherSpec)

/-- ITS FALSE NEIGHBOUR: 'it returns false'. Refute it at one input. -/
def oddsTogetherWrong : ChangeSpec := { name := "oddsTogether", fn := fun _ => fun
  | [d1, d2] => { results := [.lit (.bool false)], args := [d1, d2] }
  | _ => none }
def OddsTogetherWrongFalsely : Prop := oddsTogetherRow.holds Try.pinned (OpenSpec.ofChange oddsTogetherWrong)

/-- 'drawlotlaw16.OddsShares': WHATEVER THE INPUT: true; the input reads as it did. -/
def oddsSharesSpec : ChangeSpec := { name := "oddsShares", fn := fun _ => fun
  | [d1, d2, d3] => { results := [.lit (.bool true)], args := [d1, d2, d3] }
  | _ => none }
def oddsSharesRow : OpenClaim := { program := "ytaaahgkpicjnoaa", sum := "9682da3e9ae54a9cdf473ae1d03ab15699e01ead78434b10f41646a6d6b9945d", func := "drawlot/drawlotlaw16.OddsShares", spec := "oddsShares", inPlace := ["math/bits.Add64"], unfollowed := true, recurses := true, named := ["math/bits.divideError", "math/bits.overflowError"], apart := false }
def OddsSharesSaid : Prop := oddsSharesRow.holds Try.pinned (OpenSpec.ofChange oddsSharesSpec)

/-- ITS FALSE NEIGHBOUR: 'it returns false'. Refute it at one input. -/
def oddsSharesWrong : ChangeSpec := { name := "oddsShares", fn := fun _ => fun
  | [d1, d2, d3] => { results := [.lit (.bool false)], args := [d1, d2, d3] }
  | _ => none }
def OddsSharesWrongFalsely : Prop := oddsSharesRow.holds Try.pinned (OpenSpec.ofChange oddsSharesWrong)

/-- 'drawlotlaw16.OddsWhole': WHATEVER THE INPUT: true; the input reads as it did. -/
def oddsWholeSpec : ChangeSpec := { name := "oddsWhole", fn := fun _ => fun
  | [d1, d2, d3] => { results := [.lit (.bool true)], args := [d1, d2, d3] }
  | _ => none }
def oddsWholeRow : OpenClaim := { program := "ytaaahgkpicjnoaa", sum := "9682da3e9ae54a9cdf473ae1d03ab15699e01ead78434b10f41646a6d6b9945d", func := "drawlot/drawlotlaw16.OddsWhole", spec := "oddsWhole", inPlace := ["math/bits.Add64"], unfollowed := true, recurses := true, named := ["math/bits.divideError", "math/bits.overflowError"], apart := false }
def OddsWholeSaid : Prop := oddsWholeRow.holds Try.pinned (OpenSpec.ofChange oddsWholeSpec)

/-- ITS FALSE NEIGHBOUR: 'it returns false'. Refute it at one input. -/
def oddsWholeWrong : ChangeSpec := { name := "oddsWhole", fn := fun _ => fun
  | [d1, d2, d3] => { results := [.lit (.bool false)], args := [d1, d2, d3] }
  | _ => none }
def OddsWholeWrongFalsely : Prop := oddsWholeRow.holds Try.pinned (OpenSpec.ofChange oddsWholeWrong)

/- THE SECOND FORM. 'bulk': how many values and letters a reading holds, each counted each time it is reached (what is shared counts as often as it is met; a slice's spare places count too). A statement '..UptoSaid' is the law's where the arguments, and the package variables that the reading takes, are together of bulk at most 1048576: NARROWER than '..Said'. Prove '..Said' where nothing that the law and all that it calls make is longer than what came in: it says more and counts as full. Else prove '..UptoSaid'. A law counts once. -/
mutual
def uptoBulk {H : Type} : DataW H → Nat
  | .lit (.string bytes) => bytes.length + 1
  | .lit _ => 1
  | .nil => 1
  | .ptr d => uptoBulk d + 1
  | .slice elems spare => uptoBulkAll elems + uptoBulkAll spare + 1
  | .agg parts => uptoBulkAll parts + 1
  | .iface _ d => uptoBulk d + 1
  | .map entries => uptoBulkEntries entries + 1
  | .held _ => 1
def uptoBulkAll {H : Type} : List (DataW H) → Nat
  | [] => 0
  | d :: r => uptoBulk d + uptoBulkAll r
def uptoBulkEntries {H : Type} : List (Lit × DataW H) → Nat
  | [] => 0
  | x :: r => uptoBulkEntry x + uptoBulkEntries r
def uptoBulkEntry {H : Type} : Lit × DataW H → Nat
  | (.string bytes, d) => bytes.length + uptoBulk d + 1
  | (_, d) => uptoBulk d + 1
 end
def uptoSmall : (H : Type) → List (DataW H) → Bool := fun _ ds => decide (uptoBulkAll ds ≤ 1048576)
def OpenSpec.upto (s : _root_.Go.ChangeSpec) : _root_.Go.OpenSpec := { _root_.Go.OpenSpec.ofChange s with cond := some uptoSmall }

/-- 'drawlotlaw16.OddsBounds', WHERE WHAT IT READS IS OF BULK AT MOST 1048576: true; the input reads as it did. -/
def oddsBoundsUptoRow : OpenClaim := { program := "ytaaahgkpicjnoaa", sum := "9682da3e9ae54a9cdf473ae1d03ab15699e01ead78434b10f41646a6d6b9945d", func := "drawlot/drawlotlaw16.OddsBounds", spec := "oddsBounds", inPlace := ["math/bits.Add64"], unfollowed := true, recurses := true, named := ["math/bits.divideError", "math/bits.overflowError"], apart := false, narrowed := true }
def OddsBoundsUptoSaid : Prop := oddsBoundsUptoRow.holds Try.pinned (OpenSpec.upto oddsBoundsSpec)

/-- 'drawlotlaw16.OddsStakes', WHERE WHAT IT READS IS OF BULK AT MOST 1048576: true; the input reads as it did. -/
def oddsStakesUptoRow : OpenClaim := { program := "ytaaahgkpicjnoaa", sum := "9682da3e9ae54a9cdf473ae1d03ab15699e01ead78434b10f41646a6d6b9945d", func := "drawlot/drawlotlaw16.OddsStakes", spec := "oddsStakes", inPlace := ["math/bits.Add64"], unfollowed := true, recurses := true, named := ["math/bits.divideError", "math/bits.overflowError"], apart := false, narrowed := true }
def OddsStakesUptoSaid : Prop := oddsStakesUptoRow.holds Try.pinned (OpenSpec.upto oddsStakesSpec)

/-- 'drawlotlaw16.OddsTogether', WHERE WHAT IT READS IS OF BULK AT MOST 1048576: true; the input reads as it did. -/
def oddsTogetherUptoRow : OpenClaim := { program := "ytaaahgkpicjnoaa", sum := "9682da3e9ae54a9cdf473ae1d03ab15699e01ead78434b10f41646a6d6b9945d", func := "drawlot/drawlotlaw16.OddsTogether", spec := "oddsTogether", inPlace := ["math/bits.Add64"], unfollowed := true, recurses := true, named := ["math/bits.divideError", "math/bits.overflowError"], apart := false, narrowed := true }
def OddsTogetherUptoSaid : Prop := oddsTogetherUptoRow.holds Try.pinned (OpenSpec.upto oddsTogetherSpec)

/-- 'drawlotlaw16.OddsShares', WHERE WHAT IT READS IS OF BULK AT MOST 1048576: true; the input reads as it did. -/
def oddsSharesUptoRow : OpenClaim := { program := "ytaaahgkpicjnoaa", sum := "9682da3e9ae54a9cdf473ae1d03ab15699e01ead78434b10f41646a6d6b9945d", func := "drawlot/drawlotlaw16.OddsShares", spec := "oddsShares", inPlace := ["math/bits.Add64"], unfollowed := true, recurses := true, named := ["math/bits.divideError", "math/bits.overflowError"], apart := false, narrowed := true }
def OddsSharesUptoSaid : Prop := oddsSharesUptoRow.holds Try.pinned (OpenSpec.upto oddsSharesSpec)

/-- 'drawlotlaw16.OddsWhole', WHERE WHAT IT READS IS OF BULK AT MOST 1048576: true; the input reads as it did. -/
def oddsWholeUptoRow : OpenClaim := { program := "ytaaahgkpicjnoaa", sum := "9682da3e9ae54a9cdf473ae1d03ab15699e01ead78434b10f41646a6d6b9945d", func := "drawlot/drawlotlaw16.OddsWhole", spec := "oddsWhole", inPlace := ["math/bits.Add64"], unfollowed := true, recurses := true, named := ["math/bits.divideError", "math/bits.overflowError"], apart := false, narrowed := true }
def OddsWholeUptoSaid : Prop := oddsWholeUptoRow.holds Try.pinned (OpenSpec.upto oddsWholeSpec)

end Rows
end Go.Proofs.Ytaaahgkpicjnoaa

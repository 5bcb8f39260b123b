/-
  No cell of these rows narrows 'for every input' (looked for: loops, veiled, ifaces, maps, wideKeys, modest, calm, conditions, laid).
  DERIVED. THE GIVEN ROWS OF THIS SEAT. 5 by the template 'for every input the law returns true; each argument reads behind the call as it read before'; 0 by the template 'total and deterministic' (their statements: YtkgajcifanobnaaTotals.lean).
  GIVEN WITH THE SEED: the statements are not yours to turn. If you find one false, say at which input.
  Laid BY PROGRAM, IN A SANDBOX (cutbox-rows.mjs): the forced cells as the released guide's own fill.sh prints them over the translation 374fbca3bae25aa5… (all of the seat's roots in one cut). By AI agents, Wed Nov 11 2026. No macro, syntax, notation, axiom, sorry.
-/
import Derived.Test.YtkgajcifanobnaaChecked
import GoSem.Claim
import GoSem.ClaimJoined
import GoSem.ClaimMapViews
import Derived.JoinedTies
import Derived.KernelRfl
namespace Go.Proofs.Ytkgajcifanobnaa
/- THE CELL 'sum', in the pinned program and in every row, IS THE sha256 OF THE DUMP (.gsa) THAT YtkgajcifanobnaaProg.lean LOADS. Nothing in Lean hashes anything: it is a label: what it is worth is what the hold of that sum in a sandbox is worth. -/
noncomputable def Try.pinned : Pinned := { name := "ytkgajcifanobnaa", sum := "374fbca3bae25aa5162c0eb92376f84a1b3f4b178001bc9162fc14c291ae9ad3", checked := Try.checked }
namespace Rows
def none {H : Type} : Left H := { results := [], args := [] }

/-- 'drawlotlaw14.AliasBuilds': WHATEVER THE INPUT: true; the input reads as it did. -/
def aliasBuildsSpec : ChangeSpec := { name := "aliasBuilds", fn := fun _ => fun
  | [d] => { results := [.lit (.bool true)], args := [d] }
  | _ => none }
def aliasBuildsRow : OpenClaim := { program := "ytkgajcifanobnaa", sum := "374fbca3bae25aa5162c0eb92376f84a1b3f4b178001bc9162fc14c291ae9ad3", func := "drawlot/drawlotlaw14.AliasBuilds", spec := "aliasBuilds", inPlace := ["math/bits.Add64"], unfollowed := true, recurses := true, apart := false }
def AliasBuildsSaid : Prop := aliasBuildsRow.holds Try.pinned (OpenSpec.ofChange aliasBuildsSpec)

/-- ITS FALSE NEIGHBOUR: 'it returns false'. Refute it at one input. -/
def aliasBuildsWrong : ChangeSpec := { name := "aliasBuilds", fn := fun _ => fun
  | [d] => { results := [.lit (.bool false)], args := [d] }
  | _ => none }
def AliasBuildsWrongFalsely : Prop := aliasBuildsRow.holds Try.pinned (OpenSpec.ofChange aliasBuildsWrong)

/-- 'drawlotlaw14.AliasAsks': WHATEVER THE INPUT: true; the input reads as it did. -/
def aliasAsksSpec : ChangeSpec := { name := "aliasAsks", fn := fun _ => fun
  | [d1, d2, d3] => { results := [.lit (.bool true)], args := [d1, d2, d3] }
  | _ => none }
def aliasAsksRow : OpenClaim := { program := "ytkgajcifanobnaa", sum := "374fbca3bae25aa5162c0eb92376f84a1b3f4b178001bc9162fc14c291ae9ad3", func := "drawlot/drawlotlaw14.AliasAsks", spec := "aliasAsks", inPlace := ["math/bits.Add64"], unfollowed := true, recurses := true, apart := false }
def AliasAsksSaid : Prop := aliasAsksRow.holds Try.pinned (OpenSpec.ofChange aliasAsksSpec)

/-- ITS FALSE NEIGHBOUR: 'it returns false'. Refute it at one input. -/
def aliasAsksWrong : ChangeSpec := { name := "aliasAsks", fn := fun _ => fun
  | [d1, d2, d3] => { results := [.lit (.bool false)], args := [d1, d2, d3] }
  | _ => none }
def AliasAsksWrongFalsely : Prop := aliasAsksRow.holds Try.pinned (OpenSpec.ofChange aliasAsksWrong)

/-- 'drawlotlaw14.AliasSame': WHATEVER THE INPUT: true; the input reads as it did. -/
def aliasSameSpec : ChangeSpec := { name := "aliasSame", fn := fun _ => fun
  | [d1, d2] => { results := [.lit (.bool true)], args := [d1, d2] }
  | _ => none }
def aliasSameRow : OpenClaim := { program := "ytkgajcifanobnaa", sum := "374fbca3bae25aa5162c0eb92376f84a1b3f4b178001bc9162fc14c291ae9ad3", func := "drawlot/drawlotlaw14.AliasSame", spec := "aliasSame", inPlace := ["math/bits.Add64"], unfollowed := true, recurses := true, apart := false }
def AliasSameSaid : Prop := aliasSameRow.holds Try.pinned (OpenSpec.ofChange aliasSameSpec)

/-- ITS FALSE NEIGHBOUR: 'it returns false'. Refute it at one input. -/
def aliasSameWrong : ChangeSpec := { name := "aliasSame", fn := fun _ => fun
  | [d1, d2] => { results := [.lit (.bool false)], args := [d1, d2] }
  | _ => none }
def AliasSameWrongFalsely : Prop := aliasSameRow.holds Try.pinned (OpenSpec.ofChange aliasSameWrong)

/-- 'drawlotlaw14.AliasOwns': WHATEVER THE INPUT: true; the input reads as it did. -/
def aliasOwnsSpec : ChangeSpec := { name := "aliasOwns", fn := fun _ => fun
  | [d] => { results := [.lit (.bool true)], args := [d] }
  | _ => none }
def aliasOwnsRow : OpenClaim := { program := "ytkgajcifanobnaa", sum := "374fbca3bae25aa5162c0eb92376f84a1b3f4b178001bc9162fc14c291ae9ad3", func := "drawlot/drawlotlaw14.AliasOwns", spec := "aliasOwns", inPlace := ["math/bits.Add64"], unfollowed := true, recurses := true, apart := false }
def AliasOwnsSaid : Prop := aliasOwnsRow.holds Try.pinned (OpenSpec.ofChange aliasOwnsSpec)

/-- ITS FALSE NEIGHBOUR: 'it returns false'. Refute it at one input. -/
def aliasOwnsWrong : ChangeSpec := { name := "aliasOwns", fn := fun _ => fun
  | [d] => { results := [.lit (.bool false)], args := [d] }
  | _ => none }
def AliasOwnsWrongFalsely : Prop := aliasOwnsRow.holds Try.pinned (OpenSpec.ofChange aliasOwnsWrong)

/-- 'drawlotlaw14.AliasCounts': WHATEVER THE INPUT: true; the input reads as it did. -/
def aliasCountsSpec : ChangeSpec := { name := "aliasCounts", fn := fun _ => fun
  | [d] => { results := [.lit (.bool true)], args := [d] }
  | _ => none }
def aliasCountsRow : OpenClaim := { program := "ytkgajcifanobnaa", sum := "374fbca3bae25aa5162c0eb92376f84a1b3f4b178001bc9162fc14c291ae9ad3", func := "drawlot/drawlotlaw14.AliasCounts", spec := "aliasCounts", inPlace := ["math/bits.Add64"], unfollowed := true, recurses := true, apart := false }
def AliasCountsSaid : Prop := aliasCountsRow.holds Try.pinned (OpenSpec.ofChange aliasCountsSpec)

/-- ITS FALSE NEIGHBOUR: 'it returns false'. Refute it at one input. -/
def aliasCountsWrong : ChangeSpec := { name := "aliasCounts", fn := fun _ => fun
  | [d] => { results := [.lit (.bool false)], args := [d] }
  | _ => none }
def AliasCountsWrongFalsely : Prop := aliasCountsRow.holds Try.pinned (OpenSpec.ofChange aliasCountsWrong)

/- THE SECOND FORM. 'bulk': how many values and letters a reading holds, each counted each time it is reached (what is shared counts as often as it is met; a slice's spare places count too). A statement '..UptoSaid' is the law's where the arguments, and the package variables that the reading takes, are together of bulk at most 1048576: NARROWER than '..Said'. Prove '..Said' where nothing that the law and all that it calls make is longer than what came in: it says more and counts as full. Else prove '..UptoSaid'. A law counts once. -/
mutual
def uptoBulk {H : Type} : DataW H → Nat
  | .lit (.string bytes) => bytes.length + 1
  | .lit _ => 1
  | .nil => 1
  | .ptr d => uptoBulk d + 1
  | .slice elems spare => uptoBulkAll elems + uptoBulkAll spare + 1
  | .agg parts => uptoBulkAll parts + 1
  | .iface _ d => uptoBulk d + 1
  | .map entries => uptoBulkEntries entries + 1
  | .held _ => 1
def uptoBulkAll {H : Type} : List (DataW H) → Nat
  | [] => 0
  | d :: r => uptoBulk d + uptoBulkAll r
def uptoBulkEntries {H : Type} : List (Lit × DataW H) → Nat
  | [] => 0
  | x :: r => uptoBulkEntry x + uptoBulkEntries r
def uptoBulkEntry {H : Type} : Lit × DataW H → Nat
  | (.string bytes, d) => bytes.length + uptoBulk d + 1
  | (_, d) => uptoBulk d + 1
 end
def uptoSmall : (H : Type) → List (DataW H) → Bool := fun _ ds => decide (uptoBulkAll ds ≤ 1048576)
def OpenSpec.upto (s : _root_.Go.ChangeSpec) : _root_.Go.OpenSpec := { _root_.Go.OpenSpec.ofChange s with cond := some uptoSmall }

/-- 'drawlotlaw14.AliasBuilds', WHERE WHAT IT READS IS OF BULK AT MOST 1048576: true; the input reads as it did. -/
def aliasBuildsUptoRow : OpenClaim := { program := "ytkgajcifanobnaa", sum := "374fbca3bae25aa5162c0eb92376f84a1b3f4b178001bc9162fc14c291ae9ad3", func := "drawlot/drawlotlaw14.AliasBuilds", spec := "aliasBuilds", inPlace := ["math/bits.Add64"], unfollowed := true, recurses := true, apart := false, narrowed := true }
def AliasBuildsUptoSaid : Prop := aliasBuildsUptoRow.holds Try.pinned (OpenSpec.upto aliasBuildsSpec)

/-- 'drawlotlaw14.AliasAsks', WHERE WHAT IT READS IS OF BULK AT MOST 1048576: true; the input reads as it did. -/
def aliasAsksUptoRow : OpenClaim := { program := "ytkgajcifanobnaa", sum := "374fbca3bae25aa5162c0eb92376f84a1b3f4b178001bc9162fc14c291ae9ad3", func := "drawlot/drawlotlaw14.AliasAsks", spec := "aliasAsks", inPlace := ["math/bits.Add64"], unfollowed := true, recurses := true, apart := false, narrowed := true }
def AliasAsksUptoSaid : Prop := aliasAsksUptoRow.holds Try.pinned (OpenSpec.upto aliasAsksSpec)

/-- 'drawlotlaw14.AliasSame', WHERE WHAT IT READS IS OF BULK AT MOST 1048576: true; the input reads as it did. -/
def aliasSameUptoRow : OpenClaim := { program := "ytkgajcifanobnaa", sum := "374fbca3bae25aa5162c0eb92376f84a1b3f4b178001bc9162fc14c291ae9ad3", func := "drawlot/drawlotlaw14.AliasSame", spec := "aliasSame", inPlace := ["math/bits.Add64"], unfollowed := true, recurses := true, apart := false, narrowed := true }
def AliasSameUptoSaid : Prop := aliasSameUptoRow.holds Try.pinned (OpenSpec.upto aliasSameSpec)

/-- 'drawlotlaw14.AliasOwns', WHERE WHAT IT READS IS OF BULK AT MOST 1048576: true; the input reads as it did. -/
def aliasOwnsUptoRow : OpenClaim := { program := "ytkgajcifanobnaa", sum := "374fbca3bae25aa5162c0eb92376f84a1b3f4b178001bc9162fc14c291ae9ad3", func := "drawlot/drawlotlaw14.AliasOwns", spec := "aliasOwns", inPlace := ["math/bits.Add64"], unfollowed := true, recurses := true, apart := false, narrowed := true }
def AliasOwnsUptoSaid : Prop := aliasOwnsUptoRow.holds Try.pinned (OpenSpec.upto aliasOwnsSpec)

/-- 'drawlotlaw14.AliasCounts', WHERE WHAT IT READS IS OF BULK AT MOST 1048576: true; the input reads as it did. -/
def aliasCountsUptoRow : OpenClaim := { program := "ytkgajcifanobnaa", sum := "374fbca3bae25aa5162c0eb92376f84a1b3f4b178001bc9162fc14c291ae9ad3", func := "drawlot/drawlotlaw14.AliasCounts", spec := "aliasCounts", inPlace := ["math/bits.Add64"], unfollowed := true, recurses := true, apart := false, narrowed := true }
def AliasCountsUptoSaid : Prop := aliasCountsUptoRow.holds Try.pinned (OpenSpec.upto aliasCountsSpec)

end Rows
end Go.Proofs.Ytkgajcifanobnaa

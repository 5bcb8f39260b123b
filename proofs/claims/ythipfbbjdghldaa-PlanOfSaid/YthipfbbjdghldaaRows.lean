/-
  No cell of these rows narrows 'for every input' (looked for: loops, veiled, ifaces, maps, wideKeys, modest, calm, conditions, laid).
  DERIVED. THE GIVEN ROWS OF THIS SEAT. 4 by the template 'for every input the law returns true; each argument reads behind the call as it read before'; 0 by the template 'total and deterministic' (their statements: YthipfbbjdghldaaTotals.lean).
  GIVEN WITH THE SEED: the statements are not yours to turn. If you find one false, say at which input.
  Laid BY PROGRAM, IN A SANDBOX (cutbox-rows.mjs): the forced cells as the released guide's own fill.sh prints them over the translation ad1516417d0193e9… (all of the seat's roots in one cut). By AI agents, Wed Nov 11 2026. No macro, syntax, notation, axiom, sorry.
-/
import Derived.Test.YthipfbbjdghldaaChecked
import GoSem.Claim
import GoSem.ClaimJoined
import GoSem.ClaimMapViews
import Derived.JoinedTies
import Derived.KernelRfl
namespace Go.Proofs.Ythipfbbjdghldaa
/- THE CELL 'sum', in the pinned program and in every row, IS THE sha256 OF THE DUMP (.gsa) THAT YthipfbbjdghldaaProg.lean LOADS. Nothing in Lean hashes anything: it is a label: what it is worth is what the hold of that sum in a sandbox is worth. -/
noncomputable def Try.pinned : Pinned := { name := "ythipfbbjdghldaa", sum := "ad1516417d0193e9d9167394c1bb8f359758d07aa8b1db9d7e3ff750d57726e1", checked := Try.checked }
namespace Rows
def none {H : Type} : Left H := { results := [], args := [] }

/-- 'drawlotlaw03.PlanMixes': WHATEVER THE INPUT: true; the input reads as it did. -/
def planMixesSpec : ChangeSpec := { name := "planMixes", fn := fun _ => fun
  | [d] => { results := [.lit (.bool true)], args := [d] }
  | _ => none }
def planMixesRow : OpenClaim := { program := "ythipfbbjdghldaa", sum := "ad1516417d0193e9d9167394c1bb8f359758d07aa8b1db9d7e3ff750d57726e1", func := "drawlot/drawlotlaw03.PlanMixes", spec := "planMixes", apart := false }
def PlanMixesSaid : Prop := planMixesRow.holds Try.pinned (OpenSpec.ofChange planMixesSpec)

/-- ITS FALSE NEIGHBOUR: 'it returns false'. Refute it at one input. -/
def planMixesWrong : ChangeSpec := { name := "planMixes", fn := fun _ => fun
  | [d] => { results := [.lit (.bool false)], args := [d] }
  | _ => none }
def PlanMixesWrongFalsely : Prop := planMixesRow.holds Try.pinned (OpenSpec.ofChange planMixesWrong)

/-- 'drawlotlaw03.PlanOf': WHATEVER THE INPUT: true; the input reads as it did. -/
def planOfSpec : ChangeSpec := { name := "planOf", fn := fun _ => fun
  | [d1, d2] => { results := [.lit (.bool true)], args := [d1, d2] }
  | _ => none }
def planOfRow : OpenClaim := { program := "ythipfbbjdghldaa", sum := "ad1516417d0193e9d9167394c1bb8f359758d07aa8b1db9d7e3ff750d57726e1", func := "drawlot/drawlotlaw03.PlanOf", spec := "planOf", apart := false }
def PlanOfSaid : Prop := planOfRow.holds Try.pinned (OpenSpec.ofChange planOfSpec)

/-- ITS FALSE NEIGHBOUR: 'it returns false'. Refute it at one input. -/
def planOfWrong : ChangeSpec := { name := "planOf", fn := fun _ => fun
  | [d1, d2] => { results := [.lit (.bool false)], args := [d1, d2] }
  | _ => none }
def PlanOfWrongFalsely : Prop := planOfRow.holds Try.pinned (OpenSpec.ofChange planOfWrong)

/-- 'drawlotlaw03.PlanBack': WHATEVER THE INPUT: true; the input reads as it did. -/
def planBackSpec : ChangeSpec := { name := "planBack", fn := fun _ => fun
  | [d1, d2] => { results := [.lit (.bool true)], args := [d1, d2] }
  | _ => none }
def planBackRow : OpenClaim := { program := "ythipfbbjdghldaa", sum := "ad1516417d0193e9d9167394c1bb8f359758d07aa8b1db9d7e3ff750d57726e1", func := "drawlot/drawlotlaw03.PlanBack", spec := "planBack", apart := false }
def PlanBackSaid : Prop := planBackRow.holds Try.pinned (OpenSpec.ofChange planBackSpec)

/-- ITS FALSE NEIGHBOUR: 'it returns false'. Refute it at one input. -/
def planBackWrong : ChangeSpec := { name := "planBack", fn := fun _ => fun
  | [d1, d2] => { results := [.lit (.bool false)], args := [d1, d2] }
  | _ => none }
def PlanBackWrongFalsely : Prop := planBackRow.holds Try.pinned (OpenSpec.ofChange planBackWrong)

/-- 'drawlotlaw03.PlanAny': WHATEVER THE INPUT: true; the input reads as it did. -/
def planAnySpec : ChangeSpec := { name := "planAny", fn := fun _ => fun
  | [d1, d2] => { results := [.lit (.bool true)], args := [d1, d2] }
  | _ => none }
def planAnyRow : OpenClaim := { program := "ythipfbbjdghldaa", sum := "ad1516417d0193e9d9167394c1bb8f359758d07aa8b1db9d7e3ff750d57726e1", func := "drawlot/drawlotlaw03.PlanAny", spec := "planAny", apart := false }
def PlanAnySaid : Prop := planAnyRow.holds Try.pinned (OpenSpec.ofChange planAnySpec)

/-- ITS FALSE NEIGHBOUR: 'it returns false'. Refute it at one input. -/
def planAnyWrong : ChangeSpec := { name := "planAny", fn := fun _ => fun
  | [d1, d2] => { results := [.lit (.bool false)], args := [d1, d2] }
  | _ => none }
def PlanAnyWrongFalsely : Prop := planAnyRow.holds Try.pinned (OpenSpec.ofChange planAnyWrong)

/- THE SECOND FORM. 'bulk': how many values and letters a reading holds, each counted each time it is reached (what is shared counts as often as it is met; a slice's spare places count too). A statement '..UptoSaid' is the law's where the arguments, and the package variables that the reading takes, are together of bulk at most 1048576: NARROWER than '..Said'. Prove '..Said' where nothing that the law and all that it calls make is longer than what came in: it says more and counts as full. Else prove '..UptoSaid'. A law counts once. -/
mutual
def uptoBulk {H : Type} : DataW H → Nat
  | .lit (.string bytes) => bytes.length + 1
  | .lit _ => 1
  | .nil => 1
  | .ptr d => uptoBulk d + 1
  | .slice elems spare => uptoBulkAll elems + uptoBulkAll spare + 1
  | .agg parts => uptoBulkAll parts + 1
  | .iface _ d => uptoBulk d + 1
  | .map entries => uptoBulkEntries entries + 1
  | .held _ => 1
def uptoBulkAll {H : Type} : List (DataW H) → Nat
  | [] => 0
  | d :: r => uptoBulk d + uptoBulkAll r
def uptoBulkEntries {H : Type} : List (Lit × DataW H) → Nat
  | [] => 0
  | x :: r => uptoBulkEntry x + uptoBulkEntries r
def uptoBulkEntry {H : Type} : Lit × DataW H → Nat
  | (.string bytes, d) => bytes.length + uptoBulk d + 1
  | (_, d) => uptoBulk d + 1
 end
def uptoSmall : (H : Type) → List (DataW H) → Bool := fun _ ds => decide (uptoBulkAll ds ≤ 1048576)
def OpenSpec.upto (s : _root_.Go.ChangeSpec) : _root_.Go.OpenSpec := { _root_.Go.OpenSpec.ofChange s with cond := some uptoSmall }

/-- 'drawlotlaw03.PlanMixes', WHERE WHAT IT READS IS OF BULK AT MOST 1048576: true; the input reads as it did. -/
def planMixesUptoRow : OpenClaim := { program := "ythipfbbjdghldaa", sum := "ad1516417d0193e9d9167394c1bb8f359758d07aa8b1db9d7e3ff750d57726e1", func := "drawlot/drawlotlaw03.PlanMixes", spec := "planMixes", apart := false, narrowed := true }
def PlanMixesUptoSaid : Prop := planMixesUptoRow.holds Try.pinned (OpenSpec.upto planMixesSpec)

/-- 'drawlotlaw03.PlanOf', WHERE WHAT IT READS IS OF BULK AT MOST 1048576: true; the input reads as it did. -/
def planOfUptoRow : OpenClaim := { program := "ythipfbbjdghldaa", sum := "ad1516417d0193e9d9167394c1bb8f359758d07aa8b1db9d7e3ff750d57726e1", func := "drawlot/drawlotlaw03.PlanOf", spec := "planOf", apart := false, narrowed := true }
def PlanOfUptoSaid : Prop := planOfUptoRow.holds Try.pinned (OpenSpec.upto planOfSpec)

/-- 'drawlotlaw03.PlanBack', WHERE WHAT IT READS IS OF BULK AT MOST 1048576: true; the input reads as it did. -/
def planBackUptoRow : OpenClaim := { program := "ythipfbbjdghldaa", sum := "ad1516417d0193e9d9167394c1bb8f359758d07aa8b1db9d7e3ff750d57726e1", func := "drawlot/drawlotlaw03.PlanBack", spec := "planBack", apart := false, narrowed := true }
def PlanBackUptoSaid : Prop := planBackUptoRow.holds Try.pinned (OpenSpec.upto planBackSpec)

/-- 'drawlotlaw03.PlanAny', WHERE WHAT IT READS IS OF BULK AT MOST 1048576: true; the input reads as it did. -/
def planAnyUptoRow : OpenClaim := { program := "ythipfbbjdghldaa", sum := "ad1516417d0193e9d9167394c1bb8f359758d07aa8b1db9d7e3ff750d57726e1", func := "drawlot/drawlotlaw03.PlanAny", spec := "planAny", apart := false, narrowed := true }
def PlanAnyUptoSaid : Prop := planAnyUptoRow.holds Try.pinned (OpenSpec.upto planAnySpec)

end Rows
end Go.Proofs.Ythipfbbjdghldaa

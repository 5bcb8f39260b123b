/-
  How the answers of package pad are said: what is handed back, as it reads.
  Conditions: those that each theorem names.
-/
import Derived.Test.YtdnjnbeoioicfaaDoorRefB
namespace Go.Proofs.YtdnjnbeoioicfaaDoor
open Go.ChangeShapes Go.WideShapes Go.ChangeAt Go.RowKit
set_option linter.unusedVariables false
def RetTailR (w : World) (zs : List Int) (e : Ending) (w' : World) : Prop := ∃ A c, e = .returned (.tuple #[.slice A zs.length c, .bool true]) ∧ Rd .u8 w' w'.heap.size A zs.length zs ∧ zs.length ≤ c ∧ Below w.heap.size w w'
def RetNo (w : World) (e : Ending) (w' : World) : Prop := ∃ A c, e = .returned (.tuple #[.slice A 0 c, .bool false]) ∧ Below w.heap.size w w'
def RetR (w : World) (zs : List Int) (e : Ending) (w' : World) : Prop := ∃ A c, e = .returned (.slice A zs.length c) ∧ Rd .u8 w' w'.heap.size A zs.length zs ∧ zs.length ≤ c ∧ Below w.heap.size w w'
def RetCutR (w : World) (zs : List Int) (q L : Nat) (bs : List (List Int)) (e : Ending) (w' : World) : Prop :=
  ∃ A1 c1 A2 c2, e = .returned (.tuple #[.slice A1 bs.length c1, .slice A2 (L - 64 * q) c2]) ∧ RdA .u8 64 w' w'.heap.size A1 bs.length bs ∧ Rd .u8 w' w'.heap.size A2 (L - 64 * q) (zs.drop (64 * q)) ∧ L - 64 * q ≤ c2 ∧ Below w.heap.size w w'
end Go.Proofs.YtdnjnbeoioicfaaDoor

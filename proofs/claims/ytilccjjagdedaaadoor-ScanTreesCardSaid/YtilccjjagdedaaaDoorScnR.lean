/-
  What the reference's calls of stage 12 return (Total, Owner, Positive, Without), and that memory is left as it was.
  Conditions: the arguments lie in their types' ranges; Without's list has at most 100,000,000 numbers.
-/
import Derived.Test.YtilccjjagdedaaaDoorScnM
import Derived.Test.YtilccjjagdedaaaDoorRefP
set_option maxRecDepth 100000
set_option linter.unusedVariables false
set_option linter.unusedSimpArgs false
namespace Go.Proofs.YtilccjjagdedaaaDoor
open Go.ChangeShapes Go.WideShapes Go.ChangeAt Go.RowKit
theorem ret_uui {a b c d : Int} (h : a = b) (h2 : c = d) : Ending.returned (.tuple #[.int .u64 a, .int .i64 c]) = .returned (.tuple #[.int .u64 b, .int .i64 d]) := by rw [h, h2]
end Go.Proofs.YtilccjjagdedaaaDoor

/-
  What the landed Set returns: the numbers that hold a place, each changed by what the stake differs.
  Conditions: those that each theorem names; the library's table of trailing zeros is as the program's text lays it.
-/
import Derived.Test.YtilccjjagdedaaaDoorFenG
import Derived.Test.YtilccjjagdedaaaDoorFenF
import Derived.Test.YtilccjjagdedaaaDoorSafA
set_option maxRecDepth 100000
set_option linter.unusedVariables false
set_option linter.unusedSimpArgs false
namespace Go.Proofs.YtilccjjagdedaaaDoor
open Go.ChangeShapes Go.WideShapes Go.ChangeAt Go.RowKit
end Go.Proofs.YtilccjjagdedaaaDoor

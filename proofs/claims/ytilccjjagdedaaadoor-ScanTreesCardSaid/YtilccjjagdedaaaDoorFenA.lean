/-
  What the landed Grow and Same return; with them, all of the landed fen.
  Conditions: those that each theorem names; the library's table of trailing zeros is as the program's text lays it.
-/
import Derived.Test.YtilccjjagdedaaaDoorFenH
import Derived.Test.YtilccjjagdedaaaDoorFenI
import Derived.Test.YtilccjjagdedaaaDoorFenJ
import Derived.Test.YtilccjjagdedaaaDoorFenF
set_option maxRecDepth 100000
set_option linter.unusedVariables false
set_option linter.unusedSimpArgs false
namespace Go.Proofs.YtilccjjagdedaaaDoor
open Go.ChangeShapes Go.WideShapes Go.ChangeAt Go.RowKit
end Go.Proofs.YtilccjjagdedaaaDoor

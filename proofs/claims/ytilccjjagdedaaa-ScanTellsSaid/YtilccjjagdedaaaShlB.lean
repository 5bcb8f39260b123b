/-
  The library's contracts for bits.TrailingZeros, bits.Len and slices.Grow, laid over this program.
  Conditions: those that each theorem names.
-/
import Derived.Test.YtilccjjagdedaaaRows
import Derived.Shelf.Strconv.Itoa0
import Derived.Shelf.Small.Bits
import Derived.Shelf.Spec.TrailingZeros
import Derived.Shelf.Spec.SlicesGrow
set_option maxRecDepth 100000
set_option linter.unusedVariables false
set_option linter.unusedSimpArgs false
namespace Go.Proofs.Ytilccjjagdedaaa
end Go.Proofs.Ytilccjjagdedaaa

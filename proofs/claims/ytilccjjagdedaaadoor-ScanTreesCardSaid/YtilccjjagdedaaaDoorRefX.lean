/-
  What drawlotref11's low, sum and Owner return.
  Conditions: the number is above 0 and below 2^62; the stakes aren't below 0, their sum is below 2^63 (sum).
-/
import Derived.Test.YtilccjjagdedaaaDoorRefP
import Derived.Test.YtilccjjagdedaaaDoorFenP
set_option maxRecDepth 100000
set_option linter.unusedSimpArgs false
namespace Go.Proofs.YtilccjjagdedaaaDoor
open Go.ChangeShapes Go.WideShapes Go.ChangeAt Go.RowKit
set_option linter.unusedVariables false
theorem ret_i64 {a b : Nat} (h : a = b) : Ending.returned (.int .i64 (a : Int)) = .returned (.int .i64 (b : Int)) := by rw [h]
/-- The place whose stake holds the ticket, from a place on. -/
def ownF : List Int → Int → Nat → Option Nat
  | [], _, _ => none
  | x :: l, t, i => if t < x then some i else ownF l (t - x) (i + 1)
def ownV (l : List Int) (t : Int) : Int := match ownF l t 0 with
  | some i => (i : Int)
  | none => 0
def ownE (l : List Int) (t : Int) : Int := match ownF l t 0 with
  | some _ => 0
  | none => 3
theorem ownF_step {l : List Int} {k : Nat} (h : k < l.length) (t : Int) : ownF (l.drop k) t k = if t < l.getD k 0 then some k else ownF (l.drop (k + 1)) (t - l.getD k 0) (k + 1) := by
  rw [List.drop_eq_getElem_cons h, ownF, List.getD_eq_getElem?_getD, List.getElem?_eq_getElem h]
  rfl
end Go.Proofs.YtilccjjagdedaaaDoor

/-
  The library's table behind bits.TrailingZeros: what it holds, and that it stays so while the program's calls run.
  Conditions: the table reads, when the call begins, as the program's text lays it (the card ties that).
-/
import Derived.Test.YtilccjjagdedaaaDoorRows
import Derived.Test.YtilccjjagdedaaaDoorMemA
import Derived.Lib.LaidTab
import Derived.Lib.TrailingZeros
import Derived.ProofKit
import Derived.LaidMore
import Derived.OpenShut
import Derived.Stop.Joined
set_option maxRecDepth 100000
set_option linter.unusedVariables false
set_option linter.unusedSimpArgs false
namespace Go.Proofs.YtilccjjagdedaaaDoor
open Go.ChangeShapes Go.WideShapes Go.ChangeAt Go.RowKit
def tzTab : List Int := Lib.deBruijn64tab.map fun (n : Nat) => (n : Int)
/-- The table holds what its initialiser lays. -/
def TzT (w : World) : Prop := Lib.TabIs Tryd.prog w "math/bits.deBruijn64tab" .u8 tzTab
theorem TzT.below {w w' : World} (h : TzT w) (hb : Below w.heap.size w w') : TzT w' := by
  unfold TzT Lib.TabIs World.var? at *
  cases hg : Tryd.prog.globalNamed "math/bits.deBruijn64tab" with
  | none => simp [hg] at h
  | some g =>
    simp only [hg, Option.bind_some] at h ⊢
    have hlt : g < w.heap.size := by
      rcases Nat.lt_or_ge g w.heap.size with h' | h'
      · exact h'
      · rw [Array.getElem?_eq_none h'] at h; simp at h
    rw [hb.block g hlt]
    exact h
theorem TzT.alloc {w : World} (h : TzT w) (o : Obj) : TzT (w.alloc o) := h.below ((Below.refl _ _).alloc (Nat.le_refl _) o)
theorem TzT.drew {w : World} (h : TzT w) : TzT w.drew := h
theorem gTz : Tryd.prog.globalNamed "math/bits.deBruijn64tab" = some 1 := by kernel_rfl
theorem tTz : (Tryd.prog.globals[1]?).map (·.type) = some 57 := by kernel_rfl
end Go.Proofs.YtilccjjagdedaaaDoor

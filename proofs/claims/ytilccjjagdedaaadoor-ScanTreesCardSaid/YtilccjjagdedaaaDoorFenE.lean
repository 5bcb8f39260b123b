/-
  What the library's slices.Clone, Equal and Concat return of numbers of 64 bits.
  Conditions: those that each theorem names.
-/
import Derived.Test.YtilccjjagdedaaaDoorFenL
import Derived.Test.YtilccjjagdedaaaDoorShlB
import Derived.Lib.SliceRun
set_option maxRecDepth 100000
set_option linter.unusedVariables false
set_option linter.unusedSimpArgs false
namespace Go.Proofs.YtilccjjagdedaaaDoor
open Go.ChangeShapes Go.WideShapes Go.ChangeAt Go.RowKit
theorem ret_bool64 {p q : Bool} (h : p = q) : Ending.returned (.bool p) = .returned (.bool q) := by rw [h]
/-- A row of the call's own is handed back. -/
def RetOwn (w : World) (l : List Int) (e : Ending) (w' : World) : Prop := ∃ v, e = .returned v ∧ OwnI w' w.heap.size 22 .u64 v l ∧ Below w.heap.size w w'
theorem clone64_c (l : List Int) (A : Option Addr) (n c : Nat) (hn : n ≤ 100000000) (w : World) (hrd : Rd .u64 w w.heap.size A n l) : Calls Tryd.prog 13 #[.slice A n c] w (RetOwn w l) := by
  have q22 : ∀ (w : World) (a : Option Addr) (n c n' c' : Nat), (binOp .eql 23 (.slice a n c) (.slice none n' c')).run Tryd.prog w = .ok (.bool a.isNone) w := fun w a n c n' c' => Lib.run_eql_slice_nil w _ _ a n c n' c' Tryd.underlying23
  have hlen := hrd.len
  cases A with
  | none =>
    have hn0 : n = 0 := by
      rcases Nat.eq_zero_or_pos n with h | h
      · exact h
      · obtain ⟨g, off, e, _⟩ := hrd.at_ h
        cases e
    obtain rfl : l = [] := List.length_eq_zero_iff.1 (by omega)
    clear hlen hrd hn
    go_enter Tryd.func13, Tryd.ntmps13
    go_wp2
    go_ret
    exact ⟨_, rfl, OwnI.none _ _ _ _, Below.refl _ _⟩
  | some a =>
    have HR := Lib.hid hrd
    have HN := Lib.hid hn
    clear hlen hrd hn
    go_enter Tryd.func13, Tryd.ntmps13
    go_wp2_with (first
      | (at_builtin; refine wpList_own_copy8o w rfl (.tmp 5) (.tmp 6) rfl rfl (some a) n c l rfl HR.out HN.out ?_; intro v w2 hb2 ho2; have HB2 := Lib.hid hb2; have HO2 := Lib.hid ho2; clear hb2 ho2))
    go_ret
    exact ⟨_, rfl, HO2.out, HB2.out⟩
end Go.Proofs.YtilccjjagdedaaaDoor

/-
  What a list of stakes tells, in plain Lean: its sum, a ticket's owner, how many are above 0, the list without one.
  Conditions: those that each theorem names.
-/
import Derived.Test.YtilccjjagdedaaaDoorFenM
import Derived.Test.YtilccjjagdedaaaDoorFenR
set_option maxRecDepth 100000
set_option linter.unusedVariables false
set_option linter.unusedSimpArgs false
namespace Go.Proofs.YtilccjjagdedaaaDoor
def totE (l : List Int) : Int := if sumL l < 9223372036854775808 then 0 else 11
theorem tot_ok {l : List Int} (h : sumL l < 9223372036854775808) : totE l = 0 ∧ sumV l = sumL l := ⟨if_pos h, (sumV_ok h).1⟩
theorem tot_no {l : List Int} (h : ¬ sumL l < 9223372036854775808) : totE l = 11 ∧ sumV l = 0 := ⟨if_neg h, (sumV_no h).1⟩
def scoV (l : List Int) (t : Int) : Int := if sumL l < 9223372036854775808 then ownV l t else 0
def scoE (l : List Int) (t : Int) : Int := if sumL l < 9223372036854775808 then ownE l t else 11
theorem sco_ok {l : List Int} (t : Int) (h : sumL l < 9223372036854775808) : scoV l t = ownV l t ∧ scoE l t = ownE l t := ⟨if_pos h, if_pos h⟩
theorem sco_no {l : List Int} (t : Int) (h : ¬ sumL l < 9223372036854775808) : scoV l t = 0 ∧ scoE l t = 11 := ⟨if_neg h, if_neg h⟩
def posL : List Int → Nat
  | [] => 0
  | x :: l => (if 0 < x then 1 else 0) + posL l
theorem posL_app (l m : List Int) : posL (l ++ m) = posL l + posL m := by
  induction l with
  | nil => simp [posL]
  | cons x l ih => simp only [List.cons_append, posL, ih]; omega
theorem posL_take {l : List Int} {k : Nat} (h : k < l.length) : posL (l.take (k + 1)) = posL (l.take k) + (if 0 < l.getD k 0 then 1 else 0) := by
  rw [List.take_add_one, posL_app, List.getElem?_eq_getElem h, List.getD_eq_getElem?_getD, List.getElem?_eq_getElem h]
  simp [posL]
theorem posL_le (l : List Int) : posL l ≤ l.length := by
  induction l with
  | nil => exact Nat.le_refl _
  | cons x l ih => simp only [posL, List.length_cons]; split <;> omega
/-- A stake that is above 0 counts. -/
theorem posL_set : ∀ {l : List Int} {k : Nat}, k < l.length → 0 < l.getD k 0 → posL (l.set k 0) + 1 = posL l
  | x :: l, 0, _, h0 => by
    have : 0 < x := h0
    simp [posL, this]
    omega
  | x :: l, k + 1, h, h0 => by
    have h1 : k < l.length := by simpa using h
    have h2 : 0 < l.getD k 0 := h0
    have ih := posL_set h1 h2
    simp only [List.set_cons_succ, posL]
    omega
def witE (l : List Int) (i : Int) : Int := if 0 ≤ i ∧ i < l.length then 0 else 3
def witL (l : List Int) (i : Int) : List Int := if 0 ≤ i ∧ i < l.length then l.set i.toNat 0 else []
theorem wit_ok {l : List Int} {i : Int} (h : 0 ≤ i ∧ i < l.length) : witE l i = 0 ∧ witL l i = l.set i.toNat 0 := ⟨if_pos h, if_pos h⟩
theorem wit_no {l : List Int} {i : Int} (h : ¬ (0 ≤ i ∧ i < l.length)) : witE l i = 3 ∧ witL l i = [] := ⟨if_neg h, if_neg h⟩
theorem ownV_in (l : List Int) (t : Int) : 0 ≤ ownV l t := by unfold ownV; split <;> omega
theorem ownE_in (l : List Int) (t : Int) : ownE l t = 0 ∨ ownE l t = 3 := by unfold ownE; split <;> omega
end Go.Proofs.YtilccjjagdedaaaDoor

/-
  Sums, differences and products below 2^63 in plain Lean.
  Conditions: those that each theorem names.
-/
import Derived.Test.YtkgajcifanobnaaMemA
set_option maxRecDepth 100000
set_option linter.unusedVariables false
set_option linter.unusedSimpArgs false
namespace Go.Proofs.Ytkgajcifanobnaa
def addO (a b : Int) : Bool := decide (a + b < 9223372036854775808)
def addV (a b : Int) : Int := if a + b < 9223372036854775808 then a + b else 0
def subO (a b : Int) : Bool := decide (b ≤ a ∧ a - b < 9223372036854775808)
def subV (a b : Int) : Int := if b ≤ a ∧ a - b < 9223372036854775808 then a - b else 0
def mulO (a b : Int) : Bool := decide (a * b < 9223372036854775808)
def mulV (a b : Int) : Int := if a * b < 9223372036854775808 then a * b else 0
def sumL : List Int → Int
  | [] => 0
  | x :: l => x + sumL l
def sumO (l : List Int) : Bool := decide (sumL l < 9223372036854775808)
def sumV (l : List Int) : Int := if sumL l < 9223372036854775808 then sumL l else 0
open Go.ChangeShapes Go.WideShapes Go.ChangeAt Go.RowKit in
theorem ret_pair {x y : Int} {p q : Bool} (h : x = y ∧ p = q) : Ending.returned (.tuple #[.int .u64 x, .bool p]) = .returned (.tuple #[.int .u64 y, .bool q]) := by rw [h.1, h.2]
theorem ret_bool {p q : Bool} (h : p = q) : Ending.returned (.bool p) = .returned (.bool q) := by rw [h]
theorem sym2 {x y : Int} {p q : Bool} (h : x = y ∧ p = q) : y = x ∧ q = p := ⟨h.1.symm, h.2.symm⟩
theorem addV_ok {a b : Int} (h : a + b < 9223372036854775808) : addV a b = a + b ∧ addO a b = true := ⟨if_pos h, decide_eq_true h⟩
theorem addV_no {a b : Int} (h : ¬ a + b < 9223372036854775808) : addV a b = 0 ∧ addO a b = false := ⟨if_neg h, decide_eq_false h⟩
theorem subV_ok {a b : Int} (h : b ≤ a) (h2 : a - b < 9223372036854775808) : subV a b = a - b ∧ subO a b = true := ⟨if_pos ⟨h, h2⟩, decide_eq_true ⟨h, h2⟩⟩
theorem subV_no {a b : Int} (h : ¬ (b ≤ a ∧ a - b < 9223372036854775808)) : subV a b = 0 ∧ subO a b = false := ⟨if_neg h, decide_eq_false h⟩
theorem mulV_ok {a b : Int} (h : a * b < 9223372036854775808) : mulV a b = a * b ∧ mulO a b = true := ⟨if_pos h, decide_eq_true h⟩
theorem mulV_no {a b : Int} (h : ¬ a * b < 9223372036854775808) : mulV a b = 0 ∧ mulO a b = false := ⟨if_neg h, decide_eq_false h⟩
theorem sumV_ok {l : List Int} (h : sumL l < 9223372036854775808) : sumV l = sumL l ∧ sumO l = true := ⟨if_pos h, decide_eq_true h⟩
theorem sumV_no {l : List Int} (h : ¬ sumL l < 9223372036854775808) : sumV l = 0 ∧ sumO l = false := ⟨if_neg h, decide_eq_false h⟩
theorem addV_in {a b : Int} (h : 0 ≤ a) (h2 : 0 ≤ b) : 0 ≤ addV a b ∧ addV a b < 9223372036854775808 := by unfold addV; split <;> omega
theorem subV_in (a b : Int) : 0 ≤ subV a b ∧ subV a b < 9223372036854775808 := by unfold subV; split <;> omega
theorem mulV_in {a b : Int} (h : 0 ≤ a) (h2 : 0 ≤ b) : 0 ≤ mulV a b ∧ mulV a b < 9223372036854775808 := by
  unfold mulV
  have := Int.mul_nonneg h h2
  split <;> omega
theorem addV_comm (a b : Int) : addV a b = addV b a ∧ addO a b = addO b a := by unfold addV addO; rw [Int.add_comm]; exact ⟨rfl, rfl⟩
theorem sumL_app (l m : List Int) : sumL (l ++ m) = sumL l + sumL m := by
  induction l with
  | nil => show sumL m = 0 + sumL m; omega
  | cons x l ih => show x + sumL (l ++ m) = x + sumL l + sumL m; omega
theorem sumL_nn {l : List Int} (h : ∀ z ∈ l, 0 ≤ z) : 0 ≤ sumL l := by
  induction l with
  | nil => exact Int.le_refl _
  | cons x l ih => have h1 := h x (by simp); have h2 := ih (fun z hz => h z (by simp [hz])); show 0 ≤ x + sumL l; omega
theorem sumL_take {l : List Int} {k : Nat} (h : k < l.length) : sumL (l.take (k + 1)) = sumL (l.take k) + l.getD k 0 := by
  rw [List.take_add_one, sumL_app, List.getElem?_eq_getElem h, List.getD_eq_getElem?_getD, List.getElem?_eq_getElem h]
  show sumL (l.take k) + (l[k] + 0) = sumL (l.take k) + l[k]
  omega
theorem sumL_le {l : List Int} (h : ∀ z ∈ l, 0 ≤ z) (k : Nat) : sumL (l.take k) ≤ sumL l := by
  have h1 : sumL l = sumL (l.take k) + sumL (l.drop k) := by rw [← sumL_app, List.take_append_drop]
  have h2 := sumL_nn (l := l.drop k) (fun z hz => h z (List.mem_of_mem_drop hz))
  omega
theorem sumL_rep (a : Int) : ∀ n : Nat, sumL (List.replicate n a) = a * (n : Int)
  | 0 => by simp [sumL]
  | n + 1 => by
    show a + sumL (List.replicate n a) = _
    rw [sumL_rep a n]
    push_cast
    rw [Int.mul_add]
    omega
theorem getD_in {l : List Int} {k : Nat} (h : k < l.length) : l.getD k 0 ∈ l := by
  rw [List.getD_eq_getElem?_getD, List.getElem?_eq_getElem h]
  exact List.getElem_mem h
/-- Two lists are the same if they have as many numbers, and the same ones. -/
theorem ext_getD {l m : List Int} (h : l.length = m.length) (h2 : ∀ j, j < l.length → l.getD j 0 = m.getD j 0) : l = m := by
  apply List.ext_getElem h
  intro j h3 h4
  have h5 := h2 j h3
  simpa [List.getD_eq_getElem?_getD, List.getElem?_eq_getElem h3, List.getElem?_eq_getElem h4] using h5
theorem lt_div (b a : Int) (hb : 0 < b) (ha : 0 ≤ a) : (9223372036854775807 / b < a) ↔ ¬ (a * b < 9223372036854775808) := by
  have h := Int.le_ediv_iff_mul_le (a := a) (b := 9223372036854775807) hb
  constructor
  · intro h1 h2; have := h.2 (by omega); omega
  · intro h1; exact Int.lt_of_not_ge fun h2 => h1 (by have := h.1 h2; omega)
end Go.Proofs.Ytkgajcifanobnaa

/-
  The library's division of 128 bits by 64, in plain numbers: each digit is searched from above.
  Conditions: those that each theorem names.
-/
import Derived.Test.YtoimepmignlmkaaDoorNatD
set_option maxRecDepth 100000
set_option linter.unusedVariables false
set_option linter.unusedSimpArgs false
namespace Go.Proofs.YtoimepmignlmkaaDoor
namespace Div64
/-- The state of the search for a digit: what is left, and how far the digit is told. -/
def KI (b c u v q r : Nat) : Prop := u = q * b + r ∧ (u * 4294967296 + v) / (b * 4294967296 + c) ≤ q ∧ q ≤ 4294967297 ∧ r < 4294967296
theorem KI.start {b c u v : Nat} (hb : 2147483648 ≤ b) (hb2 : b < 4294967296) (hc : c < 4294967296) (hv : v < 4294967296) (hu : u < b * 4294967296 + c) : KI b c u v (u / b) (u % b) := by
  have h1 : u = u / b * b + u % b := by rw [Nat.mul_comm]; exact (Nat.div_add_mod u b).symm
  have hm : u % b < b := Nat.mod_lt _ (by omega)
  refine ⟨h1, ?_, ?_, by omega⟩
  · rw [Nat.le_div_iff_mul_le (by omega)]
    have h2 : (u * 4294967296 + v) / (b * 4294967296 + c) * (b * 4294967296 + c) ≤ u * 4294967296 + v := Nat.div_mul_le_self _ _
    generalize (u * 4294967296 + v) / (b * 4294967296 + c) = q at *
    rw [Nat.mul_add, ← Nat.mul_assoc] at h2
    generalize q * b = x at *
    generalize q * c = y at *
    omega
  · have h3 : u / b < 4294967298 := by
      rw [Nat.div_lt_iff_lt_mul (by omega)]
      omega
    omega
/-- What the test says. -/
theorem KI.test {b c u v q r : Nat} (hb : 2147483648 ≤ b) (h : KI b c u v q r) : (r * 4294967296 + v < q * c) ↔ (u * 4294967296 + v) / (b * 4294967296 + c) < q := by
  rw [Nat.div_lt_iff_lt_mul (by omega), h.1, Nat.mul_add, Nat.add_mul, Nat.mul_assoc]
  omega
theorem KI.lt {b c u v : Nat} (hb : 2147483648 ≤ b) (hv : v < 4294967296) (hu : u < b * 4294967296 + c) : (u * 4294967296 + v) / (b * 4294967296 + c) < 4294967296 := by
  rw [Nat.div_lt_iff_lt_mul (by omega)]
  omega
/-- The digit was too great by one at least. -/
theorem KI.next {b c u v q r : Nat} (hb : 2147483648 ≤ b) (hb2 : b < 4294967296) (hc : c < 4294967296) (hv : v < 4294967296) (hu : u < b * 4294967296 + c) (h : KI b c u v q r) (ht : 4294967296 ≤ q ∨ r * 4294967296 + v < q * c) : ∃ p, q = p + 1 ∧ (r + b < 4294967296 → KI b c u v p (r + b)) ∧ (4294967296 ≤ r + b → p = (u * 4294967296 + v) / (b * 4294967296 + c)) := by
  have h0 := KI.lt (c := c) hb hv hu
  have h1 : (u * 4294967296 + v) / (b * 4294967296 + c) < q := by
    rcases ht with ht | ht
    · omega
    · exact (h.test hb).1 ht
  obtain ⟨p, rfl⟩ : ∃ p, q = p + 1 := ⟨q - 1, by have := Nat.lt_of_le_of_lt (Nat.zero_le _) h1; omega⟩
  obtain ⟨e1, e2, e3, e4⟩ := h
  refine ⟨p, rfl, fun hr => ⟨by rw [Nat.add_mul, Nat.one_mul] at e1; omega, by omega, by omega, hr⟩, fun hr => ?_⟩
  have h2 : p * (b * 4294967296 + c) ≤ u * 4294967296 + v := by
    have h3 : p * c ≤ 4294967296 * 4294967295 := Nat.mul_le_mul (by omega) (by omega)
    rw [Nat.add_mul, Nat.one_mul] at e1
    rw [Nat.mul_add, ← Nat.mul_assoc]
    generalize p * b = x at *
    generalize p * c = y at *
    omega
  have h3 : p ≤ (u * 4294967296 + v) / (b * 4294967296 + c) := (Nat.le_div_iff_mul_le (by omega)).2 h2
  omega
theorem KI.done {b c u v q r : Nat} (hb : 2147483648 ≤ b) (h : KI b c u v q r) (ht : ¬ r * 4294967296 + v < q * c) : q = (u * 4294967296 + v) / (b * 4294967296 + c) := by
  have h1 := h.2.1
  rw [h.test hb] at ht
  omega
/-- The whole division, of what is laid left by so many bits. -/
theorem whole {U d s n32 n1 n0 b c : Nat} (hd : 0 < d) (hy : d * 2 ^ s = b * 4294967296 + c) (hU : U < d * 4294967296) (hn : U * 2 ^ s = (n32 * 4294967296 + n1) * 4294967296 + n0) (h1 : n1 < 4294967296) (h0 : n0 < 4294967296) :
    n32 * 4294967296 + n1 < b * 4294967296 + c ∧ (n32 * 4294967296 + n1) / (b * 4294967296 + c) = 0 ∧ ((n32 * 4294967296 + n1) * 4294967296 + n0) / (b * 4294967296 + c) = U / d ∧ ((n32 * 4294967296 + n1) * 4294967296 + n0) = (U / d) * (b * 4294967296 + c) + (U % d) * 2 ^ s := by
  have hp : 0 < 2 ^ s := Nat.pow_pos (by omega)
  have e1 : U * 2 ^ s < d * 2 ^ s * 4294967296 := by
    rw [Nat.mul_right_comm]
    exact (Nat.mul_lt_mul_right hp).2 hU
  rw [hn, hy] at e1
  have h2 : n32 * 4294967296 + n1 < b * 4294967296 + c := Nat.lt_of_mul_lt_mul_right (Nat.lt_of_le_of_lt (Nat.le_add_right _ n0) e1)
  refine ⟨h2, Nat.div_eq_of_lt h2, ?_, ?_⟩
  · rw [← hn, ← hy, Nat.mul_div_mul_right _ _ hp]
  · rw [← hn, ← hy, ← Nat.mul_assoc, ← Nat.add_mul]
    congr 1
    rw [Nat.mul_comm]; exact (Nat.div_add_mod U d).symm
end Div64
end Go.Proofs.YtoimepmignlmkaaDoor

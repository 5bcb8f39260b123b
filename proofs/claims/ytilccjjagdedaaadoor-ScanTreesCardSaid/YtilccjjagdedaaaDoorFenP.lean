/-
  Fenwick trees in plain Lean: the lowest bit, prefixes, the tree of a list, which numbers of the tree hold a place.
  Conditions: those that each theorem names.
-/
import Derived.Test.YtilccjjagdedaaaDoorSafP
set_option maxRecDepth 100000
set_option linter.unusedVariables false
set_option linter.unusedSimpArgs false
namespace Go.Proofs.YtilccjjagdedaaaDoor
/-- The lowest bit of a number. -/
def lowN (n : Nat) : Nat := if h : n = 0 then 0 else if n % 2 = 0 then 2 * lowN (n / 2) else 1
  termination_by n
  decreasing_by exact Nat.div_lt_self (by omega) (by omega)
theorem lowN_odd {n : Nat} (h : n % 2 = 1) : lowN n = 1 := by rw [lowN, dif_neg (by omega), if_neg (by omega)]
theorem lowN_even {n : Nat} (h0 : n ≠ 0) (h : n % 2 = 0) : lowN n = 2 * lowN (n / 2) := by rw [lowN, dif_neg h0, if_pos h]
/-- It is a power of two, and the rest is odd. -/
theorem lowN_form (n : Nat) (h : n ≠ 0) : ∃ k q, lowN n = 2 ^ k ∧ n = 2 ^ k * (2 * q + 1) := by
  induction n using Nat.strongRecOn with
  | ind n ih =>
    rcases Nat.mod_two_eq_zero_or_one n with h2 | h2
    · obtain ⟨k, q, h3, h4⟩ := ih (n / 2) (by omega) (by omega)
      refine ⟨k + 1, q, ?_, ?_⟩
      · rw [lowN_even h h2, h3, Nat.pow_succ, Nat.mul_comm]
      · rw [Nat.pow_succ, Nat.mul_comm (2 ^ k) 2, Nat.mul_assoc, ← h4]
        omega
    · exact ⟨0, n / 2, by rw [lowN_odd h2, Nat.pow_zero], by rw [Nat.pow_zero]; omega⟩
theorem lowN_pos {n : Nat} (h : n ≠ 0) : 1 ≤ lowN n := by
  obtain ⟨k, q, h1, _⟩ := lowN_form n h
  rw [h1]
  exact Nat.pow_pos (by omega)
theorem lowN_le (n : Nat) : lowN n ≤ n := by
  by_cases h : n = 0
  · subst h; rw [lowN, dif_pos rfl]; exact Nat.le_refl _
  · obtain ⟨k, q, h1, h2⟩ := lowN_form n h
    rw [h1]
    conv => rhs; rw [h2]
    exact Nat.le_mul_of_pos_right _ (by omega)
/-- Multiples of a power of two that lie apart lie apart by it. -/
theorem mult_step {d a b : Nat} (ha : d ∣ a) (hb : d ∣ b) (h : a < b) : a + d ≤ b := by
  obtain ⟨x, rfl⟩ := ha
  obtain ⟨y, rfl⟩ := hb
  have : x < y := Nat.lt_of_mul_lt_mul_left h
  have h2 : d * (x + 1) ≤ d * y := Nat.mul_le_mul_left d this
  rw [Nat.mul_add, Nat.mul_one] at h2
  exact h2
theorem lowN_dvd (n : Nat) (h : n ≠ 0) : lowN n ∣ n := by
  obtain ⟨k, q, h1, h2⟩ := lowN_form n h
  rw [h1]
  exact ⟨_, h2⟩
theorem low_less (n : Nat) (h : n ≠ 0) : 2 * lowN n ∣ n - lowN n := by
  obtain ⟨k, q, h1, h2⟩ := lowN_form n h
  rw [h1]
  refine ⟨q, ?_⟩
  conv => lhs; rw [h2]
  rw [Nat.mul_add, Nat.mul_one, Nat.add_sub_cancel, ← Nat.mul_assoc, Nat.mul_comm (2 ^ k) 2]
theorem low_more (n : Nat) (h : n ≠ 0) : 2 * lowN n ∣ n + lowN n := by
  obtain ⟨k, q, h1, h2⟩ := lowN_form n h
  rw [h1]
  refine ⟨q + 1, ?_⟩
  conv => lhs; rw [h2]
  rw [← Nat.mul_add_one, Nat.mul_comm 2 (2 ^ k), Nat.mul_assoc]
  congr 1
theorem low_cmp {a b : Nat} (ha : a ≠ 0) (hb : b ≠ 0) : lowN a ∣ lowN b ∨ 2 * lowN b ∣ lowN a := by
  obtain ⟨k, _, h1, _⟩ := lowN_form a ha
  obtain ⟨j, _, h2, _⟩ := lowN_form b hb
  rw [h1, h2]
  rcases Nat.lt_or_ge j k with h | h
  · right
    rw [show 2 * 2 ^ j = 2 ^ (j + 1) by rw [Nat.pow_succ, Nat.mul_comm]]
    exact Nat.pow_dvd_pow 2 h
  · left
    exact Nat.pow_dvd_pow 2 h
/-- The number m of the tree holds the place p (both from 1 on). -/
def holdsP (m p : Nat) : Prop := m - lowN m < p ∧ p ≤ m
theorem holds_self {m : Nat} (h : m ≠ 0) : holdsP m m := by
  have h1 := lowN_pos h
  have h2 := lowN_le m
  exact ⟨by omega, Nat.le_refl _⟩
/-- What holds a place, and isn't its own number, holds the next one of its chain. -/
theorem holds_next {m p : Nat} (hp : p ≠ 0) (hm : holdsP m p) (hne : p ≠ m) : holdsP m (p + lowN p) := by
  obtain ⟨h1, h2⟩ := hm
  have hm0 : m ≠ 0 := by omega
  have hl := lowN_le m
  have hlp := lowN_pos hp
  refine ⟨by omega, ?_⟩
  rcases low_cmp hp hm0 with h | h
  · exact mult_step (lowN_dvd p hp) (Nat.dvd_trans h (lowN_dvd m hm0)) (by omega)
  · -- p would be a multiple of 2 low m between m - low m and m
    exfalso
    have h3 := mult_step (low_less m hm0) (Nat.dvd_trans h (lowN_dvd p hp)) h1
    omega
theorem holds_back {m p : Nat} (hp : p ≠ 0) (hm : holdsP m (p + lowN p)) : holdsP m p := by
  obtain ⟨h1, h2⟩ := hm
  have hlp := lowN_pos hp
  have hm0 : m ≠ 0 := by omega
  have hlm := lowN_pos hm0
  have hl := lowN_le m
  refine ⟨?_, by omega⟩
  rcases Nat.lt_or_ge (m - lowN m) p with h | h
  · exact h
  · exfalso
    rcases Nat.lt_or_ge p (m - lowN m) with hlt | hge
    · rcases low_cmp hp hm0 with hd | hd
      · have := mult_step (lowN_dvd p hp) (Nat.dvd_trans (Nat.dvd_trans hd (Nat.dvd_mul_left _ 2)) (low_less m hm0)) hlt
        omega
      · have := mult_step (low_less m hm0) (Nat.dvd_trans hd (Nat.dvd_trans (Nat.dvd_mul_left _ 2) (low_more p hp))) h1
        omega
    · have he : p = m - lowN m := by omega
      have hd : 2 * lowN m ∣ lowN p := by
        rcases low_cmp hp hm0 with hd | hd
        · exfalso
          have h3 : 2 * lowN m ∣ p := by rw [he]; exact low_less m hm0
          have h4 : 2 * lowN p ∣ p := Nat.dvd_trans (Nat.mul_dvd_mul_left 2 hd) h3
          obtain ⟨k, q, h5, h6⟩ := lowN_form p hp
          obtain ⟨c, h7⟩ := h4
          rw [h5] at h7
          have h8 : 2 ^ k * (2 * q + 1) = 2 ^ k * (2 * c) := by rw [← h6, h7, Nat.mul_comm 2 (2 ^ k), Nat.mul_assoc]
          have h9 := Nat.eq_of_mul_eq_mul_left (Nat.pow_pos (by omega)) h8
          omega
        · exact hd
      have h3 := Nat.le_of_dvd (by omega) hd
      omega
/-! ### prefixes, and the tree -/
def preL (l : List Int) (n : Nat) : Int := sumL (l.take n)
def treeL (l : List Int) : List Int := (List.range l.length).map fun i => preL l (i + 1) - preL l (i + 1 - lowN (i + 1))
theorem preL_zero (l : List Int) : preL l 0 = 0 := rfl
theorem preL_all (l : List Int) : preL l l.length = sumL l := by unfold preL; rw [List.take_length]
theorem preL_next {l : List Int} {n : Nat} (h : n < l.length) : preL l (n + 1) = preL l n + l.getD n 0 := sumL_take h
theorem treeL_len (l : List Int) : (treeL l).length = l.length := by simp [treeL]
theorem treeL_at {l : List Int} {i : Nat} (h : i < l.length) : (treeL l).getD i 0 = preL l (i + 1) - preL l (i + 1 - lowN (i + 1)) := by simp [treeL, h]
/-- A prefix is the tree's number and a shorter prefix. -/
theorem preL_low {l : List Int} {n : Nat} (h0 : n ≠ 0) (h : n ≤ l.length) : preL l n = (treeL l).getD (n - 1) 0 + preL l (n - lowN n) := by
  rw [treeL_at (by omega), show n - 1 + 1 = n by omega]
  omega
theorem preL_mono {l : List Int} (hz : ∀ z ∈ l, 0 ≤ z) {a b : Nat} (h : a ≤ b) : preL l a ≤ preL l b := by
  unfold preL
  have h1 := sumL_le (l := l.take b) (fun z hz' => hz z (List.mem_of_mem_take hz')) a
  rwa [List.take_take, Nat.min_eq_left h] at h1
theorem preL_nn {l : List Int} (hz : ∀ z ∈ l, 0 ≤ z) (a : Nat) : 0 ≤ preL l a := by
  have h := preL_mono hz (Nat.zero_le a)
  rwa [preL_zero] at h
theorem preL_le {l : List Int} (hz : ∀ z ∈ l, 0 ≤ z) (a : Nat) : preL l a ≤ sumL l := sumL_le hz a
theorem preL_set {l : List Int} {i : Nat} (v : Int) (hi : i < l.length) (n : Nat) : preL (l.set i v) n = preL l n + if i < n then v - l.getD i 0 else 0 := by
  induction l generalizing i n with
  | nil => cases hi
  | cons x l ih =>
    cases n with
    | zero => show (0 : Int) = 0 + _; rw [if_neg (by omega)]; rfl
    | succ n =>
      cases i with
      | zero =>
        show v + sumL (l.take n) = x + sumL (l.take n) + _
        rw [if_pos (by omega)]
        show _ = _ + (v - x)
        omega
      | succ i =>
        have h := ih (i := i) (by simpa using hi) n
        show x + preL (l.set i v) n = x + preL l n + _
        rw [h]
        by_cases hin : i < n
        · rw [if_pos hin, if_pos (by omega)]
          show _ = _ + (v - l.getD i 0)
          omega
        · rw [if_neg hin, if_neg (by omega)]
          omega
/-- Another stake changes just the numbers that hold its place. -/
theorem treeL_set {l : List Int} {i : Nat} (v : Int) (hi : i < l.length) (m : Nat) (hm : m < l.length) : (treeL (l.set i v)).getD m 0 = (treeL l).getD m 0 + if m + 1 - lowN (m + 1) < i + 1 ∧ i + 1 ≤ m + 1 then v - l.getD i 0 else 0 := by
  rw [treeL_at (by rw [List.length_set]; exact hm), treeL_at hm, preL_set v hi, preL_set v hi]
  by_cases h1 : i < m + 1
  · by_cases h2 : i < m + 1 - lowN (m + 1)
    · rw [if_pos h1, if_pos h2, if_neg (by omega)]; omega
    · rw [if_pos h1, if_neg h2, if_pos (by omega)]; omega
  · rw [if_neg h1, if_neg (by omega), if_neg (by omega)]; omega
end Go.Proofs.YtilccjjagdedaaaDoor

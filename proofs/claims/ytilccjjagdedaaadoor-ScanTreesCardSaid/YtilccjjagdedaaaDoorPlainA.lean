/-
  Plain arithmetic on words of 32 and 64 bits (shifts, turns, bytes, number of bits), with no program in it.
  Conditions: none beyond those that each theorem names.
-/
import Derived.Laws.BitsAllLaws
set_option maxRecDepth 100000
namespace Go.Proofs.YtilccjjagdedaaaDoor.Wd

def left (x n : Int) : Int := if n < 1 then x else if 31 < n then 0 else x * 2 ^ n.toNat % 4294967296
def right (x n : Int) : Int := if n < 1 then x else if 31 < n then 0 else x / 2 ^ n.toNat
def rot (x : Int) (k : Nat) : Int := x / 2 ^ k + x % 2 ^ k * 2 ^ (32 - k)
def rotate (x n : Int) : Int := rot x (n % 32).toNat
/-- The byte of x that has k bytes behind it. -/
def byt (x : Int) (k : Nat) : Int := x / 256 ^ k % 256
def get4 (a b c d : Int) : Int := ((a * 256 + b) * 256 + c) * 256 + d
/-- How many bits a number has. -/
def bitsL (x : Nat) : Nat := if x = 0 then 0 else x.log2 + 1
theorem bitsL_zero : bitsL 0 = 0 := rfl
theorem bitsL_step (x : Nat) (h : 0 < x) : bitsL x = bitsL (x / 2) + 1 := by
  unfold bitsL
  rw [if_neg (by omega), Nat.log2_def]
  by_cases h2 : 2 ≤ x
  · rw [if_pos h2, if_neg (by omega)]
  · rw [if_neg h2, if_pos (by omega)]
theorem bitsL_le (x : Nat) (h : x < 18446744073709551616) : bitsL x ≤ 64 := by
  unfold bitsL
  split
  · omega
  · have : x.log2 < 64 := (Nat.log2_lt (by omega)).2 h
    omega

theorem pow_pos2 (k : Nat) : (0 : Int) < 2 ^ k := Int.pow_pos (by decide)

theorem left_low (x n : Int) (h : n < 1) : left x n = x := by simp [left, h]
theorem right_low (x n : Int) (h : n < 1) : right x n = x := by simp [right, h]
theorem left_high (x n : Int) (h : 31 < n) : left x n = 0 := by
  unfold left; rw [if_neg (by omega), if_pos h]
theorem right_high (x n : Int) (h : 31 < n) : right x n = 0 := by
  unfold right; rw [if_neg (by omega), if_pos h]

/-- What the model answers of a shift to the highest bit. -/
theorem left_model (x n : Int) (h : 1 ≤ n) : x * 2 ^ min n.toNat 32 % 4294967296 = left x n := by
  by_cases h2 : 31 < n
  · rw [left_high x n h2, show min n.toNat 32 = 32 by omega, show (2 : Int) ^ 32 = 4294967296 by decide]
    exact Int.mul_emod_left _ _
  · unfold left
    rw [if_neg (by omega), if_neg h2, show min n.toNat 32 = n.toNat by omega]

theorem right_model (x n : Int) (h0 : 0 ≤ x) (h1 : x < 4294967296) (h : 1 ≤ n) : x / 2 ^ min n.toNat 32 = right x n := by
  by_cases h2 : 31 < n
  · rw [right_high x n h2, show min n.toNat 32 = 32 by omega, show (2 : Int) ^ 32 = 4294967296 by decide]
    exact Int.ediv_eq_zero_of_lt h0 h1
  · unfold right
    rw [if_neg (by omega), if_neg h2, show min n.toNat 32 = n.toNat by omega]

theorem shl_split (x : Int) (k : Nat) (hk : k ≤ 32) : x * 2 ^ (32 - k) % 4294967296 = x % 2 ^ k * 2 ^ (32 - k) := by
  have e : (4294967296 : Int) = 2 ^ k * 2 ^ (32 - k) := by
    rw [← Int.pow_add, show k + (32 - k) = 32 by omega]; decide
  rw [e, Int.mul_comm x, Int.mul_comm (2 ^ k), Int.mul_emod_mul_of_pos _ _ (pow_pos2 _), Int.mul_comm]

theorem rot_bounds (x : Int) (k : Nat) (h0 : 0 ≤ x) (h1 : x < 4294967296) (hk : k ≤ 32) : 0 ≤ rot x k ∧ rot x k < 4294967296 := by
  unfold rot
  have e : (4294967296 : Int) = 2 ^ (32 - k) * 2 ^ k := by
    rw [← Int.pow_add, show 32 - k + k = 32 by omega]; decide
  have p := pow_pos2 k
  have q := pow_pos2 (32 - k)
  have hd : x / 2 ^ k < 2 ^ (32 - k) := Int.ediv_lt_of_lt_mul p (by rw [← e]; exact h1)
  have hd0 : 0 ≤ x / 2 ^ k := Int.ediv_nonneg h0 (by omega)
  have hm0 := Int.emod_nonneg x (show (2 : Int) ^ k ≠ 0 by omega)
  have hm1 := Int.emod_lt_of_pos x p
  have hq := Int.mul_nonneg hm0 (show (0 : Int) ≤ 2 ^ (32 - k) by omega)
  have hlt : (x % 2 ^ k + 1) * 2 ^ (32 - k) ≤ 2 ^ k * 2 ^ (32 - k) := Int.mul_le_mul_of_nonneg_right (by omega) (by omega)
  rw [Int.add_mul, Int.one_mul, Int.mul_comm (2 ^ k) (2 ^ (32 - k)), ← e] at hlt
  omega

theorem toNat_mul_pow (a : Int) (k : Nat) (h : 0 ≤ a) : (a * 2 ^ k).toNat = 2 ^ k * a.toNat := by
  obtain ⟨n, rfl⟩ := Int.eq_ofNat_of_zero_le h
  rw [show ((n : Int) * 2 ^ k) = ((n * 2 ^ k : Nat) : Int) by push_cast; rfl, Int.toNat_natCast, Int.toNat_natCast, Nat.mul_comm]

/-- Both shifts, joined bit by bit, are their sum. -/
theorem rot_or (x : Int) (k : Nat) (h0 : 0 ≤ x) (h1 : x < 4294967296) (hk : k < 32) :
    Go.bits .or .u32 (x / 2 ^ k) (x * 2 ^ (32 - k) % 4294967296) = rot x k := by
  have hb := rot_bounds x k h0 h1 (by omega)
  rw [shl_split x k (by omega)]
  unfold rot at hb ⊢
  have e : (4294967296 : Int) = 2 ^ (32 - k) * 2 ^ k := by
    rw [← Int.pow_add, show 32 - k + k = 32 by omega]; decide
  have p := pow_pos2 k
  have q := pow_pos2 (32 - k)
  have hd : x / 2 ^ k < 2 ^ (32 - k) := Int.ediv_lt_of_lt_mul p (by rw [← e]; exact h1)
  have hd0 : 0 ≤ x / 2 ^ k := Int.ediv_nonneg h0 (by omega)
  have hm0 := Int.emod_nonneg x (show (2 : Int) ^ k ≠ 0 by omega)
  have hq := Int.mul_nonneg hm0 (show (0 : Int) ≤ 2 ^ (32 - k) by omega)
  generalize x / 2 ^ k = A at *
  generalize x % 2 ^ k = M at *
  rw [Go.u32_or _ _ hd0 (by omega) hq (by omega), toNat_mul_pow M _ hm0, Nat.or_comm, ← Nat.two_pow_add_eq_or_of_lt]
  · push_cast
    rw [Int.toNat_of_nonneg hm0, Int.toNat_of_nonneg hd0, Int.mul_comm, Int.add_comm]
  · have : ((A.toNat : Nat) : Int) < ((2 ^ (32 - k) : Nat) : Int) := by
      rw [Int.toNat_of_nonneg hd0]; push_cast; exact hd
    exact_mod_cast this

theorem rot_zero (x : Int) : rot x 0 = x := by simp [rot, Int.emod_one]

/-- One bit more. -/
theorem rot_succ (x : Int) (k : Nat) (hk : k < 32) : rot x k / 2 + rot x k % 2 * 2147483648 = rot x (k + 1) := by
  unfold rot
  have e1 : (2 : Int) ^ (32 - k) = 2 ^ (32 - (k + 1)) * 2 := by
    rw [show 32 - k = 32 - (k + 1) + 1 by omega, Int.pow_succ]
  have e2 : (2147483648 : Int) = 2 ^ k * 2 ^ (32 - (k + 1)) := by
    rw [← Int.pow_add, show k + (32 - (k + 1)) = 31 by omega]; decide
  have e3 : x / 2 ^ (k + 1) = x / 2 ^ k / 2 := by
    rw [Int.pow_succ, Int.ediv_ediv_of_nonneg (Int.le_of_lt (pow_pos2 k))]
  have e4 : x % 2 ^ (k + 1) = x % 2 ^ k + 2 ^ k * (x / 2 ^ k % 2) := by
    rw [Int.pow_succ]
    have p := pow_pos2 k
    have a1 := Int.mul_ediv_add_emod x (2 ^ k * 2)
    have a2 := Int.mul_ediv_add_emod x (2 ^ k)
    have a3 := Int.mul_ediv_add_emod (x / 2 ^ k) 2
    rw [Int.ediv_ediv_of_nonneg (Int.le_of_lt p)] at a3
    generalize x / (2 ^ k * 2) = Q at *
    generalize x / 2 ^ k = A at *
    rw [← a3, Int.mul_add, ← Int.mul_assoc] at a2
    omega
  rw [e1, e3, e4, e2]
  generalize x / 2 ^ k = A
  generalize x % 2 ^ k = M
  generalize (2 : Int) ^ (32 - (k + 1)) = T
  generalize (2 : Int) ^ k = U
  rw [← Int.mul_assoc, Int.add_mul M, show (A + M * T * 2) / 2 = A / 2 + M * T by omega, show (A + M * T * 2) % 2 = A % 2 by omega,
    show A % 2 * (U * T) = U * (A % 2) * T by rw [← Int.mul_assoc, Int.mul_comm (A % 2) U]]
  omega

theorem rot_32 (x : Int) (h0 : 0 ≤ x) (h1 : x < 4294967296) : rot x 32 = x := by
  unfold rot
  rw [show (2 : Int) ^ 32 = 4294967296 by decide, Int.ediv_eq_zero_of_lt h0 h1, Int.emod_eq_of_lt h0 h1]
  simp

theorem rot_add (x : Int) (a b : Nat) (h : a + b ≤ 32) : rot (rot x a) b = rot x (a + b) := by
  induction b with
  | zero => rw [rot_zero]; rfl
  | succ b ih => rw [← rot_succ _ b (by omega), ih (by omega), rot_succ _ _ (by omega)]; rfl

theorem rotate_bounds (x n : Int) (h0 : 0 ≤ x) (h1 : x < 4294967296) : 0 ≤ rotate x n ∧ rotate x n < 4294967296 :=
  rot_bounds x _ h0 h1 (by omega)

/-- Turned, and turned back. -/
theorem rotate_back (x n : Int) (h0 : 0 ≤ x) (h1 : x < 4294967296) : rotate (rotate x n) (0 - n) = x := by
  unfold rotate
  by_cases hz : n % 32 = 0
  · rw [show (n % 32).toNat = 0 by omega, show ((0 - n) % 32).toNat = 0 by omega, rot_zero, rot_zero]
  · rw [rot_add x _ _ (by omega), show (n % 32).toNat + ((0 - n) % 32).toNat = 32 by omega, rot_32 x h0 h1]

/-- A turned word is both shifts of it. -/
theorem rotate_shifts (x k : Int) (hk : 1 ≤ k) (hk2 : k ≤ 31) : rotate x k = right x k + left x (32 - k) := by
  unfold rotate right left
  rw [if_neg (by omega), if_neg (by omega), if_neg (by omega), if_neg (by omega), show (k % 32).toNat = k.toNat by omega, show (32 - k).toNat = 32 - k.toNat by omega,
    shl_split x _ (by omega)]
  rfl

theorem left_bounds (x n : Int) (h0 : 0 ≤ x) (h1 : x < 4294967296) : 0 ≤ left x n ∧ left x n < 4294967296 := by
  unfold left; split
  · exact ⟨h0, h1⟩
  · split <;> omega
theorem right_bounds (x n : Int) (h0 : 0 ≤ x) (h1 : x < 4294967296) : 0 ≤ right x n ∧ right x n < 4294967296 := by
  unfold right; split
  · exact ⟨h0, h1⟩
  · split
    · omega
    · exact ⟨Int.ediv_nonneg h0 (Int.le_of_lt (pow_pos2 _)), Int.lt_of_le_of_lt (Int.ediv_le_self _ h0) h1⟩

theorem left_succ (x : Int) (k : Nat) (hk : k ≤ 30) : 2 * left x k % 4294967296 = left x (k + 1 : Nat) := by
  unfold left
  rw [if_neg (show ¬ ((k + 1 : Nat) : Int) < 1 by omega), if_neg (show ¬ 31 < ((k + 1 : Nat) : Int) by omega), Int.toNat_natCast, Int.toNat_natCast]
  by_cases hz : k = 0
  · subst hz; simp; omega
  · rw [if_neg (by omega), if_neg (by omega), Int.pow_succ, ← Int.mul_assoc]
    generalize x * 2 ^ k = y
    omega
theorem right_succ (x : Int) (k : Nat) (hk : k ≤ 30) : right x k / 2 = right x (k + 1 : Nat) := by
  unfold right
  rw [if_neg (show ¬ ((k + 1 : Nat) : Int) < 1 by omega), if_neg (show ¬ 31 < ((k + 1 : Nat) : Int) by omega), Int.toNat_natCast, Int.toNat_natCast]
  by_cases hz : k = 0
  · subst hz; simp
  · rw [if_neg (by omega), if_neg (by omega), Int.pow_succ, Int.ediv_ediv_of_nonneg (Int.le_of_lt (pow_pos2 k))]

theorem or_add_nat (a b k : Nat) (h : b < 2 ^ k) : a * 2 ^ k ||| b = a * 2 ^ k + b := by
  rw [Nat.mul_comm, Nat.two_pow_add_eq_or_of_lt h]
/-- Bits that stand apart: joined, they are the sum. -/
theorem u32_or_add (a b : Int) (k : Nat) (h0 : 0 ≤ a) (hb0 : 0 ≤ b) (hb : b < 2 ^ k) (h : a * 2 ^ k + b < 4294967296) : Go.bits .or .u32 (a * 2 ^ k) b = a * 2 ^ k + b := by
  obtain ⟨A, rfl⟩ := Int.eq_ofNat_of_zero_le h0
  obtain ⟨B, rfl⟩ := Int.eq_ofNat_of_zero_le hb0
  have e : (A : Int) * 2 ^ k = ((A * 2 ^ k : Nat) : Int) := by push_cast; rfl
  have hB : B < 2 ^ k := by exact_mod_cast hb
  rw [e] at h ⊢
  rw [Go.u32_or_nat _ _ (by omega) (by omega), or_add_nat _ _ _ hB]
  push_cast; rfl
theorem u64_or_add (a b : Int) (k : Nat) (h0 : 0 ≤ a) (hb0 : 0 ≤ b) (hb : b < 2 ^ k) (h : a * 2 ^ k + b < 18446744073709551616) : Go.bits .or .u64 (a * 2 ^ k) b = a * 2 ^ k + b := by
  obtain ⟨A, rfl⟩ := Int.eq_ofNat_of_zero_le h0
  obtain ⟨B, rfl⟩ := Int.eq_ofNat_of_zero_le hb0
  have e : (A : Int) * 2 ^ k = ((A * 2 ^ k : Nat) : Int) := by push_cast; rfl
  have hB : B < 2 ^ k := by exact_mod_cast hb
  rw [e] at h ⊢
  rw [Go.u64_or_nat _ _ (by omega) (by omega), or_add_nat _ _ _ hB]
  push_cast; rfl
theorem get4_or (a b c d : Int) (a0 : 0 ≤ a) (a1 : a < 256) (b0 : 0 ≤ b) (b1 : b < 256) (c0 : 0 ≤ c) (c1 : c < 256) (d0 : 0 ≤ d) (d1 : d < 256) :
    Go.bits .or .u32 (Go.bits .or .u32 (Go.bits .or .u32 (a * 16777216) (b * 65536)) (c * 256)) d = get4 a b c d := by
  unfold get4
  have e1 := u32_or_add a (b * 65536) 24 a0 (by omega) (by omega) (by omega)
  rw [show (2 : Int) ^ 24 = 16777216 by decide] at e1
  rw [e1]
  have e2 := u32_or_add (a * 256 + b) (c * 256) 16 (by omega) (by omega) (by omega) (by omega)
  rw [show (2 : Int) ^ 16 = 65536 by decide, show (a * 256 + b) * 65536 = a * 16777216 + b * 65536 by omega] at e2
  rw [e2]
  have e3 := u32_or_add ((a * 256 + b) * 256 + c) d 8 (by omega) (by omega) (by omega) (by omega)
  rw [show (2 : Int) ^ 8 = 256 by decide, show ((a * 256 + b) * 256 + c) * 256 = a * 16777216 + b * 65536 + c * 256 by omega] at e3
  rw [e3]; omega
/-- One byte more. -/
theorem get_step (x c : Int) (h0 : 0 ≤ x) (h1 : x < 72057594037927936) (c0 : 0 ≤ c) (c1 : c < 256) : Go.bits .or .u64 (x * 256) c = x * 256 + c := by
  have e := u64_or_add x c 8 h0 c0 (by omega) (by omega)
  rw [show (2 : Int) ^ 8 = 256 by decide] at e
  exact e

theorem and31 (n : Int) : Go.bits .and .u64 (Go.IntKind.u64.wrap n) 31 = n % 32 := by
  rw [Go.IntKind.wrap_u64, Go.u64_and _ _ (by omega) (by omega) (by omega) (by omega), show (31 : Int).toNat = 2 ^ 5 - 1 by decide, Nat.and_two_pow_sub_one_eq_mod]
  omega

end Go.Proofs.YtilccjjagdedaaaDoor.Wd

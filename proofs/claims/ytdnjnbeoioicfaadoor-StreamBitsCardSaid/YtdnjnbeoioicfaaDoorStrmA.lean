/-
  What the program's stream.Domain and Split return, and the reference's Domain and pow; they leave memory as it was.
  Conditions: the arguments lie in their types' ranges.
-/
import Derived.Test.YtdnjnbeoioicfaaDoorWordA
import Derived.Test.YtdnjnbeoioicfaaDoorStrmP
set_option linter.unusedSimpArgs false
namespace Go.Proofs.YtdnjnbeoioicfaaDoor
open Go.ChangeShapes Go.WideShapes Go.ChangeAt Go.RowKit
set_option linter.unusedVariables false
theorem dom_or (k i : Int) (k0 : 0 ≤ k) (k1 : k < 4294967296) (i0 : 0 ≤ i) (i1 : i < 4294967296) : bits .or .u64 (k * 4294967296) i = k * 4294967296 + i := Wd.u64_or_add k i 32 k0 i0 (by omega) (by omega)
theorem qdom_c (k i : Int) (k0 : 0 ≤ k) (k1 : k < 4294967296) (i0 : 0 ≤ i) (i1 : i < 4294967296) (w : World) :
    Calls Tryd.prog 14 #[.int .u32 k, .int .u32 i] w fun e w' => e = .returned (.int .u64 (k * 4294967296 + i)) ∧ w = w' := by
  have H := Lib.hid (dom_or k i k0 k1 i0 i1)
  go_enter Tryd.func14, Tryd.ntmps14
  go_wp2
  go_ret
  exact ⟨ret_int H.out, rfl⟩
theorem qsplit_c (d : Int) (d0 : 0 ≤ d) (d1 : d < 18446744073709551616) (w : World) :
    Calls Tryd.prog 15 #[.int .u64 d] w fun e w' => e = .returned (.tuple #[.int .u32 (d / 4294967296), .int .u32 (d % 4294967296)]) ∧ w = w' := by
  have e1 : IntKind.u32.wrap (d / 4294967296) = d / 4294967296 := by rw [IntKind.wrap_u32]; omega
  have e2 : IntKind.u32.wrap d = d % 4294967296 := by rw [IntKind.wrap_u32]
  go_enter Tryd.func15, Tryd.ntmps15
  go_wp2
  go_ret2
  exact ⟨rfl, rfl⟩
theorem rdom_c (k i : Int) (k0 : 0 ≤ k) (k1 : k < 4294967296) (i0 : 0 ≤ i) (i1 : i < 4294967296) (w : World) :
    Calls Tryd.prog 16 #[.int .u32 k, .int .u32 i] w fun e w' => e = .returned (.int .u64 (k * 4294967296 + i)) ∧ w = w' := by
  go_enter Tryd.func16, Tryd.ntmps16
  go_wp2
  go_ret
  exact ⟨rfl, rfl⟩
theorem pow2_lt (n : Nat) (h : n ≤ 63) : (2 : Int) ^ n < 18446744073709551616 := by
  have h1 : (2 : Int) ^ n ≤ 2 ^ 63 := by
    have h2 : 2 ^ n ≤ 2 ^ 63 := Nat.pow_le_pow_right (by omega) h
    exact_mod_cast h2
  omega
theorem pow2_next (n : Nat) : (2 : Int) * 2 ^ n = 2 ^ (n + 1) := by rw [Int.pow_succ]; omega
theorem rpow_c (n : Nat) (hn : n ≤ 63) (w : World) :
    Calls Tryd.prog 22 #[.int .u64 n] w fun e w' => e = .returned (.int .u64 (2 ^ n)) ∧ w' = w := by
  go_enter Tryd.func22, Tryd.ntmps22
  go_wp2
  go_loop [3, 4] (fun p v => ∃ i : Nat, i ≤ n ∧ p = .int .u64 (2 ^ i) ∧ v = .int .u64 i) (fun _ v => n - (intOf v).toNat)
  case atStart => exact ⟨0, by omega, rfl, rfl⟩
  case round =>
    obtain ⟨i, hi, rfl, rfl⟩ := hrel
    by_cases hlt : i < n
    · have p0 := Wd.pow_pos2 i
      have p1 := pow2_lt (i + 1) (by omega)
      have e := pow2_next i
      rw [← e] at p1
      have HE := Lib.hid e
      clear e
      obtain ⟨p, hp⟩ : ∃ p : Int, 2 ^ i = p := ⟨_, rfl⟩
      rw [hp] at p0 p1 HE ⊢
      go_wp2
      go_round
      case rel => exact ⟨i + 1, by omega, by rw [← HE.out], by go_num⟩
      case measure => simp [intOf]; omega
    · obtain rfl : i = n := by omega
      go_wp2
      go_ret
      exact ⟨rfl, rfl⟩
end Go.Proofs.YtdnjnbeoioicfaaDoor

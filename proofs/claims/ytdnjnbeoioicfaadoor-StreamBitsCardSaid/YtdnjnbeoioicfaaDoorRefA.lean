/-
  What each function of the document's answers for layer 1 returns, and what it leaves of memory.
  Conditions: the arguments lie in their types' ranges.
-/
import Derived.Test.YtdnjnbeoioicfaaDoorWordA
namespace Go.Proofs.YtdnjnbeoioicfaaDoor
open Go.ChangeShapes Go.WideShapes Go.ChangeAt Go.RowKit
set_option linter.unusedVariables false


theorem rright_c (x n : Int) (h0 : 0 ≤ x) (h1 : x < 4294967296) (n0 : -9223372036854775808 ≤ n) (n1 : n ≤ 9223372036854775807) (w : World) :
    Calls Tryd.prog 17 #[.int .u32 x, .int .i64 n] w fun e w' => e = .returned (.int .u32 (Wd.right x n)) ∧ w = w' := by
  by_cases hh : 31 < n
  · have H := Lib.hid (Wd.right_high x n hh)
    go_enter Tryd.func17, Tryd.ntmps17
    go_wp2
    go_ret
    exact ⟨ret_int H.out.symm, rfl⟩
  · by_cases hl : n < 1
    · have H := Lib.hid (Wd.right_low x n hl)
      go_enter Tryd.func17, Tryd.ntmps17
      go_wp2
      go_rounds 1
      go_ret
      exact ⟨ret_int H.out.symm, rfl⟩
    · obtain ⟨m, rfl⟩ := Int.eq_ofNat_of_zero_le (show 0 ≤ n by omega)
      have m1 : m ≤ 31 := by omega
      clear hh hl
      go_enter Tryd.func17, Tryd.ntmps17
      go_wp2
      go_loop [0, 5] (fun v i => ∃ (k : Nat) (y : Int), k ≤ m ∧ 0 ≤ y ∧ y < 4294967296 ∧ Hid (y = Wd.right x k) ∧ i = .int .i64 k ∧ v = .int .u32 y) (fun _ i => m - (intOf i).toNat)
      case atStart => exact ⟨0, x, by omega, h0, h1, by show _ = _; rw [Wd.right_low x _ (by omega)], rfl, rfl⟩
      case round =>
        obtain ⟨k, y, hk, y0, y1, HY, rfl, rfl⟩ := hrel
        by_cases hlt : k < m
        · have hs := Wd.right_succ x k (by omega)
          rw [← HY.out] at hs
          have HS := Lib.hid hs
          clear hs
          go_wp2
          go_round
          case rel => exact ⟨k + 1, _, by omega, by omega, by omega, by show _ = _; rw [← HS.out], by go_num, rfl⟩
          case measure => simp [intOf]; omega
        · go_wp2
          go_ret
          obtain rfl : k = m := by omega
          exact ⟨ret_int HY.out, rfl⟩

theorem rrotate_c (x n : Int) (h0 : 0 ≤ x) (h1 : x < 4294967296) (n0 : -9223372036854775808 ≤ n) (n1 : n ≤ 9223372036854775807) (w : World) :
    Calls Tryd.prog 56 #[.int .u32 x, .int .i64 n] w fun e w' => e = .returned (.int .u32 (Wd.rotate x n)) ∧ w = w' := by
  obtain ⟨m, hm⟩ : ∃ m : Nat, (n % 32).toNat = m := ⟨_, rfl⟩
  have m1 : m < 32 := by omega
  have hr : Wd.rotate x n = Wd.rot x m := by unfold Wd.rotate; rw [hm]
  have HR := Lib.hid hr
  clear hr
  obtain ⟨t, ht⟩ : ∃ t : Int, n.tmod 32 = t := ⟨_, rfl⟩
  by_cases hneg : t < 0
  all_goals
    first
    | (have e : t + 32 = m := by
        have h2 := Int.tmod_eq_emod (a := n) (b := 32)
        rw [ht] at h2
        split at h2 <;> omega)
    | (have e : t = m := by
        have h2 := Int.tmod_eq_emod (a := n) (b := 32)
        rw [ht] at h2
        split at h2 <;> omega)
    clear hm
    go_enter Tryd.func56, Tryd.ntmps56
    go_wp2
    clear e ht
    go_loop [0, 5] (fun v i => ∃ (k : Nat) (y : Int), k ≤ m ∧ 0 ≤ y ∧ y < 4294967296 ∧ Hid (y = Wd.rot x k) ∧ i = .int .i64 k ∧ v = .int .u32 y) (fun _ i => m - (intOf i).toNat)
    case atStart => exact ⟨0, x, by omega, h0, h1, by show _ = _; rw [Wd.rot_zero], rfl, rfl⟩
    case round =>
      obtain ⟨k, y, hk, y0, y1, HY, rfl, rfl⟩ := hrel
      by_cases hlt : k < m
      · have hs := Wd.rot_succ x k (by omega)
        have b := Wd.rot_bounds x (k + 1) h0 h1 (by omega)
        rw [← HY.out] at hs
        have HS := Lib.hid hs
        rw [← hs] at b
        clear hs
        go_wp2
        go_round
        case rel => exact ⟨k + 1, _, by omega, b.1, b.2, by show _ = _; rw [← HS.out], by go_num, rfl⟩
        case measure => simp [intOf]; omega
      · go_wp2
        go_ret
        obtain rfl : k = m := by omega
        exact ⟨ret_int (HY.out.trans HR.out.symm), rfl⟩

theorem rput32_c (x : Int) (h0 : 0 ≤ x) (h1 : x < 4294967296) (w : World) :
    Calls Tryd.prog 33 #[.int .u32 x] w fun e w' => e = .returned (.agg (put4 x)) ∧ Below w.heap.size w w' ∧ Grown w w' := by
  go_enter Tryd.func33, Tryd.ntmps33
  go_wp2
  refine bodyPost_ret (v := .agg (put4 x)) (by simp [results, Tryd.results33, go_sem, put4]) rfl ⟨rfl, ?_, ?_⟩
  · go_grown
  · go_grown

theorem rput64_c (x : Int) (h0 : 0 ≤ x) (h1 : x < 18446744073709551616) (w : World) :
    Calls Tryd.prog 21 #[.int .u64 x] w fun e w' => e = .returned (.agg (put8 x)) ∧ Below w.heap.size w w' ∧ Grown w w' := by
  have HT := Lib.hid (show x / 256 / 256 / 256 / 256 / 256 / 256 / 256 % 256 = x / 256 / 256 / 256 / 256 / 256 / 256 / 256 by omega)
  go_enter Tryd.func21, Tryd.ntmps21
  go_wp2
  go_rounds 9
  refine bodyPost_ret (v := .agg (put8 x)) (by simp [results, Tryd.results21, go_sem, put8, HT.out]) rfl ⟨rfl, ?_, ?_⟩
  · go_grown
  · go_grown

theorem rget32_c (a b c d : Int) (a0 : 0 ≤ a) (a1 : a < 256) (b0 : 0 ≤ b) (b1 : b < 256) (c0 : 0 ≤ c) (c1 : c < 256) (d0 : 0 ≤ d) (d1 : d < 256) (w : World) :
    Calls Tryd.prog 47 #[.agg #[.int .u8 a, .int .u8 b, .int .u8 c, .int .u8 d]] w fun e w' => e = .returned (.int .u32 (Wd.get4 a b c d)) ∧ Below w.heap.size w w' ∧ Grown w w' := by
  go_enter Tryd.func47, Tryd.ntmps47
  go_wp2
  go_rounds 5
  go_ret
  refine ⟨rfl, ?_, ?_⟩
  · go_grown
  · go_grown



end Go.Proofs.YtdnjnbeoioicfaaDoor

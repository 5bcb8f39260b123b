/-
  What each function of the document's answers for layer 1 returns, and what it leaves of memory.
  Conditions: the arguments lie in their types' ranges.
-/
import Derived.Test.YtaaneoopjjdboaaWordA
namespace Go.Proofs.Ytaaneoopjjdboaa
open Go.ChangeShapes Go.WideShapes Go.ChangeAt Go.RowKit
set_option linter.unusedVariables false

theorem rleft_c (x n : Int) (h0 : 0 ≤ x) (h1 : x < 4294967296) (n0 : -9223372036854775808 ≤ n) (n1 : n ≤ 9223372036854775807) (w : World) :
    Calls Try.prog 9 #[.int .u32 x, .int .i64 n] w fun e w' => e = .returned (.int .u32 (Wd.left x n)) ∧ w = w' := by
  by_cases hh : 31 < n
  · have H := Lib.hid (Wd.left_high x n hh)
    go_enter Try.func9, Try.ntmps9
    go_wp2
    go_ret
    exact ⟨ret_int H.out.symm, rfl⟩
  · by_cases hl : n < 1
    · have H := Lib.hid (Wd.left_low x n hl)
      go_enter Try.func9, Try.ntmps9
      go_wp2
      go_rounds 1
      go_ret
      exact ⟨ret_int H.out.symm, rfl⟩
    · obtain ⟨m, rfl⟩ := Int.eq_ofNat_of_zero_le (show 0 ≤ n by omega)
      have m1 : m ≤ 31 := by omega
      clear hh hl
      go_enter Try.func9, Try.ntmps9
      go_wp2
      go_loop [0, 5] (fun v i => ∃ (k : Nat) (y : Int), k ≤ m ∧ 0 ≤ y ∧ y < 4294967296 ∧ Hid (y = Wd.left x k) ∧ i = .int .i64 k ∧ v = .int .u32 y) (fun _ i => m - (intOf i).toNat)
      case atStart => exact ⟨0, x, by omega, h0, h1, by show _ = _; rw [Wd.left_low x _ (by omega)], rfl, rfl⟩
      case round =>
        obtain ⟨k, y, hk, y0, y1, HY, rfl, rfl⟩ := hrel
        by_cases hlt : k < m
        · have b := Wd.left_bounds x (k + 1 : Nat) h0 h1
          have hs := Wd.left_succ x k (by omega)
          rw [← HY.out] at hs
          have HS := Lib.hid hs
          clear b hs
          go_wp2
          go_round
          case rel => exact ⟨k + 1, _, by omega, by omega, by omega, by show _ = _; rw [← HS.out], by go_num, rfl⟩
          case measure => simp [intOf]; omega
        · go_wp2
          go_ret
          obtain rfl : k = m := by omega
          exact ⟨ret_int HY.out, rfl⟩

theorem rright_c (x n : Int) (h0 : 0 ≤ x) (h1 : x < 4294967296) (n0 : -9223372036854775808 ≤ n) (n1 : n ≤ 9223372036854775807) (w : World) :
    Calls Try.prog 11 #[.int .u32 x, .int .i64 n] w fun e w' => e = .returned (.int .u32 (Wd.right x n)) ∧ w = w' := by
  by_cases hh : 31 < n
  · have H := Lib.hid (Wd.right_high x n hh)
    go_enter Try.func11, Try.ntmps11
    go_wp2
    go_ret
    exact ⟨ret_int H.out.symm, rfl⟩
  · by_cases hl : n < 1
    · have H := Lib.hid (Wd.right_low x n hl)
      go_enter Try.func11, Try.ntmps11
      go_wp2
      go_rounds 1
      go_ret
      exact ⟨ret_int H.out.symm, rfl⟩
    · obtain ⟨m, rfl⟩ := Int.eq_ofNat_of_zero_le (show 0 ≤ n by omega)
      have m1 : m ≤ 31 := by omega
      clear hh hl
      go_enter Try.func11, Try.ntmps11
      go_wp2
      go_loop [0, 5] (fun v i => ∃ (k : Nat) (y : Int), k ≤ m ∧ 0 ≤ y ∧ y < 4294967296 ∧ Hid (y = Wd.right x k) ∧ i = .int .i64 k ∧ v = .int .u32 y) (fun _ i => m - (intOf i).toNat)
      case atStart => exact ⟨0, x, by omega, h0, h1, by show _ = _; rw [Wd.right_low x _ (by omega)], rfl, rfl⟩
      case round =>
        obtain ⟨k, y, hk, y0, y1, HY, rfl, rfl⟩ := hrel
        by_cases hlt : k < m
        · have hs := Wd.right_succ x k (by omega)
          rw [← HY.out] at hs
          have HS := Lib.hid hs
          clear hs
          go_wp2
          go_round
          case rel => exact ⟨k + 1, _, by omega, by omega, by omega, by show _ = _; rw [← HS.out], by go_num, rfl⟩
          case measure => simp [intOf]; omega
        · go_wp2
          go_ret
          obtain rfl : k = m := by omega
          exact ⟨ret_int HY.out, rfl⟩

theorem rrotate_c (x n : Int) (h0 : 0 ≤ x) (h1 : x < 4294967296) (n0 : -9223372036854775808 ≤ n) (n1 : n ≤ 9223372036854775807) (w : World) :
    Calls Try.prog 13 #[.int .u32 x, .int .i64 n] w fun e w' => e = .returned (.int .u32 (Wd.rotate x n)) ∧ w = w' := by
  obtain ⟨m, hm⟩ : ∃ m : Nat, (n % 32).toNat = m := ⟨_, rfl⟩
  have m1 : m < 32 := by omega
  have hr : Wd.rotate x n = Wd.rot x m := by unfold Wd.rotate; rw [hm]
  have HR := Lib.hid hr
  clear hr
  obtain ⟨t, ht⟩ : ∃ t : Int, n.tmod 32 = t := ⟨_, rfl⟩
  by_cases hneg : t < 0
  all_goals
    first
    | (have e : t + 32 = m := by
        have h2 := Int.tmod_eq_emod (a := n) (b := 32)
        rw [ht] at h2
        split at h2 <;> omega)
    | (have e : t = m := by
        have h2 := Int.tmod_eq_emod (a := n) (b := 32)
        rw [ht] at h2
        split at h2 <;> omega)
    clear hm
    go_enter Try.func13, Try.ntmps13
    go_wp2
    clear e ht
    go_loop [0, 5] (fun v i => ∃ (k : Nat) (y : Int), k ≤ m ∧ 0 ≤ y ∧ y < 4294967296 ∧ Hid (y = Wd.rot x k) ∧ i = .int .i64 k ∧ v = .int .u32 y) (fun _ i => m - (intOf i).toNat)
    case atStart => exact ⟨0, x, by omega, h0, h1, by show _ = _; rw [Wd.rot_zero], rfl, rfl⟩
    case round =>
      obtain ⟨k, y, hk, y0, y1, HY, rfl, rfl⟩ := hrel
      by_cases hlt : k < m
      · have hs := Wd.rot_succ x k (by omega)
        have b := Wd.rot_bounds x (k + 1) h0 h1 (by omega)
        rw [← HY.out] at hs
        have HS := Lib.hid hs
        rw [← hs] at b
        clear hs
        go_wp2
        go_round
        case rel => exact ⟨k + 1, _, by omega, b.1, b.2, by show _ = _; rw [← HS.out], by go_num, rfl⟩
        case measure => simp [intOf]; omega
      · go_wp2
        go_ret
        obtain rfl : k = m := by omega
        exact ⟨ret_int (HY.out.trans HR.out.symm), rfl⟩

theorem rput32_c (x : Int) (h0 : 0 ≤ x) (h1 : x < 4294967296) (w : World) :
    Calls Try.prog 19 #[.int .u32 x] w fun e w' => e = .returned (.agg (put4 x)) ∧ Below w.heap.size w w' ∧ Grown w w' := by
  go_enter Try.func19, Try.ntmps19
  go_wp2
  refine bodyPost_ret (v := .agg (put4 x)) (by simp [results, Try.results19, go_sem, put4]) rfl ⟨rfl, ?_, ?_⟩
  · go_grown
  · go_grown

theorem rput64_c (x : Int) (h0 : 0 ≤ x) (h1 : x < 18446744073709551616) (w : World) :
    Calls Try.prog 15 #[.int .u64 x] w fun e w' => e = .returned (.agg (put8 x)) ∧ Below w.heap.size w w' ∧ Grown w w' := by
  have HT := Lib.hid (show x / 256 / 256 / 256 / 256 / 256 / 256 / 256 % 256 = x / 256 / 256 / 256 / 256 / 256 / 256 / 256 by omega)
  go_enter Try.func15, Try.ntmps15
  go_wp2
  go_rounds 9
  refine bodyPost_ret (v := .agg (put8 x)) (by simp [results, Try.results15, go_sem, put8, HT.out]) rfl ⟨rfl, ?_, ?_⟩
  · go_grown
  · go_grown

theorem rget32_c (a b c d : Int) (a0 : 0 ≤ a) (a1 : a < 256) (b0 : 0 ≤ b) (b1 : b < 256) (c0 : 0 ≤ c) (c1 : c < 256) (d0 : 0 ≤ d) (d1 : d < 256) (w : World) :
    Calls Try.prog 21 #[.agg #[.int .u8 a, .int .u8 b, .int .u8 c, .int .u8 d]] w fun e w' => e = .returned (.int .u32 (Wd.get4 a b c d)) ∧ Below w.heap.size w w' ∧ Grown w w' := by
  go_enter Try.func21, Try.ntmps21
  go_wp2
  go_rounds 5
  go_ret
  refine ⟨rfl, ?_, ?_⟩
  · go_grown
  · go_grown

theorem rget64_c (a b c d a' b' c' d' : Int)
    (a0 : 0 ≤ a) (a1 : a < 256) (b0 : 0 ≤ b) (b1 : b < 256) (c0 : 0 ≤ c) (c1 : c < 256) (d0 : 0 ≤ d) (d1 : d < 256)
    (a0' : 0 ≤ a') (a1' : a' < 256) (b0' : 0 ≤ b') (b1' : b' < 256) (c0' : 0 ≤ c') (c1' : c' < 256) (d0' : 0 ≤ d') (d1' : d' < 256) (w : World) :
    Calls Try.prog 17 #[.agg #[.int .u8 a, .int .u8 b, .int .u8 c, .int .u8 d, .int .u8 a', .int .u8 b', .int .u8 c', .int .u8 d']] w fun e w' => e = .returned (.int .u64 (get8 a b c d a' b' c' d')) ∧ Below w.heap.size w w' ∧ Grown w w' := by
  go_enter Try.func17, Try.ntmps17
  go_wp2
  go_rounds 9
  go_ret
  refine ⟨rfl, ?_, ?_⟩
  · go_grown
  · go_grown

theorem rbits_c (X : Nat) (h1 : X < 18446744073709551616) (w : World) :
    Calls Try.prog 23 #[.int .u64 X] w fun e w' => e = .returned (.int .i64 (Wd.bitsL X : Nat)) ∧ w = w' := by
  have hb := Wd.bitsL_le X h1
  obtain ⟨B, hB⟩ : ∃ B, Wd.bitsL X = B := ⟨_, rfl⟩
  have HB := Lib.hid hB
  rw [hB] at hb ⊢
  clear hB
  go_enter Try.func23, Try.ntmps23
  go_wp2
  go_loop [0, 3] (fun x n => ∃ y k : Nat, y < 18446744073709551616 ∧ k ≤ 64 ∧ Hid (Wd.bitsL y + k = B) ∧ x = .int .u64 y ∧ n = .int .i64 k) (fun x _ => (intOf x).toNat)
  case atStart => exact ⟨X, 0, h1, by omega, HB, rfl, rfl⟩
  case round =>
    obtain ⟨y, k, hy, hk, HR, rfl, rfl⟩ := hrel
    by_cases hz : y = 0
    · subst hz
      go_wp2
      go_ret
      refine ⟨ret_int ?_, rfl⟩
      have := HR.out
      rw [Wd.bitsL_zero] at this
      omega
    · have hy0 : 0 < y := by omega
      have hle : Wd.bitsL y + k ≤ 64 := by rw [HR.out]; exact hb
      have hs := Wd.bitsL_step y (by omega)
      have hk1 : k ≤ 63 := by omega
      have HS := Lib.hid hs
      clear hs hle hz
      go_wp2
      go_round
      case rel => exact ⟨y / 2, k + 1, by omega, by omega, by have := HR.out; rw [HS.out] at this; show _ = _; omega, by go_num, by go_num⟩
      case measure => simp [intOf]; omega

theorem rbits_i (x : Int) (h0 : 0 ≤ x) (h1 : x < 18446744073709551616) (w : World) :
    Calls Try.prog 23 #[.int .u64 x] w fun e w' => e = .returned (.int .i64 (Wd.bitsL x.toNat : Nat)) ∧ w = w' := by
  obtain ⟨X, rfl⟩ := Int.eq_ofNat_of_zero_le h0
  rw [Int.toNat_natCast]
  exact rbits_c X (by omega) w

end Go.Proofs.Ytaaneoopjjdboaa

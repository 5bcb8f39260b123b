/-
  What each function of package word returns, and what it leaves of memory, for all arguments that its types let in.
  Conditions: the arguments lie in their types' ranges.
-/
import Derived.Test.YtaaneoopjjdboaaRows
import Derived.Test.YtaaneoopjjdboaaPlainA
import Derived.Test.YtaaneoopjjdboaaArrA
import Derived.Handy
import Derived.Lib.Hide
namespace Go.Proofs.Ytaaneoopjjdboaa
open Go.ChangeShapes Go.WideShapes Go.ChangeAt Go.RowKit
set_option linter.unusedVariables false

theorem ret_int {k : IntKind} {a b : Int} (h : a = b) : Ending.returned (.int k a) = .returned (.int k b) := by rw [h]

theorem left_c (x n : Int) (h0 : 0 ≤ x) (h1 : x < 4294967296) (n0 : -9223372036854775808 ≤ n) (n1 : n ≤ 9223372036854775807) (w : World) :
    Calls Try.prog 8 #[.int .u32 x, .int .i64 n] w fun e w' => e = .returned (.int .u32 (Wd.left x n)) ∧ w = w' := by
  by_cases h : n < 1
  · have H := Lib.hid (Wd.left_low x n h)
    go_enter Try.func8, Try.ntmps8
    go_wp2
    go_ret
    exact ⟨ret_int H.out.symm, rfl⟩
  · have g : 0 ≤ n := by omega
    have H := Lib.hid (Wd.left_model x n (by omega))
    go_enter Try.func8, Try.ntmps8
    go_wp2
    go_ret
    exact ⟨ret_int H.out, rfl⟩

theorem right_c (x n : Int) (h0 : 0 ≤ x) (h1 : x < 4294967296) (n0 : -9223372036854775808 ≤ n) (n1 : n ≤ 9223372036854775807) (w : World) :
    Calls Try.prog 10 #[.int .u32 x, .int .i64 n] w fun e w' => e = .returned (.int .u32 (Wd.right x n)) ∧ w = w' := by
  by_cases h : n < 1
  · have H := Lib.hid (Wd.right_low x n h)
    go_enter Try.func10, Try.ntmps10
    go_wp2
    go_ret
    exact ⟨ret_int H.out.symm, rfl⟩
  · have g : 0 ≤ n := by omega
    have H := Lib.hid (Wd.right_model x n h0 h1 (by omega))
    go_enter Try.func10, Try.ntmps10
    go_wp2
    go_ret
    exact ⟨ret_int H.out, rfl⟩

theorem rotate_c (x n : Int) (h0 : 0 ≤ x) (h1 : x < 4294967296) (n0 : -9223372036854775808 ≤ n) (n1 : n ≤ 9223372036854775807) (w : World) :
    Calls Try.prog 12 #[.int .u32 x, .int .i64 n] w fun e w' => e = .returned (.int .u32 (Wd.rotate x n)) ∧ w = w' := by
  have a := Wd.and31 n
  obtain ⟨k, hk⟩ : ∃ k : Int, n % 32 = k := ⟨_, rfl⟩
  rw [hk] at a
  have k0 : 0 ≤ k := by omega
  have k1 : k ≤ 31 := by omega
  have k2 : 0 ≤ 32 - k := by omega
  have H : Wd.rotate x n = bits .or .u32 (x / 2 ^ k.toNat) (x * 2 ^ (32 - k).toNat % 4294967296) := by
    unfold Wd.rotate
    rw [hk, show (32 - k).toNat = 32 - k.toNat by omega, Wd.rot_or x _ h0 h1 (by omega)]
  have H1 := Lib.hid H
  clear H hk
  go_enter Try.func12, Try.ntmps12
  go_wp2
  go_ret
  exact ⟨ret_int H1.out.symm, rfl⟩

def put4 (x : Int) : Array Value := #[.int .u8 (x / 16777216), .int .u8 (x / 65536 % 256), .int .u8 (x / 256 % 256), .int .u8 (x % 256)]
def put8 (x : Int) : Array Value := #[.int .u8 (x / 256 / 256 / 256 / 256 / 256 / 256 / 256), .int .u8 (x / 256 / 256 / 256 / 256 / 256 / 256 % 256), .int .u8 (x / 256 / 256 / 256 / 256 / 256 % 256),
  .int .u8 (x / 256 / 256 / 256 / 256 % 256), .int .u8 (x / 256 / 256 / 256 % 256), .int .u8 (x / 256 / 256 % 256), .int .u8 (x / 256 % 256), .int .u8 (x % 256)]
def get8 (a b c d a' b' c' d' : Int) : Int := ((((((a * 256 + b) * 256 + c) * 256 + d) * 256 + a') * 256 + b') * 256 + c') * 256 + d'

theorem put32_c (x : Int) (h0 : 0 ≤ x) (h1 : x < 4294967296) (w : World) :
    Calls Try.prog 18 #[.int .u32 x] w fun e w' => e = .returned (.agg (put4 x)) ∧ Below w.heap.size w w' ∧ Grown w w' := by
  go_enter Try.func18, Try.ntmps18
  go_wp2
  refine bodyPost_ret (v := .agg (put4 x)) (by simp [results, Try.results18, go_sem, put4]) rfl ⟨rfl, ?_, ?_⟩
  · go_grown
  · go_grown

theorem put64_c (x : Int) (h0 : 0 ≤ x) (h1 : x < 18446744073709551616) (w : World) :
    Calls Try.prog 14 #[.int .u64 x] w fun e w' => e = .returned (.agg (put8 x)) ∧ Below w.heap.size w w' ∧ Grown w w' := by
  go_enter Try.func14, Try.ntmps14
  go_wp2
  go_rounds 9
  refine bodyPost_ret (v := .agg (put8 x)) (by simp [results, Try.results14, go_sem, put8]) rfl ⟨rfl, ?_, ?_⟩
  · go_grown
  · go_grown

theorem get32_c (a b c d : Int) (a0 : 0 ≤ a) (a1 : a < 256) (b0 : 0 ≤ b) (b1 : b < 256) (c0 : 0 ≤ c) (c1 : c < 256) (d0 : 0 ≤ d) (d1 : d < 256) (w : World) :
    Calls Try.prog 20 #[.agg #[.int .u8 a, .int .u8 b, .int .u8 c, .int .u8 d]] w fun e w' => e = .returned (.int .u32 (Wd.get4 a b c d)) ∧ Below w.heap.size w w' ∧ Grown w w' := by
  have H := Lib.hid (Wd.get4_or a b c d a0 a1 b0 b1 c0 c1 d0 d1)
  go_enter Try.func20, Try.ntmps20
  go_wp2
  go_ret
  refine ⟨ret_int H.out, ?_, ?_⟩
  · go_grown
  · go_grown

theorem get64_v (a b c d a' b' c' d' x2 x3 x4 x5 x6 x7 x8 : Int)
    (e1 : bits .or .u64 0 a = a) (e2 : bits .or .u64 (a * 256) b = x2) (e3 : bits .or .u64 (x2 * 256) c = x3) (e4 : bits .or .u64 (x3 * 256) d = x4) (e5 : bits .or .u64 (x4 * 256) a' = x5)
    (e6 : bits .or .u64 (x5 * 256) b' = x6) (e7 : bits .or .u64 (x6 * 256) c' = x7) (e8 : bits .or .u64 (x7 * 256) d' = x8)
    (a0 : 0 ≤ a) (a1 : a < 256) (b0 : 0 ≤ b) (b1 : b < 256) (c0 : 0 ≤ c) (c1 : c < 256) (d0 : 0 ≤ d) (d1 : d < 256)
    (a0' : 0 ≤ a') (a1' : a' < 256) (b0' : 0 ≤ b') (b1' : b' < 256) (c0' : 0 ≤ c') (c1' : c' < 256) (d0' : 0 ≤ d') (d1' : d' < 256)
    (l2 : 0 ≤ x2) (l3 : 0 ≤ x3) (l4 : 0 ≤ x4) (l5 : 0 ≤ x5) (l6 : 0 ≤ x6) (l7 : 0 ≤ x7)
    (u2 : x2 < 72057594037927936) (u3 : x3 < 72057594037927936) (u4 : x4 < 72057594037927936) (u5 : x5 < 72057594037927936) (u6 : x6 < 72057594037927936) (u7 : x7 < 72057594037927936) (w : World) :
    Calls Try.prog 16 #[.agg #[.int .u8 a, .int .u8 b, .int .u8 c, .int .u8 d, .int .u8 a', .int .u8 b', .int .u8 c', .int .u8 d']] w fun e w' => e = .returned (.int .u64 x8) ∧ Below w.heap.size w w' ∧ Grown w w' := by
  have ix := fun (i : Int) v i0 i1 hv W => run_index_arr (P := Try.prog) (f := Try.prog.info? 5 |>.get!) Try.underlying27 Try.underlying5 (by kernel_rfl) (by kernel_rfl) #[.int .u8 a, .int .u8 b, .int .u8 c, .int .u8 d, .int .u8 a', .int .u8 b', .int .u8 c', .int .u8 d'] .i64 i v i0 i1 hv W
  have i0 := ix 0 (.int .u8 a) (by decide) (by decide) rfl
  have i1 := ix 1 (.int .u8 b) (by decide) (by decide) rfl
  have i2 := ix 2 (.int .u8 c) (by decide) (by decide) rfl
  have i3 := ix 3 (.int .u8 d) (by decide) (by decide) rfl
  have i4 := ix 4 (.int .u8 a') (by decide) (by decide) rfl
  have i5 := ix 5 (.int .u8 b') (by decide) (by decide) rfl
  have i6 := ix 6 (.int .u8 c') (by decide) (by decide) rfl
  have i7 := ix 7 (.int .u8 d') (by decide) (by decide) rfl
  clear ix
  go_enter Try.func16, Try.ntmps16
  go_wp2
  go_rounds 9
  go_ret
  refine ⟨rfl, ?_, ?_⟩
  · go_grown
  · go_grown

theorem get64_c (a b c d a' b' c' d' : Int)
    (a0 : 0 ≤ a) (a1 : a < 256) (b0 : 0 ≤ b) (b1 : b < 256) (c0 : 0 ≤ c) (c1 : c < 256) (d0 : 0 ≤ d) (d1 : d < 256)
    (a0' : 0 ≤ a') (a1' : a' < 256) (b0' : 0 ≤ b') (b1' : b' < 256) (c0' : 0 ≤ c') (c1' : c' < 256) (d0' : 0 ≤ d') (d1' : d' < 256) (w : World) :
    Calls Try.prog 16 #[.agg #[.int .u8 a, .int .u8 b, .int .u8 c, .int .u8 d, .int .u8 a', .int .u8 b', .int .u8 c', .int .u8 d']] w fun e w' => e = .returned (.int .u64 (get8 a b c d a' b' c' d')) ∧ Below w.heap.size w w' ∧ Grown w w' := by
  have e1 := Wd.get_step 0 a (by omega) (by omega) a0 a1
  simp only [Int.zero_mul, Int.zero_add] at e1
  exact get64_v a b c d a' b' c' d' _ _ _ _ _ _ _ e1 (Wd.get_step _ _ (by omega) (by omega) b0 b1) (Wd.get_step _ _ (by omega) (by omega) c0 c1) (Wd.get_step _ _ (by omega) (by omega) d0 d1) (Wd.get_step _ _ (by omega) (by omega) a0' a1')
    (Wd.get_step _ _ (by omega) (by omega) b0' b1') (Wd.get_step _ _ (by omega) (by omega) c0' c1') (Wd.get_step _ _ (by omega) (by omega) d0' d1')
    a0 a1 b0 b1 c0 c1 d0 d1 a0' a1' b0' b1' c0' c1' d0' d1' (by omega) (by omega) (by omega) (by omega) (by omega) (by omega) (by omega) (by omega) (by omega) (by omega) (by omega) (by omega) w

theorem bits_c (X : Nat) (h1 : X < 18446744073709551616) (w : World) :
    Calls Try.prog 22 #[.int .u64 X] w fun e w' => e = .returned (.int .i64 (Wd.bitsL X : Nat)) ∧ w = w' := by
  have hb := Wd.bitsL_le X h1
  obtain ⟨B, hB⟩ : ∃ B, Wd.bitsL X = B := ⟨_, rfl⟩
  have HB := Lib.hid hB
  rw [hB] at hb ⊢
  clear hB
  go_enter Try.func22, Try.ntmps22
  go_wp2
  go_loop [0, 3] (fun x n => ∃ y k : Nat, y < 18446744073709551616 ∧ k ≤ 64 ∧ Hid (Wd.bitsL y + k = B) ∧ x = .int .u64 y ∧ n = .int .i64 k) (fun x _ => (intOf x).toNat)
  case atStart => exact ⟨X, 0, h1, by omega, HB, rfl, rfl⟩
  case round =>
    obtain ⟨y, k, hy, hk, HR, rfl, rfl⟩ := hrel
    by_cases hz : y = 0
    · subst hz
      go_wp2
      go_ret
      refine ⟨ret_int ?_, rfl⟩
      have := HR.out
      rw [Wd.bitsL_zero] at this
      omega
    · have h0 : ((y : Int) != 0) = true := by rw [bne_iff_ne]; omega
      have hle : Wd.bitsL y + k ≤ 64 := by rw [HR.out]; exact hb
      have hs := Wd.bitsL_step y (by omega)
      have hk1 : k ≤ 63 := by omega
      have hy0 : 0 < y := by omega
      have HS := Lib.hid hs
      clear hs hle hz
      go_wp2
      go_round
      case rel => exact ⟨y / 2, k + 1, by omega, by omega, by have := HR.out; rw [HS.out] at this; show _ = _; omega, by go_num, by go_num⟩
      case measure => simp [intOf]; omega

theorem bits_i (x : Int) (h0 : 0 ≤ x) (h1 : x < 18446744073709551616) (w : World) :
    Calls Try.prog 22 #[.int .u64 x] w fun e w' => e = .returned (.int .i64 (Wd.bitsL x.toNat : Nat)) ∧ w = w' := by
  obtain ⟨X, rfl⟩ := Int.eq_ofNat_of_zero_le h0
  rw [Int.toNat_natCast]
  exact bits_c X (by omega) w

end Go.Proofs.Ytaaneoopjjdboaa

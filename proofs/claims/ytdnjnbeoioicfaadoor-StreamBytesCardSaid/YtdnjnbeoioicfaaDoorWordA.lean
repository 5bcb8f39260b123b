/-
  What each function of package word returns, and what it leaves of memory, for all arguments that its types let in.
  Conditions: the arguments lie in their types' ranges.
-/
import Derived.Test.YtdnjnbeoioicfaaDoorRows
import Derived.Test.YtdnjnbeoioicfaaDoorPlainA
import Derived.Test.YtdnjnbeoioicfaaDoorArrA
import Derived.Handy
import Derived.Lib.Hide
namespace Go.Proofs.YtdnjnbeoioicfaaDoor
open Go.ChangeShapes Go.WideShapes Go.ChangeAt Go.RowKit
set_option linter.unusedVariables false

theorem ret_int {k : IntKind} {a b : Int} (h : a = b) : Ending.returned (.int k a) = .returned (.int k b) := by rw [h]


theorem right_c (x n : Int) (h0 : 0 ≤ x) (h1 : x < 4294967296) (n0 : -9223372036854775808 ≤ n) (n1 : n ≤ 9223372036854775807) (w : World) :
    Calls Tryd.prog 63 #[.int .u32 x, .int .i64 n] w fun e w' => e = .returned (.int .u32 (Wd.right x n)) ∧ w = w' := by
  by_cases h : n < 1
  · have H := Lib.hid (Wd.right_low x n h)
    go_enter Tryd.func63, Tryd.ntmps63
    go_wp2
    go_ret
    exact ⟨ret_int H.out.symm, rfl⟩
  · have g : 0 ≤ n := by omega
    have H := Lib.hid (Wd.right_model x n h0 h1 (by omega))
    go_enter Tryd.func63, Tryd.ntmps63
    go_wp2
    go_ret
    exact ⟨ret_int H.out, rfl⟩

theorem rotate_c (x n : Int) (h0 : 0 ≤ x) (h1 : x < 4294967296) (n0 : -9223372036854775808 ≤ n) (n1 : n ≤ 9223372036854775807) (w : World) :
    Calls Tryd.prog 62 #[.int .u32 x, .int .i64 n] w fun e w' => e = .returned (.int .u32 (Wd.rotate x n)) ∧ w = w' := by
  have a := Wd.and31 n
  obtain ⟨k, hk⟩ : ∃ k : Int, n % 32 = k := ⟨_, rfl⟩
  rw [hk] at a
  have k0 : 0 ≤ k := by omega
  have k1 : k ≤ 31 := by omega
  have k2 : 0 ≤ 32 - k := by omega
  have H : Wd.rotate x n = bits .or .u32 (x / 2 ^ k.toNat) (x * 2 ^ (32 - k).toNat % 4294967296) := by
    unfold Wd.rotate
    rw [hk, show (32 - k).toNat = 32 - k.toNat by omega, Wd.rot_or x _ h0 h1 (by omega)]
  have H1 := Lib.hid H
  clear H hk
  go_enter Tryd.func62, Tryd.ntmps62
  go_wp2
  go_ret
  exact ⟨ret_int H1.out.symm, rfl⟩

def put4 (x : Int) : Array Value := #[.int .u8 (x / 16777216), .int .u8 (x / 65536 % 256), .int .u8 (x / 256 % 256), .int .u8 (x % 256)]
def put8 (x : Int) : Array Value := #[.int .u8 (x / 256 / 256 / 256 / 256 / 256 / 256 / 256), .int .u8 (x / 256 / 256 / 256 / 256 / 256 / 256 % 256), .int .u8 (x / 256 / 256 / 256 / 256 / 256 % 256),
  .int .u8 (x / 256 / 256 / 256 / 256 % 256), .int .u8 (x / 256 / 256 / 256 % 256), .int .u8 (x / 256 / 256 % 256), .int .u8 (x / 256 % 256), .int .u8 (x % 256)]
def get8 (a b c d a' b' c' d' : Int) : Int := ((((((a * 256 + b) * 256 + c) * 256 + d) * 256 + a') * 256 + b') * 256 + c') * 256 + d'

theorem put32_c (x : Int) (h0 : 0 ≤ x) (h1 : x < 4294967296) (w : World) :
    Calls Tryd.prog 46 #[.int .u32 x] w fun e w' => e = .returned (.agg (put4 x)) ∧ Below w.heap.size w w' ∧ Grown w w' := by
  go_enter Tryd.func46, Tryd.ntmps46
  go_wp2
  refine bodyPost_ret (v := .agg (put4 x)) (by simp [results, Tryd.results46, go_sem, put4]) rfl ⟨rfl, ?_, ?_⟩
  · go_grown
  · go_grown

theorem put64_c (x : Int) (h0 : 0 ≤ x) (h1 : x < 18446744073709551616) (w : World) :
    Calls Tryd.prog 19 #[.int .u64 x] w fun e w' => e = .returned (.agg (put8 x)) ∧ Below w.heap.size w w' ∧ Grown w w' := by
  go_enter Tryd.func19, Tryd.ntmps19
  go_wp2
  go_rounds 9
  refine bodyPost_ret (v := .agg (put8 x)) (by simp [results, Tryd.results19, go_sem, put8]) rfl ⟨rfl, ?_, ?_⟩
  · go_grown
  · go_grown

theorem get32_c (a b c d : Int) (a0 : 0 ≤ a) (a1 : a < 256) (b0 : 0 ≤ b) (b1 : b < 256) (c0 : 0 ≤ c) (c1 : c < 256) (d0 : 0 ≤ d) (d1 : d < 256) (w : World) :
    Calls Tryd.prog 57 #[.agg #[.int .u8 a, .int .u8 b, .int .u8 c, .int .u8 d]] w fun e w' => e = .returned (.int .u32 (Wd.get4 a b c d)) ∧ Below w.heap.size w w' ∧ Grown w w' := by
  have H := Lib.hid (Wd.get4_or a b c d a0 a1 b0 b1 c0 c1 d0 d1)
  go_enter Tryd.func57, Tryd.ntmps57
  go_wp2
  go_ret
  refine ⟨ret_int H.out, ?_, ?_⟩
  · go_grown
  · go_grown



end Go.Proofs.YtdnjnbeoioicfaaDoor

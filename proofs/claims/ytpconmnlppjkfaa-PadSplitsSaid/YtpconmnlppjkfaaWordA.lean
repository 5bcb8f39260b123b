/-
  What each function of package word returns, and what it leaves of memory, for all arguments that its types let in.
  Conditions: the arguments lie in their types' ranges.
-/
import Derived.Test.YtpconmnlppjkfaaRows
import Derived.Test.YtpconmnlppjkfaaPlainA
import Derived.Test.YtpconmnlppjkfaaArrA
import Derived.Handy
import Derived.Lib.Hide
namespace Go.Proofs.Ytpconmnlppjkfaa
open Go.ChangeShapes Go.WideShapes Go.ChangeAt Go.RowKit
set_option linter.unusedVariables false

theorem ret_int {k : IntKind} {a b : Int} (h : a = b) : Ending.returned (.int k a) = .returned (.int k b) := by rw [h]




def put4 (x : Int) : Array Value := #[.int .u8 (x / 16777216), .int .u8 (x / 65536 % 256), .int .u8 (x / 256 % 256), .int .u8 (x % 256)]
def put8 (x : Int) : Array Value := #[.int .u8 (x / 256 / 256 / 256 / 256 / 256 / 256 / 256), .int .u8 (x / 256 / 256 / 256 / 256 / 256 / 256 % 256), .int .u8 (x / 256 / 256 / 256 / 256 / 256 % 256),
  .int .u8 (x / 256 / 256 / 256 / 256 % 256), .int .u8 (x / 256 / 256 / 256 % 256), .int .u8 (x / 256 / 256 % 256), .int .u8 (x / 256 % 256), .int .u8 (x % 256)]
def get8 (a b c d a' b' c' d' : Int) : Int := ((((((a * 256 + b) * 256 + c) * 256 + d) * 256 + a') * 256 + b') * 256 + c') * 256 + d'


theorem put64_c (x : Int) (h0 : 0 ≤ x) (h1 : x < 18446744073709551616) (w : World) :
    Calls Try.prog 17 #[.int .u64 x] w fun e w' => e = .returned (.agg (put8 x)) ∧ Below w.heap.size w w' ∧ Grown w w' := by
  go_enter Try.func17, Try.ntmps17
  go_wp2
  go_rounds 9
  refine bodyPost_ret (v := .agg (put8 x)) (by simp [results, Try.results17, go_sem, put8]) rfl ⟨rfl, ?_, ?_⟩
  · go_grown
  · go_grown




end Go.Proofs.Ytpconmnlppjkfaa

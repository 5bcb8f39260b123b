/-
  What each function of the document's answers for layer 1 returns, and what it leaves of memory.
  Conditions: the arguments lie in their types' ranges.
-/
import Derived.Test.YtpconmnlppjkfaaWordA
namespace Go.Proofs.Ytpconmnlppjkfaa
open Go.ChangeShapes Go.WideShapes Go.ChangeAt Go.RowKit
set_option linter.unusedVariables false





theorem rput64_c (x : Int) (h0 : 0 ≤ x) (h1 : x < 18446744073709551616) (w : World) :
    Calls Try.prog 18 #[.int .u64 x] w fun e w' => e = .returned (.agg (put8 x)) ∧ Below w.heap.size w w' ∧ Grown w w' := by
  have HT := Lib.hid (show x / 256 / 256 / 256 / 256 / 256 / 256 / 256 % 256 = x / 256 / 256 / 256 / 256 / 256 / 256 / 256 by omega)
  go_enter Try.func18, Try.ntmps18
  go_wp2
  go_rounds 9
  refine bodyPost_ret (v := .agg (put8 x)) (by simp [results, Try.results18, go_sem, put8, HT.out]) rfl ⟨rfl, ?_, ?_⟩
  · go_grown
  · go_grown




end Go.Proofs.Ytpconmnlppjkfaa

/-
  The fixed fact of stage 12's laws comes true, and what was there is left as it was.
  Conditions: none.
-/
import Derived.Test.YtilccjjagdedaaaDoorScnL
import Derived.Test.YtilccjjagdedaaaDoorScnR
import Derived.Test.YtilccjjagdedaaaDoorScnA
set_option maxRecDepth 100000
set_option linter.unusedVariables false
set_option linter.unusedSimpArgs false
namespace Go.Proofs.YtilccjjagdedaaaDoor
open Go.ChangeShapes Go.WideShapes Go.ChangeAt Go.RowKit
set_option maxHeartbeats 8000000 in
theorem alive12_c (w : World) : Calls Tryd.prog 4 #[] w fun e w' => e = .returned (.bool true) ∧ Below w.heap.size w w' := by
  have h15 := Lib.hid (fun A c W (hr : Rd .u64 W W.heap.size A 3 [3, 0, 2]) => calls_val (v' := .tuple #[.int .i64 2, .int .i64 0]) (q12owner_c [3, 0, 2] (by decide) A 3 c (by decide) 3 (by decide) (by decide) W hr) (by first | rfl | decide))
  have h20 := Lib.hid (fun A c W (hr : Rd .u64 W W.heap.size A 3 [3, 0, 2]) => calls_val (v' := .tuple #[.int .i64 0, .int .i64 3]) (q12owner_c [3, 0, 2] (by decide) A 3 c (by decide) 5 (by decide) (by decide) W hr) (by first | rfl | decide))
  have h25 := Lib.hid (fun A c W (hr : Rd .u64 W W.heap.size A 3 [3, 0, 2]) => calls_val (v' := .tuple #[.int .u64 5, .int .i64 0]) (q12total_c [3, 0, 2] (by decide) A 3 c (by decide)  W hr) (by first | rfl | decide))
  have h30 := Lib.hid (fun A c W (hr : Rd .u64 W W.heap.size A 1 [9223372036854775808]) => calls_val (v' := .tuple #[.int .u64 0, .int .i64 11]) (q12total_c [9223372036854775808] (by decide) A 1 c (by decide)  W hr) (by first | rfl | decide))
  have h35 := Lib.hid (fun A c W (hr : Rd .u64 W W.heap.size A 3 [3, 0, 2]) => calls_lst (n := 3) (ts' := [0, 0, 2]) (er' := 0) (q12without_c [3, 0, 2] (by decide) A 3 c (by decide) 0 (by decide) (by decide) W hr) (by decide) (by decide) rfl)
  have h40 := Lib.hid (fun A c W (hr : Rd .u64 W W.heap.size A 3 [3, 0, 2]) => calls_lst (n := 0) (ts' := []) (er' := 3) (q12without_c [3, 0, 2] (by decide) A 3 c (by decide) 3 (by decide) (by decide) W hr) (by decide) (by decide) rfl)
  have h75 := Lib.hid (fun A c W (hr : Rd .u64 W W.heap.size A 3 [3, 0, 2]) => calls_val (v' := .int .i64 2) (q12pos_c [3, 0, 2] (by decide) A 3 c (by decide)  W hr) (by first | rfl | decide))
  have h81 := Lib.hid (fun A B c d W (h1 : Rd .u64 W W.heap.size A 3 [0, 0, 2]) (h2 : Rd .u64 W W.heap.size B 3 [0, 0, 2]) => calls_val (v' := .bool true) (r9same_c [0, 0, 2] [0, 0, 2] A B 3 3 c d (by simp [maxLen]) (by simp [maxLen]) W h1 h2) (congrArg Value.bool (by decide)))
  have G0 : Hid (Fx [.bel w] w) := Lib.hid (Fx.bel0 w)
  go_enter Tryd.func4, Tryd.ntmps4
  go_wp2_with (first
    | (with_reducible refine at_any ?_; refine at_dst 14 rfl ?_; refine wpList_build3 (by kernel_rfl) (.const (.int .u64 3)) (.const (.int .u64 0)) (.const (.int .u64 2)) rfl 3 0 2 rfl rfl rfl ?_; intro gl2 w1 hrw1 hbw1; have G3 := Lib.hid (Fx.addR G0.out hbw1 hrw1); clear G0; clear hrw1 hbw1)
    | (go_at_call 6; (with_reducible refine (h15.out _ _ _ (Fx.r0 G3.out)).mono ?_); rintro e w4 ⟨rfl, hbw4⟩; have G5 := Lib.hid (Fx.below G3.out hbw4); clear G3; clear hbw4)
    | (with_reducible refine at_any ?_; refine at_dst 19 rfl ?_; refine wpList_build3 (by kernel_rfl) (.const (.int .u64 3)) (.const (.int .u64 0)) (.const (.int .u64 2)) rfl 3 0 2 rfl rfl rfl ?_; intro gl7 w6 hrw6 hbw6; have G8 := Lib.hid (Fx.addR G5.out hbw6 hrw6); clear G5; clear hrw6 hbw6)
    | (go_at_call 6; (with_reducible refine (h20.out _ _ _ (Fx.r0 G8.out)).mono ?_); rintro e w9 ⟨rfl, hbw9⟩; have G10 := Lib.hid (Fx.below G8.out hbw9); clear G8; clear hbw9)
    | (with_reducible refine at_any ?_; refine at_dst 24 rfl ?_; refine wpList_build3 (by kernel_rfl) (.const (.int .u64 3)) (.const (.int .u64 0)) (.const (.int .u64 2)) rfl 3 0 2 rfl rfl rfl ?_; intro gl12 w11 hrw11 hbw11; have G13 := Lib.hid (Fx.addR G10.out hbw11 hrw11); clear G10; clear hrw11 hbw11)
    | (go_at_call 8; (with_reducible refine (h25.out _ _ _ (Fx.r0 G13.out)).mono ?_); rintro e w14 ⟨rfl, hbw14⟩; have G15 := Lib.hid (Fx.below G13.out hbw14); clear G13; clear hbw14)
    | (with_reducible refine at_any ?_; refine at_dst 29 rfl ?_; refine wpList_build1 (by kernel_rfl) (.const (.int .u64 9223372036854775808)) rfl 9223372036854775808 rfl ?_; intro gl17 w16 hrw16 hbw16; have G18 := Lib.hid (Fx.addR G15.out hbw16 hrw16); clear G15; clear hrw16 hbw16)
    | (go_at_call 8; (with_reducible refine (h30.out _ _ _ (Fx.r0 G18.out)).mono ?_); rintro e w19 ⟨rfl, hbw19⟩; have G20 := Lib.hid (Fx.below G18.out hbw19); clear G18; clear hbw19)
    | (with_reducible refine at_any ?_; refine at_dst 34 rfl ?_; refine wpList_build3 (by kernel_rfl) (.const (.int .u64 3)) (.const (.int .u64 0)) (.const (.int .u64 2)) rfl 3 0 2 rfl rfl rfl ?_; intro gl22 w21 hrw21 hbw21; have G23 := Lib.hid (Fx.addR G20.out hbw21 hrw21); clear G20; clear hrw21 hbw21)
    | (go_at_call 9; (with_reducible refine (h35.out _ _ _ (Fx.r0 G23.out)).mono ?_); rintro e w24 ⟨A25, c26, rfl, hrw24, hlw24, hmw24, hbw24⟩; have lc26 := Lib.hid hlw24; have mc26 := Lib.hid hmw24; have G27 := Lib.hid (Fx.addR G23.out hbw24 hrw24); clear G23; clear hrw24 hbw24 hlw24 hmw24)
    | (with_reducible refine at_any ?_; refine at_dst 39 rfl ?_; refine wpList_build3 (by kernel_rfl) (.const (.int .u64 3)) (.const (.int .u64 0)) (.const (.int .u64 2)) rfl 3 0 2 rfl rfl rfl ?_; intro gl29 w28 hrw28 hbw28; have G30 := Lib.hid (Fx.addR G27.out hbw28 hrw28); clear G27; clear hrw28 hbw28)
    | (go_at_call 9; (with_reducible refine (h40.out _ _ _ (Fx.r0 G30.out)).mono ?_); rintro e w31 ⟨A32, c33, rfl, hrw31, hlw31, hmw31, hbw31⟩; have lc33 := Lib.hid hlw31; have mc33 := Lib.hid hmw31; have G34 := Lib.hid (Fx.addR G30.out hbw31 hrw31); clear G30; clear hrw31 hbw31 hlw31 hmw31)
    | (go_at_call 10; (with_reducible refine (h75.out _ _ _ (Fx.r0 (Fx.lit3 G34.out 3 0 2))).mono ?_); rintro e w35 ⟨rfl, hbw35⟩; have G36 := Lib.hid (Fx.below (Fx.lit3 G34.out 3 0 2) hbw35); clear G34; clear hbw35)
    | (go_at_call 11; (with_reducible refine (h81.out _ _ _ _ _ (Fx.r4 (Fx.lit3 G36.out 0 0 2)) (Fx.r0 (Fx.lit3 G36.out 0 0 2))).mono ?_); rintro e w37 ⟨rfl, hbw37⟩; have G38 := Lib.hid (Fx.below (Fx.lit3 G36.out 0 0 2) hbw37); clear G36; clear hbw37))
  go_ret
  exact ⟨rfl, (Fx.e10 G38.out)⟩
end Go.Proofs.YtilccjjagdedaaaDoor

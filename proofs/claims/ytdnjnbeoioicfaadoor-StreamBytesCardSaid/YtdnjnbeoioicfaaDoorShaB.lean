/-
  What the program's sha.New, Right, Same, and bytes.Equal return, and that they leave memory as it was.
  Conditions: the arguments lie in their types' ranges.
-/
import Derived.Test.YtdnjnbeoioicfaaDoorRefJ
import Derived.Test.YtdnjnbeoioicfaaDoorCompA
set_option linter.unusedSimpArgs false
namespace Go.Proofs.YtdnjnbeoioicfaaDoor
open Go.ChangeShapes Go.WideShapes Go.ChangeAt Go.RowKit
set_option linter.unusedVariables false
set_option maxHeartbeats 1000000 in
theorem qnew_c (w : World) : Calls Tryd.prog 29 #[] w fun e w' => e = .returned (.agg (wrV startL none 0 0 0)) ∧ Below w.heap.size w w' := by
  have ZS := Lib.hid (show (wrV Z8 none 0 0 0).size = (wrV startL none 0 0 0).size by rw [wrV_size _ rfl, wrV_size _ rfl])
  have SS := Lib.hid (sizedW startL rfl none 0 0 0)
  have OS := Lib.hid (wrV_ones startL none 0 0 0)
  have CS := Lib.hid (fun W => cstart_c W)
  have hsl : startL.length = 8 := rfl
  obtain ⟨S, hS⟩ : ∃ S, startL = S := ⟨_, rfl⟩
  rw [hS] at ZS SS OS CS hsl ⊢
  have HSL := Lib.hid hsl
  clear hS hsl
  go_enter Tryd.func29, Tryd.ntmps29
  go_wp2_with (first
    | (with_reducible refine at_any ?_; refine at_dst 0 rfl ?_; refine wpList_alloc_any rfl 60 rfl (wrV Z8 none 0 0 0) zero_wr ?_; intro w1 hk1 hs1 hb1)
    | (go_at_call 35; (with_reducible refine (CS.out _).mono ?_); rintro e w4 ⟨rfl, hb4⟩; have hk4 := Lib.hid (hk1.out.below hb4 hk1.out.lt); have bl4 := Lib.hid (hb1.trans (hb4.mono hb1.size)))
    | (with_reducible refine at_any ?_; refine at_dst 2 rfl ?_; refine wpList_val rfl (.agg (wrV S none 0 0 0)) (build_new _ S HSL.out rfl rfl) ?_)
    | (with_reducible refine at_any ?_; refine at_store 0 rfl ?_; refine wpList_store_any rfl 60 (.tmp 0) (.tmp 2) rfl w.heap.size rfl 60 (wrV Z8 none 0 0 0) (wrV S none 0 0 0) hk4.out rfl ZS.out SS.out OS.out ?_; intro w9 hk9 hs9 hb9 ho9)
    | (refine bodyPost_any 0 60 rfl w.heap.size rfl 60 (wrV S none 0 0 0) hk9.out _ Tryd.underlying60 rfl SS.out rfl ?_))
  exact bl4.out.trans (hb9 _ (Nat.le_refl _))
end Go.Proofs.YtdnjnbeoioicfaaDoor

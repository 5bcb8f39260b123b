/-
  Hashes as lists of numbers: blocks taken into a state, a state's bytes.
  Conditions: those that each theorem names.
-/
import Derived.Test.YtdnjnbeoioicfaaDoorCompP
namespace Go.Proofs.YtdnjnbeoioicfaaDoor
open Go.ChangeShapes Go.WideShapes Go.ChangeAt Go.RowKit
theorem takeL_len (s b : List Int) (hl : s.length = 8) : (takeL s b).length = 8 := by unfold takeL; rw [sums_len, rounds_len s b hl]
theorem takeL_in (s b : List Int) (hs : WIn s) : WIn (takeL s b) := sums_in _ _ (rounds_in s b hs 64) 8
def takesL (s : List Int) (bs : List (List Int)) : List Int := bs.foldl takeL s
theorem takesL_len (s : List Int) (bs : List (List Int)) (hl : s.length = 8) : (takesL s bs).length = 8 := by
  induction bs generalizing s with
  | nil => exact hl
  | cons b bs ih => exact ih _ (takeL_len s b hl)
theorem takesL_in (s : List Int) (bs : List (List Int)) (hs : WIn s) : WIn (takesL s bs) := by
  induction bs generalizing s with
  | nil => exact hs
  | cons b bs ih => exact ih _ (takeL_in s b hs)
theorem takesL_append (s : List Int) (bs cs : List (List Int)) : takesL s (bs ++ cs) = takesL (takesL s bs) cs := List.foldl_append ..
theorem takesL_next (s : List Int) (bs : List (List Int)) (i : Nat) (hi : i < bs.length) : takesL s (bs.take (i + 1)) = takeL (takesL s (bs.take i)) (bs.getD i []) := by
  rw [List.take_succ_eq_append_getElem hi, takesL_append]
  simp [takesL, hi]
theorem startL_len : startL.length = 8 := rfl
theorem startL_in : WIn startL := by unfold WIn; decide +kernel
/-! ### a state's bytes -/
def hashL (s : List Int) : List Int := backTo s 8
theorem hashL_len (s : List Int) : (hashL s).length = 32 := backTo_len s 8
theorem hashL_in (s : List Int) (hs : WIn s) : ∀ z ∈ hashL s, 0 ≤ z ∧ z < 256 := backTo_in s hs 8
def hashF (l : List Int) (i k : Nat) : List Int := backTo l i ++ ((put4L (l.getD i 0)).take k ++ List.replicate (32 - (4 * i + k)) 0)
theorem hashF_len (l : List Int) (i k : Nat) (hk : k ≤ 4) (h : 4 * i + k ≤ 32) : (hashF l i k).length = 32 := by
  simp [hashF, backTo_len, put4L]; omega
theorem hashF_zero (l : List Int) : hashF l 0 0 = List.replicate 32 0 := by simp [hashF, backTo]
theorem hashF_next (l : List Int) (i : Nat) : hashF l i 4 = hashF l (i + 1) 0 := by
  unfold hashF
  rw [List.take_of_length_le (by simp [put4L]), List.take_zero, List.nil_append, ← List.append_assoc]
  rfl
theorem hashF_full (l : List Int) : hashF l 8 0 = hashL l := by simp [hashF, hashL]
theorem hashF_set (l : List Int) (i k : Nat) (hk : k < 4) (h : i < 8) : (hashF l i k).set (4 * i + k) ((put4L (l.getD i 0)).getD k 0) = hashF l i (k + 1) := by
  obtain ⟨ps, hps⟩ : ∃ ps, put4L (l.getD i 0) = ps := ⟨_, rfl⟩
  have hl : ps.length = 4 := by rw [← hps]; rfl
  unfold hashF
  rw [hps, List.set_append_right _ _ (by rw [backTo_len]; omega), backTo_len, List.set_append_right _ _ (by rw [List.length_take]; omega), List.length_take, show 4 * i + k - 4 * i - min k ps.length = 0 by omega, show 32 - (4 * i + k) = (32 - (4 * i + (k + 1))) + 1 by omega, List.replicate_succ, List.set_cons_zero]
  rw [List.take_succ_eq_append_getElem (by omega), List.append_assoc]
  simp [show k < ps.length by omega]
end Go.Proofs.YtdnjnbeoioicfaaDoor

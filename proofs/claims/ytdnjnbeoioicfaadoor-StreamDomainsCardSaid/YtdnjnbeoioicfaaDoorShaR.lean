/-
  What a state and a rest make of more bytes: in pieces, and at a block's end.
  Conditions: none beyond those that each theorem names.
-/
import Derived.Test.YtdnjnbeoioicfaaDoorShaQ
namespace Go.Proofs.YtdnjnbeoioicfaaDoor
open Go.ChangeShapes Go.WideShapes Go.ChangeAt Go.RowKit
theorem more_parts (z b : List Int) : (z ++ b).length / 64 = z.length / 64 + (z.drop (64 * (z.length / 64)) ++ b).length / 64 := by
  rw [List.length_append, List.length_append, List.length_drop]; omega
theorem more_split (z b : List Int) : z ++ b = z.take (64 * (z.length / 64)) ++ (z.drop (64 * (z.length / 64)) ++ b) := by
  rw [← List.append_assoc, List.take_append_drop]
theorem nextS_more (s r a b : List Int) : nextS s r (a ++ b) = nextS (nextS s r a) (nextR r a) b := by
  unfold nextS nextR
  rw [← List.append_assoc]
  obtain ⟨z, hz⟩ : ∃ z, r ++ a = z := ⟨_, rfl⟩
  rw [hz, more_parts z b, ← takesL_append, ← cutN_take z, ← cutN_append _ _ _ _ (by rw [List.length_take]; omega), ← more_split]
theorem nextR_more (r a b : List Int) : nextR r (a ++ b) = nextR (nextR r a) b := by
  unfold nextR
  rw [← List.append_assoc]
  obtain ⟨z, hz⟩ : ∃ z, r ++ a = z := ⟨_, rfl⟩
  rw [hz]
  have h := more_parts z b
  have e := more_split z b
  obtain ⟨m, hm⟩ : ∃ m, z.drop (64 * (z.length / 64)) ++ b = m := ⟨_, rfl⟩
  rw [hm] at e h
  rw [h, hm, e, List.drop_append, List.drop_eq_nil_of_le (by rw [List.length_take]; omega), List.nil_append, List.length_take]
  congr 1
  omega
theorem nextS_few (s r y : List Int) (h : (r ++ y).length < 64) : nextS s r y = s := by
  unfold nextS
  rw [show (r ++ y).length / 64 = 0 by omega]
  rfl
theorem nextR_few (r y : List Int) (h : (r ++ y).length < 64) : nextR r y = r ++ y := by
  unfold nextR
  rw [show (r ++ y).length / 64 = 0 by omega]
  rfl
theorem nextS_full (s r y : List Int) (h : (r ++ y).length = 64) : nextS s r y = takeL s (r ++ y) := by
  unfold nextS
  rw [show (r ++ y).length / 64 = 1 by omega]
  have : cutN (r ++ y) 1 = [r ++ y] := by
    simp only [cutN, List.range_one, List.map_cons, List.map_nil, Nat.mul_zero, List.drop_zero]
    rw [List.take_of_length_le (by omega)]
  rw [this]
  rfl
theorem nextR_full (r y : List Int) (h : (r ++ y).length = 64) : nextR r y = [] := by
  unfold nextR
  rw [show (r ++ y).length / 64 = 1 by omega, List.drop_eq_nil_of_le (by omega)]
theorem nextS_nil (s r : List Int) (h : r.length < 64) : nextS s r [] = s := nextS_few s r [] (by simpa using h)
theorem nextR_nil (r : List Int) (h : r.length < 64) : nextR r [] = r := by rw [nextR_few r [] (by simpa using h), List.append_nil]
theorem nextS_len (s r b : List Int) (hl : s.length = 8) : (nextS s r b).length = 8 := takesL_len _ _ hl
theorem nextS_in (s r b : List Int) (hs : WIn s) : WIn (nextS s r b) := takesL_in _ _ hs
theorem nextR_len (r b : List Int) : (nextR r b).length = (r.length + b.length) % 64 := by unfold nextR; rw [List.length_drop, List.length_append]; omega
theorem nextR_in (r b : List Int) (hr : ∀ z ∈ r, 0 ≤ z ∧ z < 256) (hb : ∀ z ∈ b, 0 ≤ z ∧ z < 256) : ∀ z ∈ nextR r b, 0 ≤ z ∧ z < 256 := fun z h => by
  have := List.mem_of_mem_drop h
  rcases List.mem_append.1 this with h1 | h1
  · exact hr z h1
  · exact hb z h1
end Go.Proofs.YtdnjnbeoioicfaaDoor

/-
  Streams in plain Lean: blocks, bits and bytes of a seed and a domain.
  Conditions: those that each theorem names.
-/
import Derived.Test.YtdnjnbeoioicfaaDoorShaQ
set_option linter.unusedVariables false
set_option linter.unusedSimpArgs false
namespace Go.Proofs.YtdnjnbeoioicfaaDoor
/-- What is hashed of a seed, a domain and a number. -/
def blkIn (s : List Int) (d i : Int) : List Int := s ++ put8L d ++ put8L i
def blkL (s : List Int) (d i : Int) : List Int := shaL (blkIn s d i)
theorem put8L_len (x : Int) : (put8L x).length = 8 := rfl
theorem blkIn_len (s : List Int) (d i : Int) (hs : s.length = 32) : (blkIn s d i).length = 48 := by
  unfold blkIn
  rw [List.length_append, List.length_append, put8L_len, put8L_len, hs]
theorem blkIn_in (s : List Int) (d i : Int) (hs : ∀ z ∈ s, 0 ≤ z ∧ z < 256) (d0 : 0 ≤ d) (d1 : d < 18446744073709551616) (i0 : 0 ≤ i) (i1 : i < 18446744073709551616) : ∀ z ∈ blkIn s d i, 0 ≤ z ∧ z < 256 := by
  intro z hz
  unfold blkIn at hz
  rcases List.mem_append.1 hz with h | h
  · rcases List.mem_append.1 h with h | h
    · exact hs z h
    · exact put8L_in d d0 d1 z h
  · exact put8L_in i i0 i1 z h
theorem blkL_len (s : List Int) (d i : Int) : (blkL s d i).length = 32 := shaL_len _
theorem blkL_in (s : List Int) (d i : Int) : ∀ z ∈ blkL s d i, 0 ≤ z ∧ z < 256 := shaL_in _
/-- The byte of the number j of a block. -/
def bytN (s : List Int) (d i : Int) (j : Nat) : Int := (blkL s d i).getD j 0
theorem bytN_in (s : List Int) (d i : Int) (j : Nat) : 0 ≤ bytN s d i j ∧ bytN s d i j < 256 := by
  unfold bytN
  rw [List.getD_eq_getElem?_getD]
  rcases h : (blkL s d i)[j]? with _ | z
  · simp
  · exact blkL_in s d i z (List.mem_of_getElem? h)
/-- The bit of the number n. -/
def bitN (s : List Int) (d n : Int) : Int := bytN s d (n / 256) (n % 256 / 8).toNat / 2 ^ (7 - n % 8).toNat % 2
theorem bitN_in (s : List Int) (d n : Int) : 0 ≤ bitN s d n ∧ bitN s d n < 2 := by unfold bitN; omega
/-- The first m blocks, one behind the other. -/
def blksL (s : List Int) (d : Int) (m : Nat) : List Int := ((List.range m).map fun i : Nat => blkL s d (i : Int)).flatten
theorem blksL_next (s : List Int) (d : Int) (m : Nat) : blksL s d (m + 1) = blksL s d m ++ blkL s d m := by
  unfold blksL
  rw [List.range_succ, List.map_append, List.flatten_append]
  simp
theorem blksL_len (s : List Int) (d : Int) (m : Nat) : (blksL s d m).length = 32 * m := by
  induction m with
  | zero => simp [blksL]
  | succ m ih => rw [blksL_next, List.length_append, ih, blkL_len]; omega
theorem blksL_in (s : List Int) (d : Int) (m : Nat) : ∀ z ∈ blksL s d m, 0 ≤ z ∧ z < 256 := by
  intro z hz
  unfold blksL at hz
  obtain ⟨l, hl, hz⟩ := List.mem_flatten.1 hz
  obtain ⟨i, _, rfl⟩ := List.mem_map.1 hl
  exact blkL_in _ _ _ z hz
theorem blksL_more (s : List Int) (d : Int) (m k : Nat) : (blksL s d (m + k)).take (32 * m) = blksL s d m := by
  induction k with
  | zero => rw [Nat.add_zero, List.take_of_length_le (by rw [blksL_len]; exact Nat.le_refl _)]
  | succ k ih =>
    rw [← Nat.add_assoc, blksL_next, List.take_append_of_le_length (by rw [blksL_len]; omega)]
    exact ih
/-- The first n bytes. -/
def bytL (s : List Int) (d : Int) (n : Nat) : List Int := (blksL s d ((n + 31) / 32)).take n
theorem bytL_len (s : List Int) (d : Int) (n : Nat) : (bytL s d n).length = n := by unfold bytL; rw [List.length_take, blksL_len]; omega
theorem bytL_in (s : List Int) (d : Int) (n : Nat) : ∀ z ∈ bytL s d n, 0 ≤ z ∧ z < 256 := fun z hz => blksL_in _ _ _ z (List.mem_of_mem_take hz)
theorem bytL_zero (s : List Int) (d : Int) : bytL s d 0 = [] := rfl
/-- The first bytes are those of any more blocks. -/
theorem bytL_of (s : List Int) (d : Int) (n m : Nat) (h : n ≤ 32 * m) : bytL s d n = (blksL s d m).take n := by
  have h1 : m = (n + 31) / 32 + (m - (n + 31) / 32) := by omega
  unfold bytL
  rw [h1, ← blksL_more s d ((n + 31) / 32) (m - (n + 31) / 32), List.take_take]
  congr 1
  omega
theorem getD_append_l (a b : List Int) (j : Nat) (h : j < a.length) : (a ++ b).getD j 0 = a.getD j 0 := by
  simp [List.getElem?_append_left h]
theorem getD_append_r (a b : List Int) (j : Nat) (h : a.length ≤ j) : (a ++ b).getD j 0 = b.getD (j - a.length) 0 := by
  simp [List.getElem?_append_right h]
theorem getD_take (a : List Int) (j n : Nat) (h : j < n) : (a.take n).getD j 0 = a.getD j 0 := by
  simp [List.getElem?_take, h]
theorem blksL_at (s : List Int) (d : Int) (m i j : Nat) (hi : i < m) (hj : j < 32) : (blksL s d m).getD (32 * i + j) 0 = bytN s d (i : Int) j := by
  induction m with
  | zero => omega
  | succ m ih =>
    rw [blksL_next]
    by_cases h : i < m
    · rw [getD_append_l _ _ _ (by rw [blksL_len]; omega)]
      exact ih h
    · obtain rfl : i = m := by omega
      rw [getD_append_r _ _ _ (by rw [blksL_len]; omega), blksL_len]
      unfold bytN
      congr 1
      omega
/-- A byte of the stream is that of its block. -/
theorem bytL_at (s : List Int) (d : Int) (n j : Nat) (h : j < n) : (bytL s d n).getD j 0 = bytN s d ((j / 32 : Nat) : Int) (j % 32) := by
  unfold bytL
  rw [getD_take _ _ _ h]
  have h1 := blksL_at s d ((n + 31) / 32) (j / 32) (j % 32) (by omega) (by omega)
  rw [show 32 * (j / 32) + j % 32 = j by omega] at h1
  exact h1
/-- One byte more. -/
theorem bytL_next (s : List Int) (d : Int) (i k : Nat) (hk : k < 32) : bytL s d (32 * i + k) ++ [bytN s d (i : Int) k] = bytL s d (32 * i + k + 1) := by
  have h1 := bytL_of s d (32 * i + k) (i + 1) (by omega)
  have h2 := bytL_of s d (32 * i + k + 1) (i + 1) (by omega)
  have h3 := blksL_at s d (i + 1) i k (by omega) hk
  rw [h1, h2, ← h3]
  exact take_snoc (blksL s d (i + 1)) (32 * i + k) (by rw [blksL_len]; omega)
end Go.Proofs.YtdnjnbeoioicfaaDoor

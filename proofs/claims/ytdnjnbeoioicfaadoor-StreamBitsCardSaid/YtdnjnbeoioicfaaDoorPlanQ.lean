/-
  The words of a plan by their places; a block of its words, words of their block; a word of those behind it.
  Conditions: those that each theorem names.
-/
import Derived.Test.YtdnjnbeoioicfaaDoorPlanP
import Derived.KernelRfl
namespace Go.Proofs.YtdnjnbeoioicfaaDoor
open Go.ChangeShapes Go.WideShapes Go.ChangeAt Go.RowKit

theorem planTo_at (b : List Int) (n j : Nat) (hj : j < n) : (planTo b n).getD j 0 = if j < 16 then word4 b j else nextW (planTo b j) j := by
  induction n with
  | zero => omega
  | succ n ih =>
    rw [planTo, List.getD_eq_getElem?_getD]
    rcases Nat.lt_or_ge j n with h | h
    · rw [List.getElem?_append_left (by rw [planTo_len]; exact h), ← List.getD_eq_getElem?_getD, ih h]
    · obtain rfl : j = n := by omega
      rw [List.getElem?_append_right (by rw [planTo_len]; exact Nat.le_refl _), planTo_len, Nat.sub_self]
      rfl
/-- Word j of a block's plan. -/
def pw (b : List Int) (j : Nat) : Int := (planL b).getD j 0
theorem planTo_pw (b : List Int) (n j : Nat) (hj : j < n) (hn : n ≤ 64) : (planTo b n).getD j 0 = pw b j := by
  unfold pw planL
  rw [planTo_at b n j hj, planTo_at b 64 j (by omega)]
theorem pw_low (b : List Int) (j : Nat) (hj : j < 16) : pw b j = word4 b j := by
  unfold pw planL
  rw [planTo_at b 64 j (by omega), if_pos hj]
theorem pw_high (b : List Int) (j : Nat) (h1 : 16 ≤ j) (h2 : j < 64) : pw b j = (mix2 (pw b (j - 2)) + pw b (j - 7) + mix1 (pw b (j - 15)) + pw b (j - 16)) % 4294967296 := by
  have h : pw b j = nextW (planTo b j) j := by
    unfold pw planL
    rw [planTo_at b 64 j h2, if_neg (by omega)]
  rw [h]
  unfold nextW
  rw [planTo_pw b j (j - 2) (by omega) (by omega), planTo_pw b j (j - 7) (by omega) (by omega), planTo_pw b j (j - 15) (by omega) (by omega), planTo_pw b j (j - 16) (by omega) (by omega)]
theorem planL_len (b : List Int) : (planL b).length = 64 := planTo_len b 64
theorem pw_in (b : List Int) (hb : ∀ z ∈ b, 0 ≤ z ∧ z < 256) (j : Nat) (hj : j < 64) : 0 ≤ pw b j ∧ pw b j < 4294967296 := by
  have h : j < (planL b).length := by rw [planL_len]; exact hj
  have := planTo_in b hb 64 _ (List.getElem_mem h)
  unfold pw
  simpa [h] using this
/-- A word of those behind it. -/
theorem pw_undo (b : List Int) (hb : ∀ z ∈ b, 0 ≤ z ∧ z < 256) (i : Nat) (hi : i < 48) : pw b i = (((pw b (i + 16) - mix2 (pw b (i + 14))) % 4294967296 - pw b (i + 9)) % 4294967296 - mix1 (pw b (i + 1))) % 4294967296 := by
  have h := pw_high b (i + 16) (by omega) (by omega)
  rw [show i + 16 - 2 = i + 14 by omega, show i + 16 - 7 = i + 9 by omega, show i + 16 - 15 = i + 1 by omega, show i + 16 - 16 = i by omega] at h
  have h1 := pw_in b hb i (by omega)
  have h2 := pw_in b hb (i + 16) (by omega)
  rw [h]
  omega

theorem byte_in (b : List Int) (hb : ∀ z ∈ b, 0 ≤ z ∧ z < 256) (j : Nat) : 0 ≤ b.getD j 0 ∧ b.getD j 0 < 256 := by
  rcases Nat.lt_or_ge j b.length with h | h
  · simp [h]; exact hb _ (List.getElem_mem h)
  · simp [h]
theorem put4L_word4 (b : List Int) (hb : ∀ z ∈ b, 0 ≤ z ∧ z < 256) (i : Nat) : put4L (word4 b i) = [b.getD (4 * i) 0, b.getD (4 * i + 1) 0, b.getD (4 * i + 2) 0, b.getD (4 * i + 3) 0] := by
  have h0 := byte_in b hb (4 * i)
  have h1 := byte_in b hb (4 * i + 1)
  have h2 := byte_in b hb (4 * i + 2)
  have h3 := byte_in b hb (4 * i + 3)
  unfold word4
  obtain ⟨a0, e0⟩ : ∃ a, b.getD (4 * i) 0 = a := ⟨_, rfl⟩
  obtain ⟨a1, e1⟩ : ∃ a, b.getD (4 * i + 1) 0 = a := ⟨_, rfl⟩
  obtain ⟨a2, e2⟩ : ∃ a, b.getD (4 * i + 2) 0 = a := ⟨_, rfl⟩
  obtain ⟨a3, e3⟩ : ∃ a, b.getD (4 * i + 3) 0 = a := ⟨_, rfl⟩
  rw [e0] at h0 ⊢
  rw [e1] at h1 ⊢
  rw [e2] at h2 ⊢
  rw [e3] at h3 ⊢
  unfold Wd.get4 put4L
  congr 1
  · omega
  · congr 1
    · omega
    · congr 1
      · omega
      · congr 1
        omega
/-- The block comes back of its words. -/
theorem backTo_words (b l : List Int) (hl : b.length = 64) (hb : ∀ z ∈ b, 0 ≤ z ∧ z < 256) (h : ∀ i, i < 16 → l.getD i 0 = word4 b i) (i : Nat) (hi : i ≤ 16) : backTo l i = b.take (4 * i) := by
  induction i with
  | zero => rfl
  | succ i ih =>
    rw [backTo, ih (by omega), h i (by omega), put4L_word4 b hb]
    have e : ∀ j, j < 64 → b.take j ++ [b.getD j 0] = b.take (j + 1) := by
      intro j hj
      rw [List.take_succ_eq_append_getElem (by omega)]
      simp [show j < b.length by omega]
    rw [show 4 * (i + 1) = 4 * i + 1 + 1 + 1 + 1 by omega, ← e (4 * i + 1 + 1 + 1) (by omega), ← e (4 * i + 1 + 1) (by omega), ← e (4 * i + 1) (by omega), ← e (4 * i) (by omega)]
    simp
theorem backL_words (b l : List Int) (hl : b.length = 64) (hb : ∀ z ∈ b, 0 ≤ z ∧ z < 256) (h : ∀ i, i < 16 → l.getD i 0 = pw b i) : backL l = b := by
  unfold backL
  rw [backTo_words b l hl hb (fun i hi => by rw [h i hi, pw_low b i hi]) 16 (by omega), List.take_of_length_le (by omega)]
theorem backL_len (l : List Int) : (backL l).length = 64 := backTo_len l 16
theorem backTo_get (l : List Int) (n i k : Nat) (hi : i < n) (hk : k < 4) : (backTo l n).getD (4 * i + k) 0 = (put4L (l.getD i 0)).getD k 0 := by
  induction n with
  | zero => omega
  | succ n ih =>
    rw [backTo, List.getD_eq_getElem?_getD]
    rcases Nat.lt_or_ge i n with h | h
    · rw [List.getElem?_append_left (by rw [backTo_len]; omega), ← List.getD_eq_getElem?_getD, ih h]
    · obtain rfl : i = n := by omega
      rw [List.getElem?_append_right (by rw [backTo_len]; omega), backTo_len, show 4 * i + k - 4 * i = k by omega, ← List.getD_eq_getElem?_getD]
theorem word4_back (l : List Int) (hb : ∀ z ∈ l, 0 ≤ z ∧ z < 4294967296) (i : Nat) (hi : i < 16) (hl : i < l.length) : word4 (backL l) i = l.getD i 0 := by
  have hx : 0 ≤ l.getD i 0 ∧ l.getD i 0 < 4294967296 := by simp [hl]; exact hb _ (List.getElem_mem hl)
  have g0 := backTo_get l 16 i 0 hi (by omega)
  have g1 := backTo_get l 16 i 1 hi (by omega)
  have g2 := backTo_get l 16 i 2 hi (by omega)
  have g3 := backTo_get l 16 i 3 hi (by omega)
  unfold word4 backL
  rw [Nat.add_zero] at g0
  rw [g0, g1, g2, g3]
  obtain ⟨x, e⟩ : ∃ x, l.getD i 0 = x := ⟨_, rfl⟩
  rw [e] at hx ⊢
  unfold put4L Wd.get4
  simp
  omega
theorem put4L_in (x : Int) (h0 : 0 ≤ x) (h1 : x < 4294967296) : ∀ z ∈ put4L x, 0 ≤ z ∧ z < 256 := by
  intro z hz
  simp [put4L] at hz
  rcases hz with h | h | h | h <;> omega
theorem backTo_in (l : List Int) (hb : ∀ z ∈ l, 0 ≤ z ∧ z < 4294967296) (n : Nat) : ∀ z ∈ backTo l n, 0 ≤ z ∧ z < 256 := by
  induction n with
  | zero => intro z hz; cases hz
  | succ n ih =>
    intro z hz
    rw [backTo, List.mem_append] at hz
    rcases hz with h | h
    · exact ih z h
    · have hx : 0 ≤ l.getD n 0 ∧ l.getD n 0 < 4294967296 := by
        rcases Nat.lt_or_ge n l.length with h1 | h1
        · simp [h1]; exact hb _ (List.getElem_mem h1)
        · simp [h1]
      exact put4L_in _ hx.1 hx.2 z h

/-! ### the document's examples -/
theorem mix1_zero : mix1 0 = 0 := by kernel_rfl
theorem mix2_zero : mix2 0 = 0 := by kernel_rfl
theorem mix1_eight : mix1 8 = 268566529 := by kernel_rfl
theorem mix2_kilo : mix2 1024 = 41943041 := by kernel_rfl
theorem rep_getD (m n : Nat) : (List.replicate m (0 : Int)).getD n 0 = 0 := by
  rw [List.getD_eq_getElem?_getD, List.getElem?_replicate]
  split <;> rfl
theorem pw_nought (j : Nat) (hj : j < 64) : pw (List.replicate 64 0) j = 0 := by
  induction j using Nat.strongRecOn with
  | ind j ih =>
    rcases Nat.lt_or_ge j 16 with h | h
    · rw [pw_low _ _ h]
      unfold word4
      rw [rep_getD, rep_getD, rep_getD, rep_getD]
      rfl
    · rw [pw_high _ _ h hj, ih (j - 2) (by omega) (by omega), ih (j - 7) (by omega) (by omega), ih (j - 15) (by omega) (by omega), ih (j - 16) (by omega) (by omega), mix1_zero, mix2_zero]
      rfl
/-- Sixty-four noughts. -/
def Z64 : List Int := List.replicate 64 0
theorem Z64_len : Z64.length = 64 := by simp [Z64]
theorem Z64_in : ∀ z ∈ Z64, 0 ≤ z ∧ z < 256 := by
  intro z hz
  have := (List.mem_replicate.1 hz).2
  omega
def oneB : List Int := Z64.set 3 1
theorem pw_one (j : Nat) (h0 : 0 < j) (hj : j < 16) : pw oneB j = 0 := by
  rw [pw_low _ _ hj]
  have : ∀ j : Fin 16, 0 < j.val → word4 oneB j.val = 0 := by decide +kernel
  exact this ⟨j, hj⟩ h0
theorem pw_one0 : pw oneB 0 = 1 := by rw [pw_low _ _ (by omega)]; kernel_rfl
theorem pw_one16 : pw oneB 16 = 1 := by
  rw [pw_high _ _ (by omega) (by omega), pw_one (16 - 2) (by omega) (by omega), pw_one (16 - 7) (by omega) (by omega), pw_one (16 - 15) (by omega) (by omega), pw_one0, mix1_zero, mix2_zero]
  rfl
theorem pw_one17 : pw oneB 17 = 0 := by
  rw [pw_high _ _ (by omega) (by omega), pw_one (17 - 2) (by omega) (by omega), pw_one (17 - 7) (by omega) (by omega), pw_one (17 - 15) (by omega) (by omega), pw_one (17 - 16) (by omega) (by omega), mix1_zero, mix2_zero]
  rfl
theorem pw_one18 : pw oneB 18 = mix2 1 := by
  rw [pw_high _ _ (by omega) (by omega), pw_one16, pw_one (18 - 7) (by omega) (by omega), pw_one (18 - 15) (by omega) (by omega), pw_one (18 - 16) (by omega) (by omega), mix1_zero]
  have := mix2_in 1
  omega
end Go.Proofs.YtdnjnbeoioicfaaDoor

/-
  The plan of a block as a list of numbers: the two mixes, the words, what is read and what is written on the way; undone again.
  Conditions: those that each theorem names.
-/
import Derived.Test.YtdnjnbeoioicfaaDoorPlainA
import Derived.Test.YtdnjnbeoioicfaaDoorArrM
import Derived.Laws.BitsAllLaws
namespace Go.Proofs.YtdnjnbeoioicfaaDoor
open Go.ChangeShapes Go.WideShapes Go.ChangeAt Go.RowKit

def mix1 (x : Int) : Int := bits .xor .u32 (bits .xor .u32 (Wd.rotate x 7) (Wd.rotate x 18)) (Wd.right x 3)
def mix2 (x : Int) : Int := bits .xor .u32 (bits .xor .u32 (Wd.rotate x 17) (Wd.rotate x 19)) (Wd.right x 10)
theorem bits_u32_in (op : BinOp) (a b : Int) : 0 ≤ bits op .u32 a b ∧ bits op .u32 a b < 4294967296 := by
  unfold bits
  rw [IntKind.wrap_u32]
  omega
theorem mix1_in (x : Int) : 0 ≤ mix1 x ∧ mix1 x < 4294967296 := bits_u32_in _ _ _
theorem mix2_in (x : Int) : 0 ≤ mix2 x ∧ mix2 x < 4294967296 := bits_u32_in _ _ _

def word4 (b : List Int) (i : Nat) : Int := Wd.get4 (b.getD (4 * i) 0) (b.getD (4 * i + 1) 0) (b.getD (4 * i + 2) 0) (b.getD (4 * i + 3) 0)
def nextW (l : List Int) (n : Nat) : Int := (mix2 (l.getD (n - 2) 0) + l.getD (n - 7) 0 + mix1 (l.getD (n - 15) 0) + l.getD (n - 16) 0) % 4294967296
/-- The first n words of a block's plan. -/
def planTo (b : List Int) : Nat → List Int
  | 0 => []
  | n + 1 => planTo b n ++ [if n < 16 then word4 b n else nextW (planTo b n) n]
def planL (b : List Int) : List Int := planTo b 64
theorem planTo_len (b : List Int) (n : Nat) : (planTo b n).length = n := by
  induction n with
  | zero => rfl
  | succ n ih => simp [planTo, ih]
/-- What lies in memory when n words are there. -/
def planF (b : List Int) (n : Nat) : List Int := planTo b n ++ List.replicate (64 - n) 0
theorem planF_len (b : List Int) (n : Nat) (hn : n ≤ 64) : (planF b n).length = 64 := by simp [planF, planTo_len]; omega
theorem planF_zero (b : List Int) : planF b 0 = List.replicate 64 0 := by simp [planF, planTo]
theorem planF_full (b : List Int) : planF b 64 = planL b := by simp [planF, planL]
theorem planF_set (b : List Int) (n : Nat) (hn : n < 64) (v : Int) (hv : v = if n < 16 then word4 b n else nextW (planTo b n) n) : (planF b n).set n v = planF b (n + 1) := by
  unfold planF
  rw [List.set_append_right _ _ (by rw [planTo_len]; exact Nat.le_refl _), planTo_len, Nat.sub_self, show 64 - n = (64 - (n + 1)) + 1 by omega, List.replicate_succ, List.set_cons_zero, planTo, ← hv, List.append_assoc]
  rfl
theorem planF_at (b : List Int) (n j : Nat) (hj : j < n) : (planF b n).getD j 0 = (planTo b n).getD j 0 := by
  unfold planF
  rw [List.getD_eq_getElem?_getD, List.getElem?_append_left (by rw [planTo_len]; exact hj), ← List.getD_eq_getElem?_getD]
theorem planTo_in (b : List Int) (hb : ∀ z ∈ b, 0 ≤ z ∧ z < 256) (n : Nat) : ∀ z ∈ planTo b n, 0 ≤ z ∧ z < 4294967296 := by
  have hg : ∀ j, 0 ≤ b.getD j 0 ∧ b.getD j 0 < 256 := by
    intro j
    rcases Nat.lt_or_ge j b.length with h | h
    · simp [h]; exact hb _ (List.getElem_mem h)
    · simp [h]
  induction n with
  | zero => intro z hz; cases hz
  | succ n ih =>
    intro z hz
    rw [planTo, List.mem_append, List.mem_singleton] at hz
    rcases hz with hz | hz
    · exact ih z hz
    · subst hz
      split
      · unfold word4 Wd.get4
        have h0 := hg (4 * n); have h1 := hg (4 * n + 1); have h2 := hg (4 * n + 2); have h3 := hg (4 * n + 3)
        omega
      · unfold nextW
        omega

/-! ### the block of sixteen words -/
def put4L (x : Int) : List Int := [x / 16777216, x / 65536 % 256, x / 256 % 256, x % 256]
/-- The bytes of the first i words. -/
def backTo (l : List Int) : Nat → List Int
  | 0 => []
  | i + 1 => backTo l i ++ put4L (l.getD i 0)
def backL (l : List Int) : List Int := backTo l 16
theorem backTo_len (l : List Int) (i : Nat) : (backTo l i).length = 4 * i := by
  induction i with
  | zero => rfl
  | succ i ih => rw [backTo, List.length_append, ih]; simp [put4L]; omega
/-- What lies in memory when i words and k bytes are there. -/
def backF (l : List Int) (i k : Nat) : List Int := backTo l i ++ ((put4L (l.getD i 0)).take k ++ List.replicate (64 - (4 * i + k)) 0)
theorem backF_len (l : List Int) (i k : Nat) (hk : k ≤ 4) (h : 4 * i + k ≤ 64) : (backF l i k).length = 64 := by
  simp [backF, backTo_len, put4L]; omega
theorem backF_zero (l : List Int) : backF l 0 0 = List.replicate 64 0 := by simp [backF, backTo]
theorem backF_next (l : List Int) (i : Nat) : backF l i 4 = backF l (i + 1) 0 := by
  unfold backF
  rw [backTo, List.take_of_length_le (by simp [put4L]), List.take_zero, List.nil_append, List.append_assoc]
  rfl
theorem backF_full (l : List Int) : backF l 16 0 = backL l := by simp [backF, backL]
theorem backF_set (l : List Int) (i k : Nat) (hk : k < 4) (h : i < 16) : (backF l i k).set (4 * i + k) ((put4L (l.getD i 0)).getD k 0) = backF l i (k + 1) := by
  have hp : (put4L (l.getD i 0)).length = 4 := rfl
  obtain ⟨p, hpe⟩ : ∃ p, put4L (l.getD i 0) = p := ⟨_, rfl⟩
  unfold backF
  rw [hpe] at hp ⊢
  rw [List.set_append_right _ _ (by rw [backTo_len]; omega), backTo_len, show 4 * i + k - 4 * i = k by omega, List.set_append_right _ _ (by rw [List.length_take]; omega),
    List.length_take, show k - min k p.length = 0 by omega, show 64 - (4 * i + k) = (64 - (4 * i + (k + 1))) + 1 by omega, List.replicate_succ, List.set_cons_zero,
    List.take_succ_eq_append_getElem (by omega), List.append_assoc (p.take k)]
  congr 2
  simp [show k < p.length by omega]
end Go.Proofs.YtdnjnbeoioicfaaDoor

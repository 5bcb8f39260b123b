/-
  Primes, and products of numbers of four limbs, as lists of numbers: what stage 4's statement on roots reckons with.
  Conditions: those that each theorem names.
-/
import Derived.Test.YtjmpbmgeaeemnaaDoorCompP
namespace Go.Proofs.YtjmpbmgeaeemnaaDoor
open Go.ChangeShapes Go.WideShapes Go.ChangeAt Go.RowKit

/-- No number from 2 on below d divides p. -/
def chk (p d : Nat) : Bool := (List.range d).all fun e => decide (e < 2) || p % e != 0
theorem chk_two (p : Nat) : chk p 2 = true := by simp [chk, List.range_succ]
theorem chk_succ (p d : Nat) (hd : 2 ≤ d) : chk p (d + 1) = (chk p d && (p % d != 0)) := by
  unfold chk
  rw [List.range_succ, List.all_append]
  have : ¬ d < 2 := by omega
  simp [this]
def primesL : List Nat := [2, 3, 5, 7, 11, 13, 17, 19, 23, 29, 31, 37, 41, 43, 47, 53, 59, 61, 67, 71, 73, 79, 83, 89, 97, 101, 103, 107, 109, 113, 127, 131, 137, 139, 149, 151, 157, 163, 167, 173, 179, 181, 191, 193, 197, 199, 211, 223, 227, 229, 233, 239, 241, 251, 257, 263, 269, 271, 277, 281, 283, 293, 307, 311]
def primeN (i : Nat) : Nat := primesL.getD i 0
def cntP (p : Nat) : Nat := (primesL.filter fun q => decide (q < p)).length
def isP (p : Nat) : Bool := primesL.contains p
theorem chk_prime0 : ∀ p, p < 312 → ∀ d, d < 20 → (2 ≤ p ∧ 2 ≤ d ∧ (d = 2 ∨ (d - 1) * (d - 1) ≤ p) ∧ p < d * d) → chk p d = isP p := by decide +kernel
theorem chk_prime (p : Nat) (h1 : p < 312) (h2 : 2 ≤ p) (d : Nat) (h3 : d < 20) (h4 : 2 ≤ d) (h5 : d = 2 ∨ (d - 1) * (d - 1) ≤ p) (h6 : p < d * d) : chk p d = isP p := chk_prime0 p h1 d h3 ⟨h2, h4, h5, h6⟩
theorem cnt_prime : ∀ p, p < 312 → (isP p = true → primeN (cntP p) = p ∧ cntP (p + 1) = cntP p + 1) ∧ (isP p = false → cntP (p + 1) = cntP p) := by decide +kernel
theorem cnt_two : cntP 2 = 0 := by decide +kernel
theorem cnt_last : cntP 311 = 63 ∧ isP 311 = true := by decide +kernel
theorem primeN_in : ∀ i, i < 64 → 2 ≤ primeN i ∧ primeN i ≤ 311 := by decide +kernel

/-! ### products -/
def mulIn (a b o : List Int) (i : Nat) : Nat → List Int × Int
  | 0 => (o, 0)
  | k + 1 => ((mulIn a b o i k).1.set (i + k) (((mulIn a b o i k).1.getD (i + k) 0 + a.getD i 0 * b.getD k 0 + (mulIn a b o i k).2) % 4294967296), ((mulIn a b o i k).1.getD (i + k) 0 + a.getD i 0 * b.getD k 0 + (mulIn a b o i k).2) / 4294967296)
def mulOut (a b : List Int) : Nat → List Int
  | 0 => [0, 0, 0, 0]
  | i + 1 => (mulIn a b (mulOut a b i) i (4 - i)).1
def mulL (a b : List Int) : List Int := mulOut a b 4
theorem mulIn_len (a b o : List Int) (i k : Nat) : (mulIn a b o i k).1.length = o.length := by
  induction k with
  | zero => rfl
  | succ k ih => simp only [mulIn, List.length_set, ih]
theorem mul_bd {x y : Int} (x0 : 0 ≤ x) (x1 : x ≤ 4294967295) (y0 : 0 ≤ y) (y1 : y ≤ 4294967295) : 0 ≤ x * y ∧ x * y ≤ 18446744065119617025 :=
  ⟨Int.mul_nonneg x0 y0, Int.le_trans (Int.mul_le_mul x1 y1 y0 (by omega)) (by omega)⟩
theorem mulIn_in (a b o : List Int) (i : Nat) (ha : WIn a) (hb : WIn b) (ho : WIn o) (k : Nat) : WIn (mulIn a b o i k).1 ∧ 0 ≤ (mulIn a b o i k).2 ∧ (mulIn a b o i k).2 < 4294967296 := by
  induction k with
  | zero => exact ⟨ho, by simp [mulIn], by simp [mulIn]⟩
  | succ k ih =>
    obtain ⟨h1, h2, h3⟩ := ih
    have h4 := h1.at_ (i + k)
    have h5 := ha.at_ i
    have h6 := hb.at_ k
    have h7 := mul_bd (x := a.getD i 0) (y := b.getD k 0) (by omega) (by omega) (by omega) (by omega)
    simp only [mulIn]
    obtain ⟨m, hm⟩ : ∃ m, a.getD i 0 * b.getD k 0 = m := ⟨_, rfl⟩
    rw [hm] at h7 ⊢
    refine ⟨fun z hz => ?_, by omega, by omega⟩
    rcases List.mem_or_eq_of_mem_set hz with h | h
    · exact h1 z h
    · subst h; omega
theorem mulOut_in (a b : List Int) (ha : WIn a) (hb : WIn b) (i : Nat) : WIn (mulOut a b i) := by
  induction i with
  | zero => intro z hz; simp [mulOut] at hz; omega
  | succ i ih => exact (mulIn_in a b _ i ha hb ih _).1
theorem mulOut_len (a b : List Int) (i : Nat) : (mulOut a b i).length = 4 := by
  induction i with
  | zero => rfl
  | succ i ih => simp only [mulOut, mulIn_len, ih]
/-- Is a less, by its first k limbs? -/
def lessAt (a b : List Int) : Nat → Bool
  | 0 => false
  | k + 1 => if a.getD k 0 = b.getD k 0 then lessAt a b k else decide (a.getD k 0 < b.getD k 0)
/-! ### the roots -/
def rootOk (i w : Nat) : Bool :=
  let x : List Int := [constL.getD i 0, w, 0, 0]
  let y : List Int := [constL.getD i 0 + 1, w, 0, 0]
  let p : List Int := [0, 0, 0, primeN i]
  !(lessAt p (mulL (mulL x x) x) 4) && lessAt p (mulL (mulL y y) y) 4
def sideOk (i w : Nat) : Bool :=
  let x : List Int := [startL.getD i 0, w, 0, 0]
  let y : List Int := [startL.getD i 0 + 1, w, 0, 0]
  let p : List Int := [0, 0, primeN i, 0]
  !(lessAt p (mulL x x) 4) && lessAt p (mulL y y) 4
theorem root_ok : ∀ i, i < 64 → ∀ w, w < 8 → w * w * w ≤ primeN i → primeN i < (w + 1) * (w + 1) * (w + 1) → rootOk i w = true := by decide +kernel
theorem side_ok : ∀ i, i < 8 → ∀ w, w < 20 → w * w ≤ primeN i → primeN i < (w + 1) * (w + 1) → sideOk i w = true := by decide +kernel
theorem const_most : ∀ i, i < 64 → 0 ≤ constL.getD i 0 ∧ constL.getD i 0 < 4294967295 := by decide +kernel
theorem start_most : ∀ i, i < 8 → 0 ≤ startL.getD i 0 ∧ startL.getD i 0 < 4294967295 := by decide +kernel
end Go.Proofs.YtjmpbmgeaeemnaaDoor

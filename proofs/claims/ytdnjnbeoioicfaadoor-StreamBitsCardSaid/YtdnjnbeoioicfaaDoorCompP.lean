/-
  A block taken into a state, as lists of numbers: the mixes, a round and a round undone, the constants.
  Conditions: those that each theorem names.
-/
import Derived.Test.YtdnjnbeoioicfaaDoorPlanQ
namespace Go.Proofs.YtdnjnbeoioicfaaDoor
open Go.ChangeShapes Go.WideShapes Go.ChangeAt Go.RowKit

def turn3 (x a b c : Int) : Int := bits .xor .u32 (bits .xor .u32 (Wd.rotate x a) (Wd.rotate x b)) (Wd.rotate x c)
def chW (e f g : Int) : Int := bits .or .u32 (bits .and .u32 e f) (bits .and .u32 (4294967295 - e) g)
def majW (a b c : Int) : Int := bits .or .u32 (bits .or .u32 (bits .and .u32 a b) (bits .and .u32 a c)) (bits .and .u32 b c)
theorem turn3_in (x a b c : Int) : 0 ≤ turn3 x a b c ∧ turn3 x a b c < 4294967296 := bits_u32_in _ _ _
theorem chW_in (e f g : Int) : 0 ≤ chW e f g ∧ chW e f g < 4294967296 := bits_u32_in _ _ _
theorem majW_in (a b c : Int) : 0 ≤ majW a b c ∧ majW a b c < 4294967296 := bits_u32_in _ _ _
def roundL (s : List Int) (w k : Int) : List Int :=
  let t := (s.getD 7 0 + turn3 (s.getD 4 0) 6 11 25 + chW (s.getD 4 0) (s.getD 5 0) (s.getD 6 0) + k + w) % 4294967296
  let u := (turn3 (s.getD 0 0) 2 13 22 + majW (s.getD 0 0) (s.getD 1 0) (s.getD 2 0)) % 4294967296
  [(t + u) % 4294967296, s.getD 0 0, s.getD 1 0, s.getD 2 0, (s.getD 3 0 + t) % 4294967296, s.getD 4 0, s.getD 5 0, s.getD 6 0]
def backR (s : List Int) (w k : Int) : List Int :=
  let t := (s.getD 0 0 - turn3 (s.getD 1 0) 2 13 22 - majW (s.getD 1 0) (s.getD 2 0) (s.getD 3 0)) % 4294967296
  [s.getD 1 0, s.getD 2 0, s.getD 3 0, (s.getD 4 0 - t) % 4294967296, s.getD 5 0, s.getD 6 0, s.getD 7 0, (t - turn3 (s.getD 5 0) 6 11 25 - chW (s.getD 5 0) (s.getD 6 0) (s.getD 7 0) - k - w) % 4294967296]
def startL : List Int := [1779033703, 3144134277, 1013904242, 2773480762, 1359893119, 2600822924, 528734635, 1541459225]
def constL : List Int := [1116352408, 1899447441, 3049323471, 3921009573, 961987163, 1508970993, 2453635748, 2870763221, 3624381080, 310598401, 607225278, 1426881987, 1925078388, 2162078206, 2614888103, 3248222580, 3835390401, 4022224774, 264347078, 604807628, 770255983, 1249150122, 1555081692, 1996064986, 2554220882, 2821834349, 2952996808, 3210313671, 3336571891, 3584528711, 113926993, 338241895, 666307205, 773529912, 1294757372, 1396182291, 1695183700, 1986661051, 2177026350, 2456956037, 2730485921, 2820302411, 3259730800, 3345764771, 3516065817, 3600352804, 4094571909, 275423344, 430227734, 506948616, 659060556, 883997877, 958139571, 1322822218, 1537002063, 1747873779, 1955562222, 2024104815, 2227730452, 2361852424, 2428436474, 2756734187, 3204031479, 3329325298]
def constN (i : Int) : Int := if 0 ≤ i ∧ i ≤ 63 then constL.getD i.toNat 0 else 0
theorem constL_len : constL.length = 64 := by kernel_rfl
theorem roundL_len (s : List Int) (w k : Int) : (roundL s w k).length = 8 := rfl
theorem backR_len (s : List Int) (w k : Int) : (backR s w k).length = 8 := rfl
def WIn (s : List Int) : Prop := ∀ z ∈ s, 0 ≤ z ∧ z < 4294967296
theorem WIn.at_ {s : List Int} (h : WIn s) (j : Nat) : 0 ≤ s.getD j 0 ∧ s.getD j 0 < 4294967296 := by
  rcases Nat.lt_or_ge j s.length with h1 | h1
  · simp [h1]; exact h _ (List.getElem_mem h1)
  · simp [h1]
theorem roundL_in (s : List Int) (hs : WIn s) (w k : Int) : WIn (roundL s w k) := by
  intro z hz
  simp only [roundL, List.mem_cons, List.not_mem_nil, or_false] at hz
  rcases hz with h | h | h | h | h | h | h | h <;> subst h <;> first | exact hs.at_ _ | omega
theorem backR_in (s : List Int) (hs : WIn s) (w k : Int) : WIn (backR s w k) := by
  intro z hz
  simp only [backR, List.mem_cons, List.not_mem_nil, or_false] at hz
  rcases hz with h | h | h | h | h | h | h | h <;> subst h <;> first | exact hs.at_ _ | omega
theorem list8 (s : List Int) (hl : s.length = 8) : s = [s.getD 0 0, s.getD 1 0, s.getD 2 0, s.getD 3 0, s.getD 4 0, s.getD 5 0, s.getD 6 0, s.getD 7 0] := by
  rcases s with _ | ⟨a, _ | ⟨b, _ | ⟨c, _ | ⟨d, _ | ⟨e, _ | ⟨f, _ | ⟨g, _ | ⟨h, _ | ⟨i, s⟩⟩⟩⟩⟩⟩⟩⟩⟩ <;> simp at hl <;> rfl
/-- A round comes back. -/
theorem back_round (s : List Int) (hl : s.length = 8) (hs : WIn s) (w k : Int) : backR (roundL s w k) w k = s := by
  have h3 := hs.at_ 3
  have h7 := hs.at_ 7
  conv => rhs; rw [list8 s hl]
  simp only [backR, roundL, List.getD_cons_zero, List.getD_cons_succ]
  congr 4
  · omega
  · congr 4
    omega
theorem round_back (s : List Int) (hl : s.length = 8) (hs : WIn s) (w k : Int) : roundL (backR s w k) w k = s := by
  have h0 := hs.at_ 0
  have h4 := hs.at_ 4
  conv => rhs; rw [list8 s hl]
  simp only [backR, roundL, List.getD_cons_zero, List.getD_cons_succ]
  congr 1
  · omega
  · congr 4
    omega
/-- The state when n rounds are done. -/
def rounds (s b : List Int) : Nat → List Int
  | 0 => s
  | n + 1 => roundL (rounds s b n) (pw b n) (constN n)
theorem rounds_len (s b : List Int) (hl : s.length = 8) (n : Nat) : (rounds s b n).length = 8 := by
  cases n with
  | zero => exact hl
  | succ n => rfl
theorem rounds_in (s b : List Int) (hs : WIn s) (n : Nat) : WIn (rounds s b n) := by
  induction n with
  | zero => exact hs
  | succ n ih => exact roundL_in _ ih _ _
/-- The sums, when n of them are done. -/
def sums (x s : List Int) : Nat → List Int
  | 0 => x
  | n + 1 => (sums x s n).set n ((x.getD n 0 + s.getD n 0) % 4294967296)
def takeL (s b : List Int) : List Int := sums (rounds s b 64) s 8
theorem sums_len (x s : List Int) (n : Nat) : (sums x s n).length = x.length := by
  induction n with
  | zero => rfl
  | succ n ih => rw [sums, List.length_set, ih]
theorem sums_at (x s : List Int) (n j : Nat) (hj : n ≤ j) : (sums x s n).getD j 0 = x.getD j 0 := by
  induction n with
  | zero => rfl
  | succ n ih =>
    rw [sums, List.getD_eq_getElem?_getD, List.getElem?_set, if_neg (by omega), ← List.getD_eq_getElem?_getD, ih (by omega)]
theorem sums_in (x s : List Int) (hx : WIn x) (n : Nat) : WIn (sums x s n) := by
  induction n with
  | zero => exact hx
  | succ n ih =>
    intro z hz
    rcases List.mem_or_eq_of_mem_set hz with h | h
    · exact ih z h
    · subst h; omega
end Go.Proofs.YtdnjnbeoioicfaaDoor

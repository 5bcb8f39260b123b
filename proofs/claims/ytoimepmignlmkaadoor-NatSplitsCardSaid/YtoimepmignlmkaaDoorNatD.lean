/-
  Natural numbers compared, subtracted and divided limb by limb, and as decimal digits, in plain Lean.
  Conditions: those that each theorem names.
-/
import Derived.Test.YtoimepmignlmkaaDoorNatR
set_option maxRecDepth 100000
set_option linter.unusedVariables false
set_option linter.unusedSimpArgs false
namespace Go.Proofs.YtoimepmignlmkaaDoor
def cmpR (xs ys : List Int) : Int := if (rightN xs && rightN ys) = true then (if valL xs < valL ys then -1 else if valL ys < valL xs then 1 else 0) else 0
def subR (xs ys : List Int) : Int × List Int := if (rightN xs && rightN ys) = true then (if valL xs < valL ys then (12, []) else (0, natL (valL xs - valL ys))) else (1, [])
def divE (xs : List Int) (d : Int) : Int := if rightN xs = true ∧ 1 ≤ d ∧ d < 9223372036854775808 then 0 else 1
def divV (xs : List Int) (d : Int) : Nat := if rightN xs = true ∧ 1 ≤ d ∧ d < 9223372036854775808 then valL xs / d.toNat else 0
def divL (xs : List Int) (d : Int) : Nat := if rightN xs = true ∧ 1 ≤ d ∧ d < 9223372036854775808 then valL xs % d.toNat else 0
theorem valL_split (l : List Int) (i : Nat) (h : i ≤ l.length) : valL l = valL (l.take i) + 4294967296 ^ i * ((l.getD i 0).toNat + 4294967296 * valL (l.drop (i + 1))) := by rw [valL_take_drop l i h, valL_drop_getD]
theorem take_lt {l : List Int} (hl : Lim l) (i : Nat) : valL (l.take i) < 4294967296 ^ i := by
  refine Nat.lt_of_lt_of_le (valL_lt (hl.take i)) (Nat.pow_le_pow_right (by omega) ?_)
  rw [List.length_take]
  omega
/-- The higher limbs are the same, the next one is less. -/
theorem cmp_less {xs ys : List Int} (hx : Lim xs) (hy : Lim ys) {i : Nat} (hi : i < xs.length) (hj : i < ys.length) (hd : xs.drop (i + 1) = ys.drop (i + 1)) (h : xs.getD i 0 < ys.getD i 0) : valL xs < valL ys := by
  rw [valL_split xs i (by omega), valL_split ys i (by omega), hd]
  have h1 := take_lt hx i
  have h2 := hx.getD i
  have h3 := hy.getD i
  generalize valL (xs.take i) = a at *
  generalize valL (ys.take i) = b at *
  generalize 4294967296 ^ i = P at *
  generalize valL (ys.drop (i + 1)) = D at *
  have h4 : P * ((xs.getD i 0).toNat + 1 + 4294967296 * D) ≤ P * ((ys.getD i 0).toNat + 4294967296 * D) := Nat.mul_le_mul_left P (by omega)
  have h5 : P * ((xs.getD i 0).toNat + 1 + 4294967296 * D) = P * ((xs.getD i 0).toNat + 4294967296 * D) + P := by rw [show (xs.getD i 0).toNat + 1 + 4294967296 * D = (xs.getD i 0).toNat + 4294967296 * D + 1 by omega, Nat.mul_add, Nat.mul_one]
  omega
theorem len_less {xs ys : List Int} (hx : Lim xs) (hy : Lim ys) (hr : rightN ys = true) (h : xs.length < ys.length) : valL xs < valL ys := by
  have h1 := valL_lt hx
  have h2 := rightN_can hy hr
  have h3 : ¬ (natL (valL ys)).length ≤ xs.length := by rw [← h2]; omega
  rw [natL_len] at h3
  omega
theorem getD_end {l : List Int} {i : Nat} (h : l.length ≤ i) : l.getD i 0 = 0 := by rw [List.getD_eq_getElem?_getD, List.getElem?_eq_none h]; rfl
theorem valL_take_next (l : List Int) (k : Nat) : valL (l.take (k + 1)) = valL (l.take k) + 4294967296 ^ k * (l.getD k 0).toNat := by
  rcases Nat.lt_or_ge k l.length with h | h
  · exact valL_take_succ l k h
  · rw [getD_end h, List.take_of_length_le (by omega), List.take_of_length_le h]
    show valL l = valL l + _ * 0
    omega
/-- One step of a difference. -/
theorem sub_step (P dg y bo x bn Vo Y X : Nat) (h : dg + y + bo = x + 4294967296 * bn) (hv : Vo + Y = X + P * bo) : Vo + P * dg + (Y + P * y) = X + P * x + P * 4294967296 * bn := by
  have h1 : P * (dg + y + bo) = P * (x + 4294967296 * bn) := by rw [h]
  rw [Nat.mul_add, Nat.mul_add, Nat.mul_add, ← Nat.mul_assoc] at h1
  omega
/-- Behind the last limb nothing is borrowed. -/
theorem sub_end {Vo a b P bo : Nat} (hb : bo ≤ 1) (h : Vo + b = a + P * bo) (hv : Vo < P) (hab : b ≤ a) : Vo = a - b := by
  have : bo = 0 ∨ bo = 1 := by omega
  rcases this with rfl | rfl
  · omega
  · rw [Nat.mul_one] at h; omega
/-! ### division, bit by bit -/
/-- One bit of a division. -/
theorem div_step {Q0 oq d left X0 K x t : Nat} (h : (Q0 * K + oq) * d + left = X0 * K + x / 2 ^ (t + 1)) (c oq' left' : Nat) (hc : (2 * left + x / 2 ^ t % 2) = c) (ho : (oq' = 2 * oq ∧ left' = c) ∨ (oq' = 2 * oq + 1 ∧ left' + d = c)) : (Q0 * (2 * K) + oq') * d + left' = X0 * (2 * K) + x / 2 ^ t := by
  have h1 : x / 2 ^ (t + 1) = x / 2 ^ t / 2 := by rw [Nat.pow_succ, Nat.div_div_eq_div_mul]
  rw [h1] at h
  have h2 : Q0 * (2 * K) = 2 * (Q0 * K) := Nat.mul_left_comm _ _ _
  have h3 : X0 * (2 * K) = 2 * (X0 * K) := Nat.mul_left_comm _ _ _
  rw [h2, h3]
  generalize x / 2 ^ t = z at *
  generalize Q0 * K = q at *
  generalize X0 * K = y at *
  have h4 : (2 * q + 2 * oq) * d = 2 * ((q + oq) * d) := by rw [← Nat.mul_add, Nat.mul_assoc]
  rcases ho with ⟨rfl, rfl⟩ | ⟨rfl, h5⟩
  · rw [h4]; omega
  · rw [← Nat.add_assoc, Nat.add_mul, h4]; omega
theorem div_end {q d left v : Nat} (h : q * d + left = v) (hl : left < d) : q = v / d ∧ left = v % d := by
  subst h
  constructor
  · rw [Nat.mul_comm, Nat.mul_add_div (by omega), Nat.div_eq_of_lt hl, Nat.add_zero]
  · rw [Nat.mul_comm, Nat.mul_add_mod, Nat.mod_eq_of_lt hl]
/-! ### decimal digits -/
def decL (n : Nat) : List Int := if h : n < 10 then [48 + (n : Int)] else decL (n / 10) ++ [48 + ((n % 10 : Nat) : Int)]
  termination_by n
  decreasing_by exact Nat.div_lt_self (by omega) (by omega)
theorem decL_small {n : Nat} (h : n < 10) : decL n = [48 + (n : Int)] := by rw [decL, dif_pos h]
theorem decL_big {n : Nat} (h : ¬ n < 10) : decL n = decL (n / 10) ++ [48 + ((n % 10 : Nat) : Int)] := by rw [decL, dif_neg h]
def textR (xs : List Int) : List Int := if rightN xs = true then decL (valL xs) else []
/-! ### what the walk of a division needs -/
open Go.ChangeShapes Go.WideShapes Go.ChangeAt Go.RowKit
def RetND (w : World) (zs : List Int) (left : Nat) (err : Int) (e : Ending) (w' : World) : Prop := ∃ A c, e = .returned (.tuple #[.slice A zs.length c, .int .u64 (left : Int), .int .i64 err]) ∧ zs.length ≤ c ∧ c ≤ maxLen ∧ Rd .u32 w' w'.heap.size A zs.length zs ∧ Below w.heap.size w w'
theorem RetND.nil {w w' : World} (e : Int) (hb : Below w.heap.size w w') : RetND w [] 0 e (.returned (.tuple #[.slice none 0 0, .int .u64 0, .int .i64 e])) w' := ⟨none, 0, rfl, Nat.le_refl _, by simp [maxLen], Rd.none_, hb⟩
theorem set_drop (l : List Int) (m : Nat) (v : Int) : (l.set m v).drop (m + 1) = l.drop (m + 1) := List.drop_set_of_lt (by omega)
theorem set_getD {l : List Int} {m : Nat} (v : Int) (h : m < l.length) : (l.set m v).getD m 0 = v := by rw [List.getD_eq_getElem?_getD, List.getElem?_set_self h]; rfl
theorem set_other {l : List Int} {m t : Nat} (v : Int) (h : m ≠ t) : (l.set m v).getD t 0 = l.getD t 0 := by rw [List.getD_eq_getElem?_getD, List.getElem?_set_ne h, ← List.getD_eq_getElem?_getD]
theorem set_self0 {l : List Int} {m : Nat} (h : l.getD m 0 = 0) : l.set m 0 = l := by
  rcases Nat.lt_or_ge m l.length with hm | hm
  · rw [List.getD_eq_getElem?_getD, List.getElem?_eq_getElem hm] at h
    have h2 : l[m] = 0 := h
    apply List.ext_getElem
    · rw [List.length_set]
    · intro i h3 h4
      rw [List.getElem_set]
      split
      · rename_i h5; subst h5; rw [h2]
      · rfl
  · exact List.set_eq_of_length_le hm
theorem set_set (l : List Int) (m : Nat) (u v : Int) : (l.set m u).set m v = l.set m v := List.set_set u
theorem pow_split {u : Nat} (h : u ≤ 32) : 2 ^ (32 - u) * 2 ^ u = 4294967296 := by rw [← Nat.pow_add, show 32 - u + u = 32 by omega]
/-- The bits that are still to come, when u of them are left. -/
def DivI (Q0 X0 x d u oq left : Nat) : Prop := u ≤ 32 ∧ left < d ∧ oq < 2 ^ (32 - u) ∧ (Q0 * 2 ^ (32 - u) + oq) * d + left = X0 * 2 ^ (32 - u) + x / 2 ^ u
theorem DivI.start {Q0 X0 x d left : Nat} (hx : x < 4294967296) (hl : left < d) (h : Q0 * d + left = X0) : DivI Q0 X0 x d 32 0 left := by
  refine ⟨Nat.le_refl _, hl, Nat.one_pos, ?_⟩
  rw [Nat.sub_self, Nat.pow_zero, Nat.mul_one, Nat.mul_one, Nat.add_zero, show 2 ^ 32 = 4294967296 from rfl, Nat.div_eq_of_lt hx, Nat.add_zero]
  exact h
theorem DivI.next {Q0 X0 x d t oq left : Nat} (h : DivI Q0 X0 x d (t + 1) oq left) : ∃ c, 2 * left + x / 2 ^ t % 2 = c ∧ (c < d → DivI Q0 X0 x d t (2 * oq) c) ∧ (¬ c < d → DivI Q0 X0 x d t (2 * oq + 1) (c - d)) ∧ c < 2 * d ∧ (2 * oq + 1) * 2 ^ t ≤ 4294967295 := by
  obtain ⟨h1, h2, h3, h4⟩ := h
  have e : 2 ^ (32 - t) = 2 * 2 ^ (32 - (t + 1)) := by rw [show 32 - t = 32 - (t + 1) + 1 by omega, Nat.pow_succ, Nat.mul_comm]
  refine ⟨_, rfl, fun hc => ⟨by omega, hc, by omega, ?_⟩, fun hc => ⟨by omega, by omega, by omega, ?_⟩, by omega, ?_⟩
  · rw [e]
    exact div_step h4 _ _ _ rfl (.inl ⟨rfl, rfl⟩)
  · rw [e]
    exact div_step h4 _ _ _ rfl (.inr ⟨rfl, by omega⟩)
  · have h5 : (2 * oq + 1 + 1) * 2 ^ t ≤ 2 ^ (32 - t) * 2 ^ t := Nat.mul_le_mul_right _ (by omega)
    rw [pow_split (by omega), Nat.add_mul] at h5
    have h6 : 0 < 2 ^ t := Nat.pow_pos (by omega)
    omega
theorem DivI.done {Q0 X0 x d oq left : Nat} (h : DivI Q0 X0 x d 0 oq left) : (oq + 4294967296 * Q0) * d + left = x + 4294967296 * X0 ∧ left < d ∧ oq < 4294967296 := by
  obtain ⟨_, h2, h3, h4⟩ := h
  rw [show 2 ^ (32 - 0) = 4294967296 from rfl] at h3 h4
  rw [Nat.pow_zero, Nat.div_one, Nat.add_comm (Q0 * 4294967296) oq, Nat.mul_comm Q0, Nat.mul_comm X0] at h4
  exact ⟨by omega, h2, h3⟩
theorem twice_pow (oq t : Nat) : oq * 2 ^ (t + 1) = 2 * oq * 2 ^ t := by rw [Nat.pow_succ, Nat.mul_comm (2 ^ t) 2, ← Nat.mul_assoc, Nat.mul_comm oq 2]
theorem twice_pow1 (oq t : Nat) : oq * 2 ^ (t + 1) + 2 ^ t = (2 * oq + 1) * 2 ^ t := by rw [twice_pow, Nat.add_mul, Nat.one_mul]
theorem half_pow (t : Nat) : 2 ^ (t + 1) / 2 = 2 ^ t := by rw [Nat.pow_succ]; omega
theorem decL_len (k : Nat) : ∀ n, n < 2 ^ (k + 1) → (decL n).length ≤ k + 1 := by
  induction k using Nat.strongRecOn with
  | ind k ih =>
    intro n hn
    by_cases h : n < 10
    · rw [decL_small h]; simp
    · rw [decL_big h, List.length_append, List.length_singleton]
      rcases k with _ | j
      · rw [show 2 ^ (0 + 1) = 2 from rfl] at hn; omega
      · have h2 := ih j (by omega) (n / 10) (by rw [Nat.pow_succ] at hn; omega)
        omega
theorem decL_limbs (k n : Nat) (h : n < 4294967296 ^ k) : (decL n).length ≤ 32 * k + 1 := by
  refine decL_len (32 * k) n ?_
  rw [show (4294967296 : Nat) = 2 ^ 32 from rfl, ← Nat.pow_mul] at h
  exact Nat.lt_of_lt_of_le h (Nat.pow_le_pow_right (by omega) (by omega))
theorem textR_len {xs : List Int} (hx : Lim xs) (hr : rightN xs = true) : (decL (valL xs)).length ≤ 8193 := by
  have h1 := rightN_can hx hr
  have h2 := rightN_len hr
  rw [h1, natL_len] at h2
  have h3 := decL_limbs 256 _ h2
  omega
/-! ### digits as a string -/
theorem strB_app (a b : List Int) : strB (a ++ b) = strB a ++ strB b := by
  apply ByteArray.ext
  apply Array.ext'
  rw [strB_list, ByteArray.data_append, Array.toList_append, strB_list, strB_list, List.map_append]
theorem strB_cons (x : Int) (l : List Int) : strB [x] ++ strB l = strB (x :: l) := (strB_app [x] l).symm
theorem strB_size (l : List Int) : (strB l).size = l.length := by
  show (strB l).data.size = l.length
  rw [← Array.length_toList, strB_list, List.length_map]
theorem ret_str {a b : ByteArray} (h : a = b) : Ending.returned (.string a) = .returned (.string b) := by rw [h]
def sizeOfS (v : Value) : Nat := match v with | .string b => b.size | _ => 0
theorem strN_one (w : World) (x : Int) : (convert 58 9 (.slice (some ⟨w.heap.size, 0, none⟩) 1 1)).run Tryd.prog (w.alloc (.cells #[.int .u8 x] 5)) = .ok (.string (strB [x])) (w.alloc (.cells #[.int .u8 x] 5)) :=
  run_str Tryd.underlying58 Tryd.underlying5 Tryd.underlying9 (rd_one w 5 .u8 x) (fun h => by cases h)
theorem natL_len10 (n : Nat) (h : (natL n).length ≤ 256) : (natL (n / 10)).length ≤ 256 := by
  rw [natL_len] at h ⊢
  exact Nat.lt_of_le_of_lt (Nat.div_le_self _ _) h
theorem natL_len0 {n : Nat} : (natL n).length = 0 ↔ n = 0 := ⟨fun h => natL_nil (List.eq_nil_of_length_eq_zero h), fun h => by subst h; rw [natL_zero]; rfl⟩
theorem div10 (n : Nat) (h : (natL n).length ≤ 256) : divV (natL n) 10 = n / 10 ∧ divL (natL n) 10 = n % 10 ∧ divE (natL n) 10 = 0 := by
  have hr := rightN_natL h
  refine ⟨?_, ?_, ?_⟩
  · unfold divV; rw [if_pos ⟨hr, by omega, by omega⟩, natL_val]; rfl
  · unfold divL; rw [if_pos ⟨hr, by omega, by omega⟩, natL_val]; rfl
  · unfold divE; rw [if_pos ⟨hr, by omega, by omega⟩]
end Go.Proofs.YtoimepmignlmkaaDoor

/-
  A hash's text as lists of numbers, there and back.
  Conditions: those that each theorem names.
-/
import Derived.Test.YtjdceadglfnnbaaDoorShaP
import Derived.Test.YtjdceadglfnnbaaDoorMemA
namespace Go.Proofs.YtjdceadglfnnbaaDoor
open Go.ChangeShapes Go.WideShapes Go.ChangeAt Go.RowKit
def digN (d : Int) : Int := if d < 10 then 48 + d else 87 + d
def valN (c : Int) : Int := if 48 ≤ c ∧ c ≤ 57 then c - 48 else if 97 ≤ c ∧ c ≤ 102 then c - 87 else 16
theorem digN_in (d : Int) (h0 : 0 ≤ d) (h1 : d < 16) : 48 ≤ digN d ∧ digN d ≤ 102 := by unfold digN; split <;> omega
theorem valN_dig (d : Int) (h0 : 0 ≤ d) (h1 : d < 16) : valN (digN d) = d := by unfold valN digN; split <;> split <;> (try split) <;> omega
theorem dig_valN (c : Int) (h : valN c ≤ 15) : digN (valN c) = c := by
  unfold valN at h ⊢
  unfold digN
  split at h
  · split <;> split <;> omega
  · split at h
    · split <;> (try split) <;> omega
    · omega
theorem valN_in (c : Int) : 0 ≤ valN c ∧ valN c ≤ 16 := by unfold valN; split <;> (try split) <;> omega
theorem valN_none (c : Int) (h : ∀ j : Nat, j < 16 → digN j ≠ c) : valN c = 16 := by
  have hv := valN_in c
  rcases Int.lt_or_le (valN c) 16 with h1 | h1
  · have := dig_valN c (by omega)
    exact absurd (by rw [show ((valN c).toNat : Int) = valN c by omega]; exact this) (h (valN c).toNat (by omega))
  · omega
def textL (h : List Int) : List Int := h.flatMap fun z => [digN (z / 16), digN (z % 16)]
theorem textL_append (a b : List Int) : textL (a ++ b) = textL a ++ textL b := by simp [textL]
theorem textL_len (h : List Int) : (textL h).length = 2 * h.length := by
  induction h with
  | nil => rfl
  | cons z h ih => rw [show z :: h = [z] ++ h from rfl, textL_append, List.length_append, ih]; simp [textL]; omega
theorem textL_in (h : List Int) (hh : ∀ z ∈ h, 0 ≤ z ∧ z < 256) : ∀ c ∈ textL h, 0 ≤ c ∧ c < 256 := by
  intro c hc
  unfold textL at hc
  obtain ⟨z, hz, h1⟩ := List.mem_flatMap.1 hc
  have hz' := hh z hz
  simp only [List.mem_cons, List.not_mem_nil, or_false] at h1
  have d1 := digN_in (z / 16) (by omega) (by omega)
  have d2 := digN_in (z % 16) (by omega) (by omega)
  rcases h1 with h1 | h1 <;> subst h1 <;> omega
def parseTo (zs : List Int) (n : Nat) : List Int := (List.range n).map fun j => 16 * valN (zs.getD (2 * j) 0) + valN (zs.getD (2 * j + 1) 0)
theorem parseTo_len (zs : List Int) (n : Nat) : (parseTo zs n).length = n := by simp [parseTo]
theorem parseTo_next (zs : List Int) (n : Nat) : parseTo zs (n + 1) = parseTo zs n ++ [16 * valN (zs.getD (2 * n) 0) + valN (zs.getD (2 * n + 1) 0)] := by
  unfold parseTo; rw [List.range_succ, List.map_append]; rfl
/-- The first 2n letters are digits. -/
def digits (zs : List Int) (n : Nat) : Bool := (List.range n).all fun j => decide (valN (zs.getD (2 * j) 0) ≤ 15) && decide (valN (zs.getD (2 * j + 1) 0) ≤ 15)
theorem digits_next (zs : List Int) (n : Nat) : digits zs (n + 1) = (digits zs n && (decide (valN (zs.getD (2 * n) 0) ≤ 15) && decide (valN (zs.getD (2 * n + 1) 0) ≤ 15))) := by
  unfold digits; rw [List.range_succ, List.all_append]; simp
theorem digits_no (zs : List Int) (n m : Nat) (h : digits zs n = false) (hm : n ≤ m) : digits zs m = false := by
  induction m with
  | zero =>
    obtain rfl : n = 0 := by omega
    exact h
  | succ m ih =>
    rcases Nat.lt_or_ge n (m + 1) with h1 | h1
    · rw [digits_next, ih (by omega)]; rfl
    · obtain rfl : n = m + 1 := by omega
      exact h
/-- The text's hash, if it is one. -/
def parseOk (zs : List Int) : Bool := decide (zs.length = 64) && digits zs 32
theorem parseTo_in (zs : List Int) (n : Nat) (h : digits zs n = true) : ∀ z ∈ parseTo zs n, 0 ≤ z ∧ z < 256 := by
  intro z hz
  unfold parseTo at hz
  obtain ⟨j, hj, rfl⟩ := List.mem_map.1 hz
  have h1 := List.all_eq_true.1 h j hj
  simp only [Bool.and_eq_true, decide_eq_true_eq] at h1
  have h2 := valN_in (zs.getD (2 * j) 0)
  have h3 := valN_in (zs.getD (2 * j + 1) 0)
  omega
def parseF (zs : List Int) (n : Nat) : List Int := parseTo zs n ++ List.replicate (32 - n) 0
theorem parseF_len (zs : List Int) (n : Nat) (hn : n ≤ 32) : (parseF zs n).length = 32 := by simp [parseF, parseTo_len]; omega
theorem parseF_set (zs : List Int) (n : Nat) (hn : n < 32) : (parseF zs n).set n (16 * valN (zs.getD (2 * n) 0) + valN (zs.getD (2 * n + 1) 0)) = parseF zs (n + 1) := by
  unfold parseF
  rw [List.set_append_right _ _ (by rw [parseTo_len]; omega), parseTo_len, Nat.sub_self, show 32 - n = (32 - (n + 1)) + 1 by omega, List.replicate_succ, List.set_cons_zero, parseTo_next, List.append_assoc]
  rfl
theorem parseF_zero (zs : List Int) : parseF zs 0 = List.replicate 32 0 := by simp [parseF, parseTo]
theorem parseF_full (zs : List Int) : parseF zs 32 = parseTo zs 32 := by simp [parseF]
theorem textL_at (h : List Int) (j : Nat) (hj : j < h.length) : (textL h).getD (2 * j) 0 = digN (h.getD j 0 / 16) ∧ (textL h).getD (2 * j + 1) 0 = digN (h.getD j 0 % 16) := by
  induction h generalizing j with
  | nil => simp at hj
  | cons z h ih =>
    rw [show textL (z :: h) = digN (z / 16) :: digN (z % 16) :: textL h from rfl]
    cases j with
    | zero => exact ⟨rfl, rfl⟩
    | succ j =>
      have := ih j (by simpa using hj)
      rw [show 2 * (j + 1) = 2 * j + 1 + 1 by omega]
      simpa using this
/-- A hash comes back of its text. -/
theorem parse_text (h : List Int) (hl : h.length = 32) (hh : ∀ z ∈ h, 0 ≤ z ∧ z < 256) : parseOk (textL h) = true ∧ parseTo (textL h) 32 = h := by
  have hz : ∀ j, j < 32 → 0 ≤ h.getD j 0 ∧ h.getD j 0 < 256 := by
    intro j hj
    have h1 : j < h.length := by omega
    simp [h1]; exact hh _ (List.getElem_mem h1)
  constructor
  · unfold parseOk
    rw [textL_len, hl, decide_eq_true rfl, Bool.true_and]
    unfold digits
    rw [List.all_eq_true]
    intro j hj
    have hj' := List.mem_range.1 hj
    have h1 := hz j hj'
    obtain ⟨e1, e2⟩ := textL_at h j (by omega)
    rw [e1, e2, valN_dig _ (by omega) (by omega), valN_dig _ (by omega) (by omega)]
    simp only [Bool.and_eq_true, decide_eq_true_eq]
    omega
  · apply List.ext_getElem?
    intro j
    rcases Nat.lt_or_ge j 32 with hj | hj
    · have h1 := hz j hj
      obtain ⟨e1, e2⟩ := textL_at h j (by omega)
      unfold parseTo
      rw [List.getElem?_map, List.getElem?_range hj, Option.map_some, e1, e2, valN_dig _ (by omega) (by omega), valN_dig _ (by omega) (by omega), List.getElem?_eq_getElem (by omega)]
      have e3 : h.getD j 0 = h[j]'(by omega) := by simp [show j < h.length by omega]
      rw [e3] at h1 ⊢
      congr 1
      omega
    · rw [List.getElem?_eq_none (by rw [parseTo_len]; exact hj), List.getElem?_eq_none (by omega)]
theorem text_pairs (zs : List Int) (n : Nat) (hl : 2 * n ≤ zs.length) (h : digits zs n = true) : textL (parseTo zs n) = zs.take (2 * n) := by
  induction n with
  | zero => simp [parseTo, textL]
  | succ n ih =>
    rw [digits_next, Bool.and_eq_true] at h
    obtain ⟨h1, h2⟩ := h
    simp only [Bool.and_eq_true, decide_eq_true_eq] at h2
    have e1 : zs.getD (2 * n) 0 = zs[2 * n]'(by omega) := by simp [show 2 * n < zs.length by omega]
    have e2 : zs.getD (2 * n + 1) 0 = zs[2 * n + 1]'(by omega) := by simp [show 2 * n + 1 < zs.length by omega]
    have v1 := valN_in (zs.getD (2 * n) 0)
    have v2 := valN_in (zs.getD (2 * n + 1) 0)
    rw [parseTo_next, textL_append, ih (by omega) h1, show 2 * (n + 1) = 2 * n + 1 + 1 by omega, List.take_succ_eq_append_getElem (show 2 * n + 1 < zs.length by omega), List.take_succ_eq_append_getElem (show 2 * n < zs.length by omega), List.append_assoc]
    congr 1
    rw [show ∀ x, textL [x] = [digN (x / 16), digN (x % 16)] from fun _ => rfl, show (16 * valN (zs.getD (2 * n) 0) + valN (zs.getD (2 * n + 1) 0)) / 16 = valN (zs.getD (2 * n) 0) by omega, show (16 * valN (zs.getD (2 * n) 0) + valN (zs.getD (2 * n + 1) 0)) % 16 = valN (zs.getD (2 * n + 1) 0) by omega, dig_valN _ h2.1, dig_valN _ h2.2, e1, e2]
    rfl
/-- A text comes back of its hash. -/
theorem text_parse (zs : List Int) (h : parseOk zs = true) : textL (parseTo zs 32) = zs := by
  unfold parseOk at h
  rw [Bool.and_eq_true, decide_eq_true_eq] at h
  rw [text_pairs zs 32 (by omega) h.2, List.take_of_length_le (by omega)]
theorem strB_append (a b : List Int) : strB (a ++ b) = strB a ++ strB b := by
  have h : (strB (a ++ b)).data.toList = (strB a ++ strB b).data.toList := by
    rw [ByteArray.data_append, Array.toList_append, strB_list, strB_list, strB_list, List.map_append]
  have ext : ∀ x y : ByteArray, x.data.toList = y.data.toList → x = y := by
    intro x y hxy
    obtain ⟨⟨x⟩⟩ := x
    obtain ⟨⟨y⟩⟩ := y
    simp at hxy
    rw [hxy]
  exact ext _ _ h
end Go.Proofs.YtjdceadglfnnbaaDoor

/-
  Plain lemmas on a tree that is built, unbuilt and set number by number: bounds, one step back, the chain of the numbers that hold a place.
  Conditions: those that each theorem names.
-/
import Derived.Test.YtilccjjagdedaaaDoorFenR
set_option maxRecDepth 100000
set_option linter.unusedVariables false
set_option linter.unusedSimpArgs false
namespace Go.Proofs.YtilccjjagdedaaaDoor
theorem cov_bd {M : Nat} (h : M ≠ 0) : ∀ k, M - lowN M ≤ covN M k ∧ covN M k ≤ M - 1
  | 0 => by
    have h1 := lowN_pos h
    show M - lowN M ≤ M - lowN M ∧ M - lowN M ≤ M - 1
    omega
  | k + 1 => by
    rw [covN]
    split
    · rename_i e
      have := child_in (by omega) e
      omega
    · exact cov_bd h k
theorem bldF_bd {l : List Int} (hz : ∀ z ∈ l, 0 ≤ z) (k m : Nat) (hm : m < l.length) : 0 ≤ (bldF l k).getD m 0 ∧ (bldF l k).getD m 0 ≤ sumL l := by
  rw [bldF_at k hm]
  obtain ⟨h1, h2⟩ := cov_bd (M := m + 1) (by omega) k
  have h3 := preL_mono hz h1
  have h4 := preL_mono hz (show covN (m + 1) k ≤ m by omega)
  have h5 := preL_next hm
  have h6 := preL_le hz (m + 1)
  have h7 := preL_nn hz (m + 1 - lowN (m + 1))
  have h8 := preL_nn hz (covN (m + 1) k)
  have h9 : 0 ≤ l.getD m 0 := by
    have := preL_mono hz (show m ≤ m + 1 by omega)
    omega
  omega
theorem bldF_keep {l : List Int} {k j : Nat} (hj : j < l.length) (h : j ≠ k + lowN (k + 1)) : (bldF l (k + 1)).getD j 0 = (bldF l k).getD j 0 := by
  rw [bldF_at _ hj, bldF_at _ hj, covN, if_neg (by omega)]
/-- One step back. -/
theorem bldF_prev {l : List Int} {k : Nat} (hk : k < l.length) (h : k + 1 + lowN (k + 1) ≤ l.length) : (bldF l (k + 1)).set (k + lowN (k + 1)) ((bldF l (k + 1)).getD (k + lowN (k + 1)) 0 - (bldF l (k + 1)).getD k 0) = bldF l k := by
  have hp := lowN_pos (n := k + 1) (by omega)
  have h1 := bldF_next hk h
  have h2 : (bldF l (k + 1)).getD (k + lowN (k + 1)) 0 = (bldF l k).getD (k + lowN (k + 1)) 0 + (bldF l k).getD k 0 := by
    rw [← h1, List.getD_eq_getElem?_getD, List.getElem?_set_self (by rw [bldF_len]; omega)]
    rfl
  have h3 := bldF_keep (l := l) (k := k) hk (by omega)
  rw [h2, h3]
  apply ext_getD (by rw [List.length_set, bldF_len, bldF_len])
  intro j hj
  rw [List.length_set, bldF_len] at hj
  by_cases hjo : j = k + lowN (k + 1)
  · subst hjo
    rw [List.getD_eq_getElem?_getD, List.getElem?_set_self (by rw [bldF_len]; exact hj)]
    show (bldF l k).getD (k + lowN (k + 1)) 0 + (bldF l k).getD k 0 - (bldF l k).getD k 0 = _
    omega
  · rw [List.getD_eq_getElem?_getD, List.getElem?_set_ne (fun h => hjo h.symm), ← List.getD_eq_getElem?_getD, bldF_keep hj hjo]
/-! ### a stake that is set: the chain -/
/-- Where the walk stands: what holds p is what holds the place, from p on. -/
def chainP (i p : Nat) : Prop := p ≠ 0 ∧ ∀ m, holdsP m p ↔ (holdsP m (i + 1) ∧ p ≤ m)
theorem chain_zero (i : Nat) : chainP i (i + 1) := ⟨by omega, fun m => ⟨fun h => ⟨h, h.2⟩, fun h => h.1⟩⟩
theorem chain_next {i p : Nat} (h : chainP i p) : chainP i (p + lowN p) := by
  obtain ⟨h0, h1⟩ := h
  have hp := lowN_pos h0
  refine ⟨by omega, fun m => ⟨fun hm => ?_, fun hm => ?_⟩⟩
  · exact ⟨((h1 m).1 (holds_back h0 hm)).1, hm.2⟩
  · obtain ⟨h2, h3⟩ := hm
    exact holds_next h0 ((h1 m).2 ⟨h2, by omega⟩) (by omega)
theorem chain_self {i p : Nat} (h : chainP i p) : holdsP p (i + 1) := ((h.2 p).1 (holds_self h.1)).1
theorem chain_gap {i p m : Nat} (h : chainP i p) (hm : holdsP m (i + 1)) (h2 : p < m) : p + lowN p ≤ m := (holds_next h.1 ((h.2 m).2 ⟨hm, by omega⟩) (by omega)).2
/-- The numbers while the chain is walked. -/
def setF (l : List Int) (i : Nat) (d : Int) (p : Nat) : List Int := (List.range l.length).map fun j => (treeL l).getD j 0 + if j + 1 - lowN (j + 1) < i + 1 ∧ i + 1 ≤ j + 1 ∧ j + 1 < p then d else 0
theorem setF_len (l : List Int) (i : Nat) (d : Int) (p : Nat) : (setF l i d p).length = l.length := by simp [setF]
theorem setF_at {l : List Int} (i : Nat) (d : Int) (p : Nat) {j : Nat} (h : j < l.length) : (setF l i d p).getD j 0 = (treeL l).getD j 0 + if j + 1 - lowN (j + 1) < i + 1 ∧ i + 1 ≤ j + 1 ∧ j + 1 < p then d else 0 := by simp [setF, h]
theorem setF_zero (l : List Int) (i : Nat) (d : Int) : setF l i d (i + 1) = treeL l := by
  apply ext_getD (by rw [setF_len, treeL_len])
  intro j hj
  rw [setF_len] at hj
  rw [setF_at i d _ hj, if_neg (by omega), Int.add_zero]
theorem setF_here {l : List Int} {i : Nat} (d : Int) {p : Nat} (h : chainP i p) (hp : p ≤ l.length) : (setF l i d p).getD (p - 1) 0 = (treeL l).getD (p - 1) 0 := by
  have := h.1
  rw [setF_at i d _ (by omega), if_neg (by omega), Int.add_zero]
theorem setF_next {l : List Int} {i : Nat} (d : Int) {p : Nat} (h : chainP i p) (hp : p ≤ l.length) : (setF l i d p).set (p - 1) ((treeL l).getD (p - 1) 0 + d) = setF l i d (p + lowN p) := by
  have h0 := h.1
  have hpos := lowN_pos h0
  apply ext_getD (by rw [List.length_set, setF_len, setF_len])
  intro j hj
  rw [List.length_set, setF_len] at hj
  by_cases hjo : j = p - 1
  · subst hjo
    have hs := chain_self h
    rw [List.getD_eq_getElem?_getD, List.getElem?_set_self (by rw [setF_len]; exact hj)]
    show (treeL l).getD (p - 1) 0 + d = _
    rw [setF_at i d _ hj, if_pos]
    rw [show p - 1 + 1 = p by omega]
    exact ⟨hs.1, hs.2, by omega⟩
  · rw [List.getD_eq_getElem?_getD, List.getElem?_set_ne (fun h => hjo h.symm), ← List.getD_eq_getElem?_getD, setF_at i d _ hj, setF_at i d _ hj]
    by_cases hh : j + 1 - lowN (j + 1) < i + 1 ∧ i + 1 ≤ j + 1
    · by_cases h2 : j + 1 < p
      · rw [if_pos ⟨hh.1, hh.2, h2⟩, if_pos ⟨hh.1, hh.2, by omega⟩]
      · have := chain_gap h (m := j + 1) hh (by omega)
        rw [if_neg (by omega), if_neg (by omega)]
    · rw [if_neg (by omega), if_neg (by omega)]
theorem setF_done {l : List Int} {i : Nat} (v : Int) {p : Nat} (hi : i < l.length) (h : l.length < p) : setF l i (v - l.getD i 0) p = treeL (l.set i v) := by
  apply ext_getD (by rw [setF_len, treeL_len, List.length_set])
  intro j hj
  rw [setF_len] at hj
  rw [setF_at _ _ _ hj, treeL_set v hi j hj]
  by_cases hh : j + 1 - lowN (j + 1) < i + 1 ∧ i + 1 ≤ j + 1
  · rw [if_pos ⟨hh.1, hh.2, by omega⟩, if_pos hh]
  · rw [if_neg (by omega), if_neg hh]
/-- The old stake is a part of the number; the new one stays below the sum. -/
theorem setF_bd {l : List Int} (hz : ∀ z ∈ l, 0 ≤ z) {i p : Nat} {v : Int} (v0 : 0 ≤ v) (hi : i < l.length) (h : chainP i p) (hp : p ≤ l.length) :
    l.getD i 0 ≤ (treeL l).getD (p - 1) 0 ∧ (treeL l).getD (p - 1) 0 ≤ sumL l ∧ 0 ≤ l.getD i 0 ∧ (treeL l).getD (p - 1) 0 + (v - l.getD i 0) ≤ sumL (l.set i v) := by
  have h0 := h.1
  obtain ⟨h1, h2⟩ := chain_self h
  have hz2 : ∀ z ∈ l.set i v, 0 ≤ z := fun z hh => by
    rcases List.mem_or_eq_of_mem_set hh with h | h
    · exact hz z h
    · rw [h]; exact v0
  have e1 := treeL_at (l := l) (i := p - 1) (by omega)
  rw [show p - 1 + 1 = p by omega] at e1
  have e2 := preL_next hi
  have e3 := preL_mono hz (show i + 1 ≤ p by omega)
  have e4 := preL_mono hz (show p - lowN p ≤ i by omega)
  have e5 := preL_le hz p
  have e6 := preL_nn hz (p - lowN p)
  have e7 := preL_mono hz (show i ≤ i + 1 by omega)
  have e8 := preL_set v hi p
  rw [if_pos (by omega)] at e8
  have e9 := preL_le hz2 p
  omega
end Go.Proofs.YtilccjjagdedaaaDoor

/-
  Owners of tickets in plain Lean: each ticket below the sum has one; each place owns as many as its stake.
  Conditions: those that each theorem names.
-/
import Derived.Test.YtilccjjagdedaaaDoorRefX
set_option maxRecDepth 100000
set_option linter.unusedVariables false
set_option linter.unusedSimpArgs false
namespace Go.Proofs.YtilccjjagdedaaaDoor
theorem preL_cons (x : Int) (l : List Int) (n : Nat) : preL (x :: l) (n + 1) = x + preL l n := by
  unfold preL
  rw [List.take_succ_cons]
  rfl
theorem ownF_spec : ∀ (l : List Int) (t : Int) (i : Nat), (∀ z ∈ l, 0 ≤ z) → 0 ≤ t → t < sumL l → ∃ o, o < l.length ∧ ownF l t i = some (i + o) ∧ preL l o ≤ t ∧ t < preL l (o + 1)
  | [], t, i, _, h0, h1 => by
    have : t < 0 := h1
    omega
  | x :: l, t, i, hz, h0, h1 => by
    by_cases hx : t < x
    · exact ⟨0, by simp, by rw [ownF, if_pos hx]; rfl, h0, by rw [preL_cons]; show t < x + 0; omega⟩
    · have h2 : t - x < sumL l := by
        have : t < x + sumL l := h1
        omega
      obtain ⟨o, e1, e2, e3, e4⟩ := ownF_spec l (t - x) (i + 1) (fun z h => hz z (by simp [h])) (by omega) h2
      refine ⟨o + 1, by simpa using e1, ?_, ?_, ?_⟩
      · rw [ownF, if_neg hx, e2]
        congr 1
        omega
      · rw [preL_cons]; omega
      · rw [preL_cons]; omega
theorem own_at {l : List Int} {t : Int} (hz : ∀ z ∈ l, 0 ≤ z) (h0 : 0 ≤ t) (h1 : t < sumL l) : ∃ o, o < l.length ∧ ownV l t = (o : Int) ∧ ownE l t = 0 ∧ preL l o ≤ t ∧ t < preL l (o + 1) := by
  obtain ⟨o, e1, e2, e3, e4⟩ := ownF_spec l t 0 hz h0 h1
  rw [Nat.zero_add] at e2
  exact ⟨o, e1, by unfold ownV; rw [e2], by unfold ownE; rw [e2], e3, e4⟩
/-- How many of the first tickets lie within a stake. -/
def clampF (t pre s : Int) : Int := if t ≤ pre then 0 else if t - pre ≤ s then t - pre else s
def owndL (l : List Int) (t : Int) : List Int := (List.range l.length).map fun i => clampF t (preL l i) (l.getD i 0)
theorem owndL_len (l : List Int) (t : Int) : (owndL l t).length = l.length := by simp [owndL]
theorem owndL_at {l : List Int} {i : Nat} (t : Int) (h : i < l.length) : (owndL l t).getD i 0 = clampF t (preL l i) (l.getD i 0) := by simp [owndL, h]
theorem clamp_in {t pre s : Int} (hs : 0 ≤ s) : 0 ≤ clampF t pre s ∧ clampF t pre s ≤ s := by
  unfold clampF
  split
  · omega
  · split <;> omega
theorem owndL_zero {l : List Int} (hz : ∀ z ∈ l, 0 ≤ z) : owndL l 0 = List.replicate l.length 0 := by
  apply ext_getD (by rw [owndL_len, List.length_replicate])
  intro j hj
  rw [owndL_len] at hj
  have e : (List.replicate l.length (0 : Int)).getD j 0 = 0 := by rw [List.getD_eq_getElem?_getD, List.getElem?_replicate]; split <;> rfl
  rw [owndL_at 0 hj, e]
  have := preL_nn hz j
  unfold clampF
  rw [if_pos (by omega)]
theorem owndL_all {l : List Int} (hz : ∀ z ∈ l, 0 ≤ z) : owndL l (sumL l) = l := by
  apply ext_getD (owndL_len l _)
  intro j hj
  rw [owndL_len] at hj
  rw [owndL_at _ hj]
  have h1 := preL_next (l := l) (n := j) hj
  have h2 := preL_le hz (j + 1)
  have h3 := hz _ (getD_in hj)
  unfold clampF
  split
  · omega
  · split <;> omega
theorem owndL_next {l : List Int} (hz : ∀ z ∈ l, 0 ≤ z) {t : Int} {o : Nat} (ho : o < l.length) (h1 : preL l o ≤ t) (h2 : t < preL l (o + 1)) : (owndL l t).set o ((owndL l t).getD o 0 + 1) = owndL l (t + 1) := by
  apply ext_getD (by rw [List.length_set, owndL_len, owndL_len])
  intro j hj
  rw [List.length_set, owndL_len] at hj
  rw [owndL_at (t + 1) hj]
  have hn := preL_next (l := l) (n := o) ho
  by_cases hjo : j = o
  · subst hjo
    rw [List.getD_eq_getElem?_getD, List.getElem?_set_self (by rw [owndL_len]; exact hj)]
    show (owndL l t).getD j 0 + 1 = _
    rw [owndL_at t hj]
    unfold clampF
    rw [if_neg (show ¬ t + 1 ≤ preL l j by omega), if_pos (show t + 1 - preL l j ≤ l.getD j 0 by omega)]
    split
    · omega
    · rw [if_pos (by omega)]; omega
  · rw [List.getD_eq_getElem?_getD, List.getElem?_set_ne (fun h => hjo h.symm), ← List.getD_eq_getElem?_getD, owndL_at t hj]
    have hj1 := preL_next (l := l) (n := j) hj
    have hj2 := hz _ (getD_in hj)
    unfold clampF
    by_cases hlt : j < o
    · have := preL_mono hz (show j + 1 ≤ o by omega)
      by_cases h0 : l.getD j 0 = 0
      · rw [h0]
        (repeat' split) <;> omega
      · rw [if_neg (show ¬ t + 1 ≤ preL l j by omega)]
        (repeat' split) <;> omega
    · have := preL_mono hz (show o + 1 ≤ j by omega)
      rw [if_pos (show t ≤ preL l j by omega), if_pos (show t + 1 ≤ preL l j by omega)]
/-! ### stakes below 50 -/
def modL (l : List Int) : List Int := l.map (· % 50)
theorem modL_len (l : List Int) : (modL l).length = l.length := by simp [modL]
theorem modL_at {l : List Int} {i : Nat} (h : i < l.length) : (modL l).getD i 0 = l.getD i 0 % 50 := by simp [modL, List.getD_eq_getElem?_getD, h]
theorem modL_in {l : List Int} : ∀ z ∈ modL l, 0 ≤ z ∧ z < 50 := by
  intro z h
  obtain ⟨y, _, rfl⟩ := List.mem_map.1 h
  exact ⟨Int.emod_nonneg _ (by omega), Int.emod_lt_of_pos _ (by omega)⟩
theorem modL_pre (l : List Int) : ∀ i : Nat, i ≤ l.length → 0 ≤ preL (modL l) i ∧ preL (modL l) i ≤ 50 * (i : Int)
  | 0, _ => ⟨Int.le_refl _, Int.le_refl _⟩
  | i + 1, h => by
    have ih := modL_pre l i (by omega)
    have h1 := preL_next (l := modL l) (n := i) (by rw [modL_len]; omega)
    have h2 := modL_in (l := l) _ (getD_in (l := modL l) (k := i) (by rw [modL_len]; omega))
    rw [h1]
    push_cast
    omega
theorem modL_take {l : List Int} {i : Nat} (h : i < l.length) : (modL l).take (i + 1) = (modL l).take i ++ [l.getD i 0 % 50] := by
  rw [List.take_succ_eq_append_getElem (by rw [modL_len]; exact h)]
  congr 2
  have := modL_at h
  rw [List.getD_eq_getElem?_getD, List.getElem?_eq_getElem (by rw [modL_len]; exact h)] at this
  exact this
end Go.Proofs.YtilccjjagdedaaaDoor

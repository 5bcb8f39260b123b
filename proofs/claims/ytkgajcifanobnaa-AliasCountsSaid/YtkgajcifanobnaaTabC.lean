/-
  Tables of stakes in plain Lean: each number's owner, counted one by one.
  Conditions: those that each theorem names.
-/
import Derived.Test.YtkgajcifanobnaaTabQ
set_option maxRecDepth 100000
set_option linter.unusedVariables false
set_option linter.unusedSimpArgs false
namespace Go.Proofs.Ytkgajcifanobnaa
/-- How many of the first u numbers the place i owns. -/
def cntI (T : Int) (ts : List (Int × Int)) (i : Int) : Nat → Int
  | 0 => 0
  | u + 1 => cntI T ts i u + (if owV T ts (u : Int) = i then 1 else 0)
def cntL (T : Int) (ts : List (Int × Int)) (u : Nat) : List Int := (List.range ts.length).map fun (i : Nat) => cntI T ts i u
theorem cntL_len (T : Int) (ts : List (Int × Int)) (u : Nat) : (cntL T ts u).length = ts.length := by simp [cntL]
theorem cntL_at {T : Int} {ts : List (Int × Int)} {u i : Nat} (h : i < ts.length) : (cntL T ts u).getD i 0 = cntI T ts i u := by simp [cntL, h]
theorem cntL_zero (T : Int) (ts : List (Int × Int)) : cntL T ts 0 = List.replicate ts.length 0 := by
  apply ext_getD (by rw [cntL_len, List.length_replicate])
  intro j hj
  rw [cntL_len] at hj
  rw [cntL_at hj]
  simp [cntI, hj]
theorem cntI_in (T : Int) (ts : List (Int × Int)) (i : Int) : ∀ u : Nat, 0 ≤ cntI T ts i u ∧ cntI T ts i u ≤ (u : Int)
  | 0 => ⟨Int.le_refl _, Int.le_refl _⟩
  | u + 1 => by
    have := cntI_in T ts i u
    unfold cntI
    split <;> omega
theorem cntL_next {T : Int} {ts : List (Int × Int)} {u o : Nat} (ho : o < ts.length) (h : owV T ts (u : Int) = (o : Int)) : (cntL T ts u).set o ((cntL T ts u).getD o 0 + 1) = cntL T ts (u + 1) := by
  apply ext_getD (by rw [List.length_set, cntL_len, cntL_len])
  intro j hj
  rw [List.length_set, cntL_len] at hj
  rw [getD_setT (by rw [cntL_len]; exact ho), cntL_at hj, cntL_at hj]
  have e : cntI T ts j (u + 1) = cntI T ts j u + (if owV T ts (u : Int) = (j : Int) then 1 else 0) := rfl
  rw [e, h]
  by_cases hjo : j = o
  · subst hjo
    rw [if_pos rfl, if_pos rfl, cntL_at hj]
  · rw [if_neg hjo, if_neg (by omega)]
    omega
theorem ow_at {T : Int} {ts : List (Int × Int)} (hr : tabR T ts = true) {k r : Nat} (hk : k < ts.length) (hT : (r : Int) < T) : owV T ts ((k : Int) * T + (r : Int)) = if (r : Int) < (cellL ts k).1 then (k : Int) else (cellL ts k).2 := by
  have hT0 := (tabR_iff.1 hr).2.1
  have h1 : ((k : Int) * T + (r : Int)) / T = (k : Int) := by
    rw [Int.add_comm, Int.add_mul_ediv_right _ _ (by omega), Int.ediv_eq_zero_of_lt (by omega) hT]
    omega
  have h2 : ((k : Int) * T + (r : Int)) % T = (r : Int) := by
    rw [Int.add_comm, Int.add_mul_emod_self_right, Int.emod_eq_of_lt (by omega) hT]
  have h3 : ((k : Int) + 1) * T ≤ (ts.length : Int) * T := Int.mul_le_mul_of_nonneg_right (by omega) (by omega)
  rw [Int.add_mul, Int.one_mul] at h3
  have h4 : owE T ts ((k : Int) * T + (r : Int)) = 0 := by unfold owE; rw [if_pos hr, if_pos (by omega)]
  have h5 : lkE T ts (k : Int) (r : Int) = 0 := by unfold lkE; rw [if_pos hr, if_pos ⟨by omega, by omega, hT⟩]
  unfold owV
  rw [if_pos h4, h1, h2]
  unfold lkV
  rw [if_pos h5, Int.toNat_natCast]
/-- One column, number by number. -/
theorem cnt_col {t : Nat} {ts : List (Int × Int)} (hr : tabR (t : Int) ts = true) {i : Int} {k : Nat} (hk : k < ts.length) (h0 : 0 ≤ (cellL ts k).1) : ∀ r : Nat, r ≤ t →
    cntI (t : Int) ts i (k * t + r) = cntI (t : Int) ts i (k * t) + (if (k : Int) = i then (if (r : Int) < (cellL ts k).1 then (r : Int) else (cellL ts k).1) else 0) + (if (cellL ts k).2 = i then (if (r : Int) < (cellL ts k).1 then 0 else (r : Int) - (cellL ts k).1) else 0)
  | 0, _ => by
    rw [Nat.add_zero]
    by_cases e1 : (k : Int) = i <;> by_cases e2 : (cellL ts k).2 = i <;> by_cases e3 : ((0 : Nat) : Int) < (cellL ts k).1 <;> simp only [if_pos, if_neg, e1, e2, e3, not_false_eq_true, if_true, if_false] <;> omega
  | r + 1, h => by
    have ih := cnt_col hr (i := i) hk h0 r (by omega)
    have ho := ow_at hr hk (r := r) (by omega)
    rw [show k * t + (r + 1) = (k * t + r) + 1 from rfl]
    rw [show cntI (t : Int) ts i ((k * t + r) + 1) = cntI (t : Int) ts i (k * t + r) + (if owV (t : Int) ts ((k * t + r : Nat) : Int) = i then 1 else 0) from rfl, ih, show ((k * t + r : Nat) : Int) = (k : Int) * (t : Int) + (r : Int) from by rw [Int.natCast_add, Int.natCast_mul], ho, Int.natCast_add]
    generalize (cellL ts k).1 = c at *
    generalize (cellL ts k).2 = a at *
    generalize cntI (t : Int) ts i (k * t) = C at *
    have hn1 : ((1 : Nat) : Int) = 1 := rfl
    rw [hn1]
    by_cases h1 : (r : Int) < c
    · simp only [if_pos h1]
      by_cases h2 : (r : Int) + 1 < c
      · simp only [if_pos h2]
        by_cases e1 : (k : Int) = i
        · by_cases e2 : a = i
          · simp only [if_pos e1, if_pos e2]; omega
          · simp only [if_pos e1, if_neg e2]; omega
        · by_cases e2 : a = i
          · simp only [if_neg e1, if_pos e2]; omega
          · simp only [if_neg e1, if_neg e2]; omega
      · simp only [if_neg h2]
        by_cases e1 : (k : Int) = i
        · by_cases e2 : a = i
          · simp only [if_pos e1, if_pos e2]; omega
          · simp only [if_pos e1, if_neg e2]; omega
        · by_cases e2 : a = i
          · simp only [if_neg e1, if_pos e2]; omega
          · simp only [if_neg e1, if_neg e2]; omega
    · have h2 : ¬ (r : Int) + 1 < c := by omega
      simp only [if_neg h1, if_neg h2]
      by_cases e1 : (k : Int) = i
      · by_cases e2 : a = i
        · simp only [if_pos e1, if_pos e2]; omega
        · simp only [if_pos e1, if_neg e2]; omega
      · by_cases e2 : a = i
        · simp only [if_neg e1, if_pos e2]; omega
        · simp only [if_neg e1, if_neg e2]; omega
theorem cnt_owns {t : Nat} {ts : List (Int × Int)} (hr : tabR (t : Int) ts = true) (h0 : ∀ k, k < ts.length → 0 ≤ (cellL ts k).1) (i : Int) : ∀ k : Nat, k ≤ ts.length → cntI (t : Int) ts i (k * t) = ownsN (t : Int) ts i k
  | 0, _ => by rw [Nat.zero_mul]; rfl
  | k + 1, h => by
    have hc := ((tabR_iff.1 hr).2.2.2 k (by omega)).1
    have h1 := cnt_col hr (i := i) (k := k) (by omega) (h0 k (by omega)) t (Nat.le_refl _)
    rw [show (k + 1) * t = k * t + t from by rw [Nat.add_mul, Nat.one_mul], h1, cnt_owns hr h0 i k (by omega), if_neg (show ¬ ((t : Int) < (cellL ts k).1) from by omega), if_neg (show ¬ ((t : Int) < (cellL ts k).1) from by omega)]
    show _ = ownsN (t : Int) ts i k + ownK (t : Int) i k (cellL ts k)
    unfold ownK
    omega
theorem ow_in {T u : Int} {ts : List (Int × Int)} (hr : tabR T ts = true) (u0 : 0 ≤ u) (h : u < (ts.length : Int) * T) : ∃ o : Nat, o < ts.length ∧ owV T ts u = (o : Int) ∧ owE T ts u = 0 := by
  have hT := (tabR_iff.1 hr).2.1
  have h0 : owE T ts u = 0 := by unfold owE; rw [if_pos hr, if_pos h]
  have q0 : 0 ≤ u / T := Int.ediv_nonneg u0 (by omega)
  have q1 : u / T < (ts.length : Int) := Int.ediv_lt_of_lt_mul hT h
  have r1 := Int.emod_lt_of_pos u hT
  have h1 : lkE T ts (u / T) (u % T) = 0 := by unfold lkE; rw [if_pos hr, if_pos ⟨q0, q1, r1⟩]
  obtain ⟨k, hk⟩ := Int.eq_ofNat_of_zero_le q0
  have hc := (tabR_iff.1 hr).2.2.2 k (by omega)
  have e : owV T ts u = if u % T < (cellL ts k).1 then (k : Int) else (cellL ts k).2 := by
    unfold owV
    rw [if_pos h0]
    unfold lkV
    rw [if_pos h1, hk, Int.toNat_natCast]
  by_cases h2 : u % T < (cellL ts k).1
  · exact ⟨k, by omega, by rw [e, if_pos h2], h0⟩
  · obtain ⟨a, ha⟩ := Int.eq_ofNat_of_zero_le hc.2.1
    exact ⟨a, by omega, by rw [e, if_neg h2, ha], h0⟩
/-! ### stakes below 20 -/
def m20 (l : List Int) : List Int := l.map (· % 20)
theorem m20_len (l : List Int) : (m20 l).length = l.length := by simp [m20]
theorem m20_in {l : List Int} : ∀ z ∈ m20 l, 0 ≤ z ∧ z < 20 := by
  intro z hz
  obtain ⟨x, _, rfl⟩ := List.mem_map.1 hz
  omega
theorem m20_at {l : List Int} {i : Nat} (h : i < l.length) : (m20 l).getD i 0 = l.getD i 0 % 20 := by simp [m20, h]
theorem m20_take {l : List Int} {i : Nat} (h : i < l.length) : (m20 l).take (i + 1) = (m20 l).take i ++ [l.getD i 0 % 20] := by
  rw [List.take_succ_eq_append_getElem (by rw [m20_len]; exact h)]
  have := m20_at h
  rw [List.getD_eq_getElem?_getD, List.getElem?_eq_getElem (by rw [m20_len]; exact h)] at this
  rw [← this]
  rfl
theorem sum_small {m : Int} (hm : 0 ≤ m) : ∀ {l : List Int}, (∀ z ∈ l, z ≤ m) → sumL l ≤ m * (l.length : Int)
  | [], _ => by simp [sumL]
  | x :: l, h => by
    have h1 := sum_small hm (l := l) (fun z hz => h z (by simp [hz]))
    have h2 := h x (by simp)
    show x + sumL l ≤ m * ((l.length + 1 : Nat) : Int)
    rw [Int.natCast_add, Int.mul_add]
    simp
    omega
/-- Of up to 12 stakes below 20: how great the sum and the table are, and why there is none. -/
theorem m20_sum {l : List Int} (hl : l.length ≤ 12) : 0 ≤ sumL (m20 l) ∧ sumL (m20 l) ≤ 228 ∧ (l.length : Int) * sumL (m20 l) ≤ 2736 ∧ (tbE (m20 l) ≠ 0 → tbE (m20 l) = 10) := by
  have h0 := sumL_nn (l := m20 l) (fun z hz => (m20_in z hz).1)
  have h1 := sum_small (m := 19) (by omega) (l := m20 l) (fun z hz => by have := m20_in z hz; omega)
  rw [m20_len] at h1
  have h2 : sumL (m20 l) ≤ 228 := by omega
  have h3 : (l.length : Int) * sumL (m20 l) ≤ 12 * 228 := Int.mul_le_mul (by omega) h2 h0 (by omega)
  refine ⟨h0, h2, by omega, fun he => ?_⟩
  unfold tbE at he ⊢
  rw [m20_len] at he ⊢
  by_cases e1 : l.length = 0
  · rw [if_pos e1]
  · rw [if_neg e1, if_pos (by omega)] at he ⊢
    by_cases e2 : sumL (m20 l) = 0
    · rw [if_pos e2]
    · rw [if_neg e2, if_pos (by omega)] at he
      exact absurd rfl he
end Go.Proofs.Ytkgajcifanobnaa

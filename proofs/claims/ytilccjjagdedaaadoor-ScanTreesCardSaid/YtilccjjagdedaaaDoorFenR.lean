/-
  Ways to work on a Fenwick tree, in plain Lean: the lowest bit by 'and', a tree that grows, the descent to a ticket's owner.
  Conditions: those that each theorem names.
-/
import Derived.Test.YtilccjjagdedaaaDoorFenQ
import Derived.Test.YtilccjjagdedaaaDoorPlainA
set_option maxRecDepth 100000
set_option linter.unusedVariables false
set_option linter.unusedSimpArgs false
namespace Go.Proofs.YtilccjjagdedaaaDoor
theorem land_low (N n : Nat) (h0 : n ≠ 0) (h : n < 2 ^ N) : n &&& (2 ^ N - n) = lowN n := by
  obtain ⟨k, q, e1, e2⟩ := lowN_form n h0
  have e3 : n - 1 = 2 ^ k * (2 * q) + (2 ^ k - 1) := by
    have : 1 ≤ 2 ^ k := Nat.one_le_two_pow
    rw [Nat.mul_add, Nat.mul_one] at e2
    omega
  have hk : (2 ^ k - 1 : Nat) < 2 ^ k := by have : 1 ≤ 2 ^ k := Nat.one_le_two_pow; omega
  have e4 : 2 ^ N - n = 2 ^ N - ((n - 1) + 1) := by omega
  rw [e1, e4]
  apply Nat.eq_of_testBit_eq
  intro i
  rw [Nat.testBit_and, Nat.testBit_two_pow_sub_succ (by omega), Nat.testBit_two_pow, e3, Nat.testBit_two_pow_mul_add _ hk]
  conv => lhs; lhs; rw [e2]
  rw [Nat.testBit_two_pow_mul]
  by_cases h1 : i < k
  · have h2 : ¬ k = i := by omega
    simp [h2, show ¬ k ≤ i by omega]
  · by_cases h2 : k = i
    · subst h2
      have hkN : k < N := by
        rcases Nat.lt_or_ge k N with h3 | h3
        · exact h3
        · have h4 : (2 : Nat) ^ N ≤ 2 ^ k := Nat.pow_le_pow_right (by omega) h3
          have h5 := lowN_le n
          rw [e1] at h5
          omega
      simp [hkN, Nat.testBit_zero]
    · obtain ⟨d, rfl⟩ : ∃ d, i = k + (d + 1) := ⟨i - k - 1, by omega⟩
      rw [if_neg h1]
      simp only [h2, decide_false, show k + (d + 1) ≥ k by omega, decide_true, Bool.true_and, Nat.add_sub_cancel_left, Nat.testBit_succ]
      rw [show (2 * q + 1) / 2 = q by omega, show 2 * q / 2 = q by omega]
      cases q.testBit d <;> simp
theorem and_low (n : Nat) (h0 : n ≠ 0) (h : n < 9223372036854775808) : Go.bits .and .i64 (n : Int) (Go.IntKind.i64.wrap (-(n : Int))) = ((lowN n : Nat) : Int) := by
  have hw : Go.IntKind.i64.wrap (-(n : Int)) = -(n : Int) := by rw [Go.IntKind.wrap_i64]; omega
  rw [hw]
  have e1 : (BitVec.ofInt 64 (n : Int)).toNat = n := by rw [BitVec.toNat_ofInt]; omega
  have e2 : (BitVec.ofInt 64 (-(n : Int))).toNat = 2 ^ 64 - n := by rw [BitVec.toNat_ofInt]; omega
  have hl := lowN_le n
  show Go.IntKind.i64.wrap (((BitVec.ofInt 64 (n : Int)) &&& (BitVec.ofInt 64 (-(n : Int)))).toNat : Int) = _
  rw [BitVec.toNat_and, e1, e2, land_low 64 n h0 (by omega), Go.IntKind.wrap_i64]
  omega
/-! ### a tree that grows -/
theorem preL_snoc {l : List Int} (v : Int) {n : Nat} (h : n ≤ l.length) : preL (l ++ [v]) n = preL l n := by
  unfold preL
  rw [List.take_append_of_le_length h]
theorem treeL_snoc (l : List Int) (v : Int) : treeL (l ++ [v]) = treeL l ++ [v + preL l l.length - preL l (l.length + 1 - lowN (l.length + 1))] := by
  have hl : (l ++ [v]).length = l.length + 1 := by simp
  apply ext_getD (by rw [treeL_len, hl, List.length_append, treeL_len]; rfl)
  intro j hj
  rw [treeL_len, hl] at hj
  rw [treeL_at (by rw [hl]; exact hj)]
  by_cases h : j < l.length
  · rw [preL_snoc v (by omega), preL_snoc v (by have := lowN_le (j + 1); omega), show (treeL l ++ [v + preL l l.length - preL l (l.length + 1 - lowN (l.length + 1))]).getD j 0 = (treeL l).getD j 0 by rw [List.getD_eq_getElem?_getD, List.getElem?_append_left (by rw [treeL_len]; exact h), List.getD_eq_getElem?_getD], treeL_at h]
  · obtain rfl : j = l.length := by omega
    have h1 : (treeL l ++ [v + preL l l.length - preL l (l.length + 1 - lowN (l.length + 1))]).getD l.length 0 = v + preL l l.length - preL l (l.length + 1 - lowN (l.length + 1)) := by
      rw [List.getD_eq_getElem?_getD, List.getElem?_append_right (by rw [treeL_len]; exact Nat.le_refl _), treeL_len, Nat.sub_self]
      rfl
    have h2 : preL (l ++ [v]) (l.length + 1) = preL l l.length + v := by
      rw [preL_next (by rw [hl]; omega), preL_snoc v (Nat.le_refl _)]
      congr 1
      rw [List.getD_eq_getElem?_getD, List.getElem?_append_right (Nat.le_refl _), Nat.sub_self]
      rfl
    rw [h1, h2, preL_snoc v (by have := lowN_pos (n := l.length + 1) (by omega); omega)]
    omega
/-! ### the descent -/
/-- A number between two multiples of twice a power of two has that power as its lowest bit. -/
theorem low_mid {n s k : Nat} (hs : s = 2 ^ k) (h : 2 * s ∣ n) : lowN (n + s) = s := by
  obtain ⟨c, rfl⟩ := h
  have h00 : 1 ≤ s := by rw [hs]; exact Nat.one_le_two_pow
  have h0 : 2 * s * c + s ≠ 0 := by omega
  obtain ⟨k', q, e1, e2⟩ := lowN_form _ h0
  have e3 : 2 ^ k * (2 * c + 1) = 2 ^ k' * (2 * q + 1) := by
    rw [← e2, hs, Nat.mul_add, Nat.mul_one]
    congr 1
    rw [Nat.mul_comm 2 (2 ^ k), Nat.mul_assoc]
  rw [e1, hs]
  rcases Nat.lt_trichotomy k k' with h1 | h1 | h1
  · obtain ⟨d, rfl⟩ : ∃ d, k' = k + (d + 1) := ⟨k' - k - 1, by omega⟩
    rw [Nat.pow_add, Nat.mul_assoc] at e3
    have e4 := Nat.eq_of_mul_eq_mul_left (Nat.pow_pos (by omega)) e3
    rw [Nat.pow_succ, Nat.mul_comm (2 ^ d) 2, Nat.mul_assoc] at e4
    omega
  · rw [h1]
  · obtain ⟨d, rfl⟩ : ∃ d, k = k' + (d + 1) := ⟨k - k' - 1, by omega⟩
    rw [Nat.pow_add, Nat.mul_assoc] at e3
    have e4 := Nat.eq_of_mul_eq_mul_left (Nat.pow_pos (by omega)) e3
    rw [Nat.pow_succ, Nat.mul_comm (2 ^ d) 2, Nat.mul_assoc] at e4
    omega
/-- The number of the tree that a step of the descent looks at. -/
theorem tree_mid {l : List Int} {n s k : Nat} (hs : s = 2 ^ k) (h : 2 * s ∣ n) (hn : n + s ≤ l.length) : (treeL l).getD (n + s - 1) 0 = preL l (n + s) - preL l n := by
  have h1 : 1 ≤ s := by rw [hs]; exact Nat.one_le_two_pow
  rw [treeL_at (by omega), show n + s - 1 + 1 = n + s by omega, low_mid hs h, Nat.add_sub_cancel]
/-- The owner, by the sums ahead of it. -/
theorem own_is {l : List Int} (hz : ∀ z ∈ l, 0 ≤ z) {t : Int} {o : Nat} (h0 : 0 ≤ t) (ho : o < l.length) (h1 : preL l o ≤ t) (h2 : t < preL l (o + 1)) : ownV l t = (o : Int) ∧ ownE l t = 0 := by
  have hs : t < sumL l := Int.lt_of_lt_of_le h2 (preL_le hz _)
  obtain ⟨p, e1, e2, e3, e4, e5⟩ := own_at hz h0 hs
  have : p = o := by
    rcases Nat.lt_trichotomy p o with h | h | h
    · have := preL_mono hz (show p + 1 ≤ o by omega); omega
    · exact h
    · have := preL_mono hz (show o + 1 ≤ p by omega); omega
  subst this
  exact ⟨e2, e3⟩
theorem ownF_none : ∀ (l : List Int) (t : Int) (i : Nat), (∀ z ∈ l, 0 ≤ z) → sumL l ≤ t → ownF l t i = none
  | [], _, _, _, _ => rfl
  | x :: l, t, i, hz, h => by
    have h1 : x + sumL l ≤ t := h
    have h2 := sumL_nn (l := l) (fun z hz' => hz z (by simp [hz']))
    rw [ownF, if_neg (by omega)]
    exact ownF_none l (t - x) (i + 1) (fun z hz' => hz z (by simp [hz'])) (by omega)
theorem own_no {l : List Int} (hz : ∀ z ∈ l, 0 ≤ z) {t : Int} (h : sumL l ≤ t) : ownV l t = 0 ∧ ownE l t = 3 := by
  have := ownF_none l t 0 hz h
  exact ⟨by unfold ownV; rw [this], by unfold ownE; rw [this]⟩
/-! ### a tree that is built by pushing each number to its parent -/
theorem lowN_mul (a m : Nat) (h : m ≠ 0) : lowN (2 ^ a * m) = 2 ^ a * lowN m := by
  induction a with
  | zero => simp
  | succ a ih =>
    have h0 : 2 ^ a * m ≠ 0 := Nat.mul_ne_zero (Nat.ne_of_gt (Nat.pow_pos (by omega))) h
    rw [Nat.pow_succ, Nat.mul_comm (2 ^ a) 2, Nat.mul_assoc, lowN_even (by omega) (by omega), Nat.mul_div_cancel_left _ (by omega), ih, Nat.mul_assoc]
/-- The last number below M that was pushed into it, of the first k; else where M's own begin. -/
def covN (M : Nat) : Nat → Nat
  | 0 => M - lowN M
  | k + 1 => if k + 1 + lowN (k + 1) = M then k + 1 else covN M k
theorem child_in {M c : Nat} (hc : c ≠ 0) (h : c + lowN c = M) : M - lowN M < c ∧ c < M := by
  have h1 := lowN_pos hc
  have h2 : holdsP M (c + lowN c) := by rw [h]; exact holds_self (by omega)
  have h3 := holds_back hc h2
  exact ⟨h3.1, by omega⟩
theorem cov_low {M : Nat} : ∀ j, j ≤ M - lowN M → covN M j = M - lowN M
  | 0, _ => rfl
  | j + 1, h => by
    rw [covN, if_neg (fun e => by have := (child_in (by omega) e).1; omega)]
    exact cov_low j (by omega)
theorem cov_far {M : Nat} : ∀ d, covN M (M - 1 + d) = covN M (M - 1)
  | 0 => rfl
  | d + 1 => by
    rw [show M - 1 + (d + 1) = (M - 1 + d) + 1 by omega, covN]
    split
    · rename_i h
      have := (child_in (by omega) h).2
      omega
    · exact cov_far d
theorem cov_last {M : Nat} (h : M ≠ 0) : covN M (M - 1) = M - 1 := by
  rcases Nat.mod_two_eq_zero_or_one M with h2 | h2
  · obtain ⟨m, rfl⟩ : ∃ m, M = m + 2 := ⟨M - 2, by omega⟩
    rw [show m + 2 - 1 = m + 1 by omega, covN, if_pos (by rw [lowN_odd (by omega)])]
  · have h3 := cov_low (M := M) (M - 1) (by rw [lowN_odd h2]; omega)
    rw [h3, lowN_odd h2]
theorem cov_all {M k : Nat} (h : M ≠ 0) (hk : M ≤ k + 1) : covN M k = M - 1 := by
  obtain ⟨d, rfl⟩ : ∃ d, k = M - 1 + d := ⟨k - (M - 1), by omega⟩
  rw [cov_far, cov_last h]
/-- Ahead of a number that is pushed, its parent has what lies ahead of that number's own. -/
theorem cov_child {K M : Nat} (hK : K ≠ 0) (h : K + lowN K = M) : covN M (K - 1) = K - lowN K := by
  have hl := lowN_le K
  have hp := lowN_pos hK
  -- nothing between
  have hmid : ∀ d, K - lowN K + d < K → covN M (K - lowN K + d) = covN M (K - lowN K) := by
    intro d
    induction d with
    | zero => intro _; rfl
    | succ d ih =>
      intro hd
      rw [show K - lowN K + (d + 1) = (K - lowN K + d) + 1 by omega, covN, if_neg, ih (by omega)]
      intro e
      have h1 : holdsP K (K - lowN K + d + 1) := ⟨by omega, by omega⟩
      have h2 := holds_next (by omega) h1 (by omega)
      rw [e] at h2
      have := h2.2
      omega
  have h1 := hmid (lowN K - 1) (by omega)
  rw [show K - lowN K + (lowN K - 1) = K - 1 by omega] at h1
  rw [h1]
  obtain ⟨a, q, e1, e2⟩ := lowN_form K hK
  have ha : 1 ≤ 2 ^ a := Nat.one_le_two_pow
  have e3 : K - lowN K = 2 ^ (a + 1) * q := by
    rw [e1]
    conv => lhs; lhs; rw [e2]
    rw [Nat.mul_add, Nat.mul_one, Nat.add_sub_cancel, Nat.pow_succ, Nat.mul_assoc]
  have e4 : M = 2 ^ (a + 1) * (q + 1) := by
    rw [← h, e1]
    conv => lhs; lhs; rw [e2]
    rw [Nat.pow_succ, Nat.mul_add, Nat.mul_add, Nat.mul_one, Nat.mul_one, ← Nat.mul_assoc]
    omega
  rw [e3]
  rcases Nat.mod_two_eq_zero_or_one q with h2 | h2
  · have e5 : lowN M = 2 ^ (a + 1) := by rw [e4, lowN_mul _ _ (by omega), lowN_odd (by omega), Nat.mul_one]
    have e6 : M - lowN M = 2 ^ (a + 1) * q := by rw [e5, e4, Nat.mul_add, Nat.mul_one, Nat.add_sub_cancel]
    rw [← e6]
    exact cov_low _ (Nat.le_refl _)
  · have hq : q ≠ 0 := by omega
    have h0 : 2 ^ (a + 1) * q ≠ 0 := Nat.mul_ne_zero (Nat.ne_of_gt (Nat.pow_pos (by omega))) hq
    obtain ⟨c, hc⟩ : ∃ c, 2 ^ (a + 1) * q = c + 1 := ⟨2 ^ (a + 1) * q - 1, by omega⟩
    have e5 : lowN (2 ^ (a + 1) * q) = 2 ^ (a + 1) := by rw [lowN_mul _ _ hq, lowN_odd h2, Nat.mul_one]
    rw [hc] at e5 ⊢
    rw [covN, if_pos]
    rw [e5, ← hc, e4, Nat.mul_add, Nat.mul_one]
/-- The numbers behind so many pushes. -/
def bldF (l : List Int) (k : Nat) : List Int := (List.range l.length).map fun m => l.getD m 0 + (preL l (covN (m + 1) k) - preL l (m + 1 - lowN (m + 1)))
theorem bldF_len (l : List Int) (k : Nat) : (bldF l k).length = l.length := by simp [bldF]
theorem bldF_at {l : List Int} {m : Nat} (k : Nat) (h : m < l.length) : (bldF l k).getD m 0 = l.getD m 0 + (preL l (covN (m + 1) k) - preL l (m + 1 - lowN (m + 1))) := by simp [bldF, h]
theorem bldF_zero (l : List Int) : bldF l 0 = l := by
  apply ext_getD (bldF_len l 0)
  intro j hj
  rw [bldF_len] at hj
  rw [bldF_at 0 hj, covN, Int.sub_self, Int.add_zero]
theorem bldF_done {l : List Int} {k m : Nat} (h : m < l.length) (hk : m ≤ k) : (bldF l k).getD m 0 = (treeL l).getD m 0 := by
  rw [bldF_at k h, treeL_at h, cov_all (by omega) (by omega), Nat.add_sub_cancel, preL_next h]
  omega
theorem bldF_all (l : List Int) : bldF l l.length = treeL l := by
  apply ext_getD (by rw [bldF_len, treeL_len])
  intro j hj
  rw [bldF_len] at hj
  exact bldF_done hj (by omega)
/-- A number whose parent lies beyond the last one is pushed nowhere. -/
theorem bldF_out {l : List Int} {k : Nat} (h : l.length < k + 1 + lowN (k + 1)) : bldF l (k + 1) = bldF l k := by
  apply ext_getD (by rw [bldF_len, bldF_len])
  intro j hj
  rw [bldF_len] at hj
  rw [bldF_at _ hj, bldF_at _ hj, covN, if_neg (by omega)]
theorem bldF_next {l : List Int} {k : Nat} (hk : k < l.length) (h : k + 1 + lowN (k + 1) ≤ l.length) : (bldF l k).set (k + lowN (k + 1)) ((bldF l k).getD (k + lowN (k + 1)) 0 + (bldF l k).getD k 0) = bldF l (k + 1) := by
  have hp := lowN_pos (n := k + 1) (by omega)
  apply ext_getD (by rw [List.length_set, bldF_len, bldF_len])
  intro j hj
  rw [List.length_set, bldF_len] at hj
  rw [bldF_at (k + 1) hj, covN]
  by_cases hjo : j = k + lowN (k + 1)
  · subst hjo
    rw [List.getD_eq_getElem?_getD, List.getElem?_set_self (by rw [bldF_len]; exact hj)]
    show (bldF l k).getD (k + lowN (k + 1)) 0 + (bldF l k).getD k 0 = _
    rw [bldF_at k hj, bldF_done hk (Nat.le_refl _), treeL_at hk, if_pos (by omega)]
    have := cov_child (K := k + 1) (M := k + lowN (k + 1) + 1) (by omega) (by omega)
    rw [Nat.add_sub_cancel] at this
    rw [this]
    omega
  · rw [List.getD_eq_getElem?_getD, List.getElem?_set_ne (fun h => hjo h.symm), ← List.getD_eq_getElem?_getD, bldF_at k hj, if_neg (by omega)]
end Go.Proofs.YtilccjjagdedaaaDoor

/-
  Tables of stakes in plain Lean: the build begins as it should, ends as it should; each place owns its stake as often as there are places.
  Conditions: those that each theorem names.
-/
import Derived.Test.YtkgajcifanobnaaTabP
set_option maxRecDepth 100000
set_option linter.unusedVariables false
set_option linter.unusedSimpArgs false
namespace Go.Proofs.Ytkgajcifanobnaa
theorem sl_perm (T : Int) (hs : List Int) : ∀ k : Nat, (smL T hs k ++ lgL T hs k).Perm ((List.range k).map Int.ofNat)
  | 0 => List.Perm.refl _
  | k + 1 => by
    rw [smL_succ, lgL_succ, List.range_succ, List.map_append]
    have h := sl_perm T hs k
    have h2 : ((k : Int) :: (smL T hs k ++ lgL T hs k)).Perm ((List.range k).map Int.ofNat ++ [Int.ofNat k]) := (List.Perm.cons _ h).trans (List.perm_append_comm (l₁ := [(k : Int)]))
    split
    · exact (perm_s _ _ _).trans h2
    · exact (perm_l _ _ _).trans h2
theorem hasL_len (l : List Int) : (hasL l).length = l.length := by simp [hasL]
theorem hasL_at {l : List Int} {i : Nat} (h : i < l.length) : (hasL l).getD i 0 = (l.length : Int) * l.getD i 0 := by simp [hasL, h]
theorem cells_at {T : Int} {n k : Nat} (h : k < n) : cellL (cellsL T n) k = (T, (k : Int)) := by simp [cellL, cellsL, h]
theorem cells_len (T : Int) (n : Nat) : (cellsL T n).length = n := by simp [cellsL]
theorem sumL_mul (c : Int) : ∀ l : List Int, sumL (l.map fun x => c * x) = c * sumL l
  | [] => by simp [sumL]
  | x :: l => by
    show c * x + sumL (l.map _) = c * (x + sumL l)
    rw [sumL_mul c l, Int.mul_add]
theorem sum_range (hs : List Int) : ∀ k : Nat, k ≤ hs.length → sumL (((List.range k).map Int.ofNat).map fun a => hs.getD a.toNat 0) = sumL (hs.take k)
  | 0, _ => rfl
  | k + 1, h => by
    rw [List.range_succ, List.map_append, List.map_append, sumL_app, sum_range hs k (by omega), sumL_take (by omega)]
    simp [sumL]
theorem owns_init {T : Int} {n i : Nat} (hi : i < n) : ∀ k : Nat, k ≤ n → ownsN T (cellsL T n) i k = if i < k then T else 0
  | 0, _ => by simp [ownsN]
  | k + 1, h => by
    unfold ownsN
    rw [owns_init hi k (by omega), cells_at (by omega), ownK_self]
    by_cases h1 : k = i
    · subst h1; simp
    · by_cases h2 : i < k
      · rw [if_pos h2, if_neg (by omega), if_pos (by omega)]; omega
      · rw [if_neg h2, if_neg (by omega), if_neg (by omega)]; omega
theorem getD_le {l : List Int} (h : ∀ z ∈ l, 0 ≤ z) {i : Nat} (hi : i < l.length) : 0 ≤ l.getD i 0 ∧ l.getD i 0 ≤ sumL l := by
  have h0 := h _ (getD_in hi)
  have h1 := sumL_take hi
  have h2 := sumL_le h (i + 1)
  have h3 := sumL_nn (l := l.take i) (fun z hz => h z (List.mem_of_mem_take hz))
  exact ⟨h0, by omega⟩
theorem mul_le_of {n x T : Int} (hn : 0 ≤ n) (h : x ≤ T) : n * x ≤ n * T := Int.mul_le_mul_of_nonneg_left h hn
theorem ABI.init {l : List Int} (hz : ∀ z ∈ l, 0 ≤ z) (h0 : 0 < sumL l) (hs : (l.length : Int) * sumL l < 9223372036854775808) : ABI (sumL l) l (abInit (sumL l) l) := by
  have P := sl_perm (sumL l) (hasL l) l.length
  have ND : ((List.range l.length).map Int.ofNat).Nodup := by
    exact List.pairwise_map.2 (List.Pairwise.imp (fun h e => h (by injection e)) List.nodup_range)
  have hb : ∀ i, i < l.length → 0 ≤ (hasL l).getD i 0 ∧ (hasL l).getD i 0 < 9223372036854775808 := fun i hi => by
    rw [hasL_at hi]
    have h1 := getD_le hz hi
    have h2 := mul_le_of (n := (l.length : Int)) (by omega) h1.2
    exact ⟨Int.mul_nonneg (by omega) h1.1, by omega⟩
  have memS : ∀ a ∈ smL (sumL l) (hasL l) l.length, ∃ i : Nat, i < l.length ∧ a = (i : Int) ∧ (hasL l).getD i 0 < sumL l := fun a ha => by
    unfold smL at ha
    obtain ⟨i, hi, rfl⟩ := List.mem_map.1 ha
    obtain ⟨h1, h2⟩ := List.mem_filter.1 hi
    exact ⟨i, List.mem_range.1 h1, rfl, of_decide_eq_true h2⟩
  have memL : ∀ a ∈ lgL (sumL l) (hasL l) l.length, ∃ i : Nat, i < l.length ∧ a = (i : Int) ∧ ¬ (hasL l).getD i 0 < sumL l := fun a ha => by
    unfold lgL at ha
    obtain ⟨i, hi, rfl⟩ := List.mem_map.1 ha
    obtain ⟨h1, h2⟩ := List.mem_filter.1 hi
    exact ⟨i, List.mem_range.1 h1, rfl, by simpa using h2⟩
  have memA : ∀ i : Nat, (i : Int) ∈ smL (sumL l) (hasL l) l.length ++ lgL (sumL l) (hasL l) l.length ↔ i < l.length := fun i => by
    rw [P.mem_iff, List.mem_map]
    constructor
    · rintro ⟨j, hj, e⟩
      have : j = i := by injection e
      exact this ▸ List.mem_range.1 hj
    · exact fun h => ⟨i, List.mem_range.2 h, rfl⟩
  refine ⟨hasL_len l, cells_len _ _, P.nodup_iff.2 ND, ?_, ?_, ?_, ?_, ?_, ?_⟩
  · intro a ha
    obtain ⟨i, hi, rfl, h1⟩ := memS a ha
    exact ⟨by omega, by omega, (hb i hi).1, h1⟩
  · intro a ha
    obtain ⟨i, hi, rfl, h1⟩ := memL a ha
    exact ⟨by omega, by omega, by rw [Int.toNat_natCast]; show sumL l ≤ (hasL l).getD i 0; omega, (hb i hi).2⟩
  · intro k hk
    show 0 ≤ (cellL (cellsL _ _) k).1 ∧ _
    rw [show cellL (abInit (sumL l) l).ts k = (sumL l, (k : Int)) from cells_at hk, cells_at hk]
    exact ⟨by show 0 ≤ sumL l; omega, Int.le_refl _, by show 0 ≤ (k : Int); omega, by show (k : Int) < _; omega⟩
  · intro a ha
    exact cells_at ((memA a).1 ha)
  · intro i hi
    rw [if_pos (show (i : Int) ∈ (abInit (sumL l) l).sm ++ (abInit (sumL l) l).lg from (memA i).2 hi)]
    show ownsN _ (cellsL _ _) i _ = _ + (_ - (hasL l).getD i 0)
    rw [owns_init hi _ (Nat.le_refl _), if_pos hi, hasL_at hi]
    omega
  · have q := sumL_perm (P.map fun a => (hasL l).getD a.toNat 0)
    show sumL ((smL _ _ _ ++ lgL _ _ _).map fun a => (hasL l).getD a.toNat 0) = _ * (((smL (sumL l) (hasL l) l.length).length : Int) + ((lgL (sumL l) (hasL l) l.length).length : Int))
    have hl := sl_len (sumL l) (hasL l) l.length
    rw [q, sum_range _ _ (by rw [hasL_len]; exact Nat.le_refl _), show (hasL l).take l.length = hasL l from List.take_of_length_le (by rw [hasL_len]; exact Nat.le_refl _)]
    unfold hasL
    rw [sumL_mul, Int.mul_comm]
    congr 1
    unfold hasL at hl
    omega
theorem ABI.run {T : Int} {l : List Int} : ∀ (f : Nat) {s : AB}, ABI T l s → s.sm.length + s.lg.length ≤ f → ABI T l (abRun T f s) ∧ ((abRun T f s).sm.length = 0 ∨ (abRun T f s).lg.length = 0)
  | 0, s, I, h => ⟨I, by show s.sm.length = 0 ∨ _; omega⟩
  | f + 1, s, I, h => by
    by_cases h1 : s.sm.length = 0 ∨ s.lg.length = 0
    · rw [abRun_stop h1]; exact ⟨I, h1⟩
    · rw [abRun_go (by omega) (by omega)]
      have := abStep_len (T := T) (s := s) (by omega) (by omega)
      exact ABI.run f (I.step (by omega) (by omega)) (by omega)
theorem all_eq {T : Int} : ∀ {l : List Int}, (∀ z ∈ l, T ≤ z) → sumL l = T * (l.length : Int) → ∀ z ∈ l, z = T
  | [], _, _, z, hz => by cases hz
  | x :: l, h, hs, z, hz => by
    have h1 := h x (by simp)
    have h2 : T * (l.length : Int) ≤ sumL l := by
      have h3 : ∀ m : List Int, (∀ z ∈ m, T ≤ z) → T * (m.length : Int) ≤ sumL m := fun m => by
        induction m with
        | nil => intro _; simp [sumL]
        | cons y m ih =>
          intro hm
          have h4 := ih (fun z hz => hm z (by simp [hz]))
          have h5 := hm y (by simp)
          show T * ((m.length + 1 : Nat) : Int) ≤ y + sumL m
          rw [Int.natCast_add, Int.mul_add]
          simp
          omega
      exact h3 l (fun z hz => h z (by simp [hz]))
    have h3 : x + sumL l = T * (l.length : Int) + T := by
      have : sumL (x :: l) = x + sumL l := rfl
      rw [← this, hs]
      show T * ((l.length + 1 : Nat) : Int) = _
      rw [Int.natCast_add, Int.mul_add]
      simp
    rcases List.mem_cons.1 hz with rfl | hz
    · omega
    · exact all_eq (l := l) (fun z hz => h z (by simp [hz])) (by omega) z hz
theorem sum_lt {T : Int} : ∀ {l : List Int}, l ≠ [] → (∀ z ∈ l, z < T) → sumL l < T * (l.length : Int)
  | [x], _, h => by have := h x (by simp); show x + 0 < T * 1; omega
  | x :: y :: l, _, h => by
    have h1 := sum_lt (T := T) (l := y :: l) (by simp) (fun z hz => h z (by simp [List.mem_cons.1 hz]))
    have h2 := h x (by simp)
    show x + sumL (y :: l) < T * (((y :: l).length + 1 : Nat) : Int)
    rw [Int.natCast_add, Int.mul_add]
    simp at h1 ⊢
    omega
/-- At the end each place that is left has just the sum. -/
theorem ABI.fin {T : Int} {l : List Int} {s : AB} (I : ABI T l s) (h : s.sm.length = 0 ∨ s.lg.length = 0) : ∀ i : Nat, i < l.length → ownsN T s.ts i l.length = (l.length : Int) * l.getD i 0 := by
  intro i hi
  rw [I.ow i hi]
  have S := I.su
  have key : ∀ x ∈ s.sm ++ s.lg, s.has.getD x.toNat 0 = T := by
    have hsm : s.sm = [] := by
      rcases h with h | h
      · exact List.eq_nil_of_length_eq_zero h
      · have hl := List.eq_nil_of_length_eq_zero h
        rw [hl] at S
        simp only [List.append_nil, List.length_nil] at S
        by_cases hn : s.sm = []
        · exact hn
        · have := sum_lt (T := T) (l := s.sm.map fun a => s.has.getD a.toNat 0) (by simpa using hn) (fun z hz => by
            obtain ⟨a, ha, rfl⟩ := List.mem_map.1 hz
            exact (I.sm a ha).2.2.2)
          rw [List.length_map, S] at this
          simp at this
    rw [hsm] at S ⊢
    simp only [List.nil_append, List.length_nil] at S ⊢
    intro x hx
    exact all_eq (T := T) (l := s.lg.map fun a => s.has.getD a.toNat 0) (fun z hz => by
      obtain ⟨a, ha, rfl⟩ := List.mem_map.1 hz
      exact (I.lg a ha).2.2.1) (by rw [List.length_map, S]; simp) _ (List.mem_map.2 ⟨x, hx, rfl⟩)
  by_cases hm : (i : Int) ∈ s.sm ++ s.lg
  · rw [if_pos hm]
    have := key _ hm
    rw [Int.toNat_natCast] at this
    omega
  · rw [if_neg hm]; omega
theorem nodup_len : ∀ (n : Nat) (l : List Int), l.Nodup → (∀ z ∈ l, 0 ≤ z ∧ z < (n : Int)) → l.length ≤ n
  | 0, [], _, _ => Nat.le_refl _
  | 0, x :: l, _, h => by have := h x (by simp); omega
  | n + 1, l, hd, h => by
    by_cases hn : (n : Int) ∈ l
    · have hp := List.perm_cons_erase hn
      have hd2 := (hp.nodup_iff).1 hd
      have hr := List.nodup_cons.1 hd2
      have := nodup_len n (l.erase (n : Int)) hr.2 (fun z hz => by
        have h1 := h z (List.mem_of_mem_erase hz)
        have h2 : z ≠ (n : Int) := by rintro rfl; exact hr.1 hz
        omega)
      have h3 := hp.length_eq
      simp at h3
      omega
    · have := nodup_len n l hd (fun z hz => by
        have h1 := h z hz
        have h2 : z ≠ (n : Int) := by rintro rfl; exact hn hz
        omega)
      omega
theorem ABI.nd_len {T : Int} {l : List Int} {s : AB} (I : ABI T l s) : s.sm.length + s.lg.length ≤ l.length := by
  have := nodup_len l.length (s.sm ++ s.lg) I.nd (fun z hz => by
    rcases List.mem_append.1 hz with hz | hz
    · exact ⟨(I.sm z hz).1, (I.sm z hz).2.1⟩
    · exact ⟨(I.lg z hz).1, (I.lg z hz).2.1⟩)
  rwa [List.length_append] at this
/-- The last ones of both lists, and what a step makes. -/
theorem ABI.tops {T : Int} {l : List Int} {s : AB} (I : ABI T l s) (h : s.sm.length ≠ 0) (h2 : s.lg.length ≠ 0) : ∃ ia ib : Nat, topL s.sm = (ia : Int) ∧ topL s.lg = (ib : Int) ∧ ia < l.length ∧ ib < l.length ∧ 0 ≤ s.has.getD ia 0 ∧ s.has.getD ia 0 < T ∧ T ≤ s.has.getD ib 0 ∧ s.has.getD ib 0 < 9223372036854775808 ∧
    (abStep T s).has = s.has.set ib (s.has.getD ib 0 - (T - s.has.getD ia 0)) ∧ (abStep T s).ts = s.ts.set ia (s.has.getD ia 0, (ib : Int)) ∧
    (abStep T s).sm = (if s.has.getD ib 0 - (T - s.has.getD ia 0) < T then s.sm.take (s.sm.length - 1) ++ [(ib : Int)] else s.sm.take (s.sm.length - 1)) ∧
    (abStep T s).lg = (if s.has.getD ib 0 - (T - s.has.getD ia 0) < T then s.lg.take (s.lg.length - 1) else s.lg.take (s.lg.length - 1) ++ [(ib : Int)]) := by
  have am : topL s.sm ∈ s.sm := by have := top_split h; rw [this]; simp [topL]
  have bm : topL s.lg ∈ s.lg := by have := top_split h2; rw [this]; simp [topL]
  obtain ⟨a0, a1, a2, a3⟩ := I.sm _ am
  obtain ⟨b0, b1, b2, b3⟩ := I.lg _ bm
  unfold abStep abH
  obtain ⟨ia, ha⟩ := Int.eq_ofNat_of_zero_le a0
  obtain ⟨ib, hb⟩ := Int.eq_ofNat_of_zero_le b0
  rw [ha] at a1 a2 a3
  rw [hb] at b1 b2 b3
  rw [ha, hb]
  exact ⟨ia, ib, rfl, rfl, by omega, by omega, a2, a3, b2, b3, rfl, rfl, rfl, rfl⟩
/-! ### what a build answers -/
theorem tbE_none : tbE [] = 10 := rfl
theorem tbE_big {l : List Int} (h : l.length ≠ 0) (h2 : ¬ sumL l < 9223372036854775808) : tbE l = 11 := by unfold tbE; rw [if_neg h, if_neg h2]
theorem tbE_zero {l : List Int} (h : l.length ≠ 0) (h2 : sumL l < 9223372036854775808) (h3 : sumL l = 0) : tbE l = 10 := by unfold tbE; rw [if_neg h, if_pos h2, if_pos h3]
theorem tbE_mul {l : List Int} (h : l.length ≠ 0) (h2 : sumL l < 9223372036854775808) (h3 : sumL l ≠ 0) (h4 : ¬ (l.length : Int) * sumL l < 9223372036854775808) : tbE l = 11 := by unfold tbE; rw [if_neg h, if_pos h2, if_neg h3, if_neg h4]
theorem tbE_ok {l : List Int} (h : l.length ≠ 0) (h2 : sumL l < 9223372036854775808) (h3 : sumL l ≠ 0) (h4 : (l.length : Int) * sumL l < 9223372036854775808) : tbE l = 0 := by unfold tbE; rw [if_neg h, if_pos h2, if_neg h3, if_pos h4]
theorem tbE_iff {l : List Int} : tbE l = 0 ↔ (l.length ≠ 0 ∧ sumL l < 9223372036854775808 ∧ sumL l ≠ 0 ∧ (l.length : Int) * sumL l < 9223372036854775808) := by
  constructor
  · intro h
    unfold tbE at h
    split at h
    · cases h
    · split at h
      · split at h
        · cases h
        · split at h
          · exact ⟨by assumption, by assumption, by assumption, by assumption⟩
          · cases h
      · cases h
  · exact fun ⟨a, b, c, d⟩ => tbE_ok a b c d
theorem tb_no {l : List Int} (h : tbE l ≠ 0) : tbT l = 0 ∧ tbC l = [] := ⟨if_neg h, if_neg h⟩
theorem tb_abi {l : List Int} (hz : ∀ z ∈ l, 0 ≤ z) (h : tbE l = 0) : tbT l = sumL l ∧ ABI (sumL l) l (abRun (sumL l) l.length (abInit (sumL l) l)) ∧ tbC l = (abRun (sumL l) l.length (abInit (sumL l) l)).ts ∧ ((abRun (sumL l) l.length (abInit (sumL l) l)).sm.length = 0 ∨ (abRun (sumL l) l.length (abInit (sumL l) l)).lg.length = 0) := by
  obtain ⟨h1, h2, h3, h4⟩ := tbE_iff.1 h
  have h5 := sumL_nn hz
  have I := ABI.init hz (by omega) h4
  have R := ABI.run l.length I (by have := sl_len (sumL l) (hasL l) l.length; show (smL _ _ _).length + (lgL _ _ _).length ≤ _; omega)
  exact ⟨if_pos h, R.1, if_pos h, R.2⟩
/-- The table of stakes may be; its cells are as many, its numbers in range; each place owns its stake as often as there are places. -/
theorem tb_right {l : List Int} (hz : ∀ z ∈ l, 0 ≤ z) (h : tbE l = 0) : (tbC l).length = l.length ∧ tabR (tbT l) (tbC l) = true ∧ (∀ k, k < l.length → 0 ≤ (cellL (tbC l) k).1) ∧ ∀ i : Nat, i < l.length → ownsN (tbT l) (tbC l) i l.length = (l.length : Int) * l.getD i 0 := by
  obtain ⟨h1, h2, h3, h4⟩ := tbE_iff.1 h
  obtain ⟨e1, I, e2, hf⟩ := tb_abi hz h
  have h5 := sumL_nn hz
  rw [e1, e2]
  refine ⟨I.tn, tabR_iff.2 ⟨by rw [I.tn]; omega, by omega, by rw [I.tn]; exact h4, fun k hk => ?_⟩, fun k hk => (I.ce k hk).1, fun i hi => I.fin hf i hi⟩
  rw [I.tn] at hk ⊢
  exact (I.ce k hk).2
end Go.Proofs.Ytkgajcifanobnaa

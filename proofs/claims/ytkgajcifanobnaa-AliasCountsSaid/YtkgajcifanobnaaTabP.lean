/-
  Tables of stakes in plain Lean: what one may be, what it tells, how it is built, and that each place owns its stake as often as there are places.
  Conditions: those that each theorem names.
-/
import Derived.Test.YtkgajcifanobnaaSafP
set_option maxRecDepth 100000
set_option linter.unusedVariables false
set_option linter.unusedSimpArgs false
namespace Go.Proofs.Ytkgajcifanobnaa
/-! ### what a table tells -/
def cellL (ts : List (Int × Int)) (k : Nat) : Int × Int := ts.getD k (0, 0)
def tabR (T : Int) (ts : List (Int × Int)) : Bool := decide (0 < ts.length ∧ 0 < T ∧ (ts.length : Int) * T < 9223372036854775808 ∧ ∀ k, k < ts.length → (cellL ts k).1 ≤ T ∧ 0 ≤ (cellL ts k).2 ∧ (cellL ts k).2 < ts.length)
def tabZ (T : Int) (ts : List (Int × Int)) : Int := if tabR T ts = true then (ts.length : Int) * T else 0
def lkE (T : Int) (ts : List (Int × Int)) (c u : Int) : Int := if tabR T ts = true then (if 0 ≤ c ∧ c < ts.length ∧ u < T then 0 else 3) else 1
def lkV (T : Int) (ts : List (Int × Int)) (c u : Int) : Int := if lkE T ts c u = 0 then (if u < (cellL ts c.toNat).1 then c else (cellL ts c.toNat).2) else 0
def owE (T : Int) (ts : List (Int × Int)) (u : Int) : Int := if tabR T ts = true then (if u < (ts.length : Int) * T then 0 else 3) else 1
def owV (T : Int) (ts : List (Int × Int)) (u : Int) : Int := if owE T ts u = 0 then lkV T ts (u / T) (u % T) else 0
/-- How often the column k has the place i. -/
def ownK (T i : Int) (k : Nat) (p : Int × Int) : Int := (if (k : Int) = i then p.1 else 0) + (if p.2 = i then T - p.1 else 0)
def ownsN (T : Int) (ts : List (Int × Int)) (i : Int) : Nat → Int
  | 0 => 0
  | k + 1 => ownsN T ts i k + ownK T i k (cellL ts k)
def osE (T : Int) (ts : List (Int × Int)) (i : Int) : Int := if tabR T ts = true then (if 0 ≤ i ∧ i < ts.length then 0 else 3) else 1
def osV (T : Int) (ts : List (Int × Int)) (i : Int) : Int := if osE T ts i = 0 then ownsN T ts i ts.length else 0
theorem tabR_iff {T : Int} {ts : List (Int × Int)} : tabR T ts = true ↔ (0 < ts.length ∧ 0 < T ∧ (ts.length : Int) * T < 9223372036854775808 ∧ ∀ k, k < ts.length → (cellL ts k).1 ≤ T ∧ 0 ≤ (cellL ts k).2 ∧ (cellL ts k).2 < ts.length) := by unfold tabR; exact decide_eq_true_iff
theorem cellL_mem {ts : List (Int × Int)} {k : Nat} (h : k < ts.length) : cellL ts k ∈ ts := by
  unfold cellL
  rw [List.getD_eq_getElem?_getD, List.getElem?_eq_getElem h]
  exact List.getElem_mem h
theorem cellL_set {ts : List (Int × Int)} {a : Nat} {p : Int × Int} (h : a < ts.length) (k : Nat) : cellL (ts.set a p) k = if k = a then p else cellL ts k := by
  unfold cellL
  simp only [List.getD_eq_getElem?_getD, List.getElem?_set]
  split
  · subst_vars; simp [h]
  · rw [if_neg (by omega)]
theorem ownK_in {T i : Int} {k : Nat} {p : Int × Int} (h0 : 0 ≤ p.1) (h1 : p.1 ≤ T) : 0 ≤ ownK T i k p ∧ ownK T i k p ≤ T := by
  unfold ownK
  split <;> split <;> omega
theorem ownsN_in {T i : Int} {ts : List (Int × Int)} : ∀ k : Nat, (∀ j, j < k → 0 ≤ (cellL ts j).1 ∧ (cellL ts j).1 ≤ T) → 0 ≤ ownsN T ts i k ∧ ownsN T ts i k ≤ (k : Int) * T
  | 0, _ => by simp [ownsN]
  | k + 1, h => by
    have h1 := ownsN_in (i := i) k (fun j hj => h j (by omega))
    have h2 := ownK_in (i := i) (k := k) (h k (by omega)).1 (h k (by omega)).2
    have h3 : ((k + 1 : Nat) : Int) * T = (k : Int) * T + T := by rw [Int.natCast_add, Int.add_mul]; simp
    unfold ownsN
    omega
theorem ownsN_set {T i : Int} {ts : List (Int × Int)} {a : Nat} {p : Int × Int} (ha : a < ts.length) : ∀ k : Nat, ownsN T (ts.set a p) i k = ownsN T ts i k + (if a < k then ownK T i a p - ownK T i a (cellL ts a) else 0)
  | 0 => by simp [ownsN]
  | k + 1 => by
    unfold ownsN
    rw [ownsN_set ha k, cellL_set ha]
    by_cases h : k = a
    · subst h
      rw [if_pos rfl, if_neg (by omega), if_pos (by omega)]
      omega
    · rw [if_neg h]
      by_cases h2 : a < k
      · rw [if_pos h2, if_pos (by omega)]; omega
      · rw [if_neg h2, if_neg (by omega)]; omega
/-! ### how it is built -/
structure AB where
  has : List Int
  ts : List (Int × Int)
  sm : List Int
  lg : List Int
def topL (l : List Int) : Int := l.getD (l.length - 1) 0
def abH (T : Int) (s : AB) : Int := s.has.getD (topL s.lg).toNat 0 - (T - s.has.getD (topL s.sm).toNat 0)
def abStep (T : Int) (s : AB) : AB where
  has := s.has.set (topL s.lg).toNat (abH T s)
  ts := s.ts.set (topL s.sm).toNat (s.has.getD (topL s.sm).toNat 0, topL s.lg)
  sm := if abH T s < T then s.sm.take (s.sm.length - 1) ++ [topL s.lg] else s.sm.take (s.sm.length - 1)
  lg := if abH T s < T then s.lg.take (s.lg.length - 1) else s.lg.take (s.lg.length - 1) ++ [topL s.lg]
def abRun (T : Int) : Nat → AB → AB
  | 0, s => s
  | f + 1, s => if s.sm.length = 0 ∨ s.lg.length = 0 then s else abRun T f (abStep T s)
def smL (T : Int) (hs : List Int) (k : Nat) : List Int := ((List.range k).filter fun i => decide (hs.getD i 0 < T)).map Int.ofNat
def lgL (T : Int) (hs : List Int) (k : Nat) : List Int := ((List.range k).filter fun i => !decide (hs.getD i 0 < T)).map Int.ofNat
def hasL (l : List Int) : List Int := l.map fun x => (l.length : Int) * x
def cellsL (T : Int) (n : Nat) : List (Int × Int) := (List.range n).map fun (i : Nat) => (T, (i : Int))
def abInit (T : Int) (l : List Int) : AB := ⟨hasL l, cellsL T l.length, smL T (hasL l) l.length, lgL T (hasL l) l.length⟩
def tbE (l : List Int) : Int := if l.length = 0 then 10 else if sumL l < 9223372036854775808 then (if sumL l = 0 then 10 else if (l.length : Int) * sumL l < 9223372036854775808 then 0 else 11) else 11
def tbT (l : List Int) : Int := if tbE l = 0 then sumL l else 0
def tbC (l : List Int) : List (Int × Int) := if tbE l = 0 then (abRun (sumL l) l.length (abInit (sumL l) l)).ts else []
theorem smL_succ (T : Int) (hs : List Int) (k : Nat) : smL T hs (k + 1) = if hs.getD k 0 < T then smL T hs k ++ [(k : Int)] else smL T hs k := by
  unfold smL
  rw [List.range_succ, List.filter_append, List.map_append]
  by_cases h : hs.getD k 0 < T
  · rw [if_pos h, List.filter_cons_of_pos (by simpa using h)]; rfl
  · rw [if_neg h, List.filter_cons_of_neg (by simpa using h)]; simp
theorem lgL_succ (T : Int) (hs : List Int) (k : Nat) : lgL T hs (k + 1) = if hs.getD k 0 < T then lgL T hs k else lgL T hs k ++ [(k : Int)] := by
  unfold lgL
  rw [List.range_succ, List.filter_append, List.map_append]
  by_cases h : hs.getD k 0 < T
  · rw [if_pos h, List.filter_cons_of_neg (by simpa using h)]; simp
  · rw [if_neg h, List.filter_cons_of_pos (by simpa using h)]; rfl
theorem sl_len (T : Int) (hs : List Int) : ∀ k : Nat, (smL T hs k).length + (lgL T hs k).length = k
  | 0 => rfl
  | k + 1 => by
    have := sl_len T hs k
    rw [smL_succ, lgL_succ]
    split <;> simp <;> omega
theorem abRun_stop {T : Int} {s : AB} (h : s.sm.length = 0 ∨ s.lg.length = 0) : ∀ f, abRun T f s = s
  | 0 => rfl
  | f + 1 => by unfold abRun; rw [if_pos h]
theorem abRun_go {T : Int} {s : AB} (h : s.sm.length ≠ 0) (h2 : s.lg.length ≠ 0) (f : Nat) : abRun T (f + 1) s = abRun T f (abStep T s) := by
  conv => lhs; unfold abRun
  rw [if_neg (by omega)]
theorem abStep_len {T : Int} {s : AB} (h : s.sm.length ≠ 0) (h2 : s.lg.length ≠ 0) : (abStep T s).sm.length + (abStep T s).lg.length + 1 = s.sm.length + s.lg.length := by
  unfold abStep
  dsimp only
  split <;> simp <;> omega
theorem top_split {l : List Int} (h : l.length ≠ 0) : l = l.take (l.length - 1) ++ [topL l] := by
  unfold topL
  conv => lhs; rw [← List.take_append_drop (l.length - 1) l]
  congr 1
  rw [List.drop_eq_getElem_cons (by omega), List.getD_eq_getElem?_getD, List.getElem?_eq_getElem (by omega), List.drop_eq_nil_of_le (by omega)]
  rfl
/-- What holds all along. -/
structure ABI (T : Int) (l : List Int) (s : AB) : Prop where
  hn : s.has.length = l.length
  tn : s.ts.length = l.length
  nd : (s.sm ++ s.lg).Nodup
  sm : ∀ a ∈ s.sm, 0 ≤ a ∧ a < l.length ∧ 0 ≤ s.has.getD a.toNat 0 ∧ s.has.getD a.toNat 0 < T
  lg : ∀ a ∈ s.lg, 0 ≤ a ∧ a < l.length ∧ T ≤ s.has.getD a.toNat 0 ∧ s.has.getD a.toNat 0 < 9223372036854775808
  ce : ∀ k, k < l.length → 0 ≤ (cellL s.ts k).1 ∧ (cellL s.ts k).1 ≤ T ∧ 0 ≤ (cellL s.ts k).2 ∧ (cellL s.ts k).2 < l.length
  ac : ∀ a : Nat, (a : Int) ∈ s.sm ++ s.lg → cellL s.ts a = (T, (a : Int))
  ow : ∀ i : Nat, i < l.length → ownsN T s.ts i l.length = (l.length : Int) * l.getD i 0 + (if (i : Int) ∈ s.sm ++ s.lg then T - s.has.getD i 0 else 0)
  su : sumL ((s.sm ++ s.lg).map fun a => s.has.getD a.toNat 0) = T * ((s.sm.length : Int) + (s.lg.length : Int))
theorem sumL_perm {l m : List Int} (h : l.Perm m) : sumL l = sumL m := by
  induction h with
  | nil => rfl
  | cons x _ ih => show x + _ = x + _; rw [ih]
  | swap x y l => show y + (x + sumL l) = x + (y + sumL l); omega
  | trans _ _ h1 h2 => exact h1.trans h2
theorem getD_setT {l : List Int} {a : Nat} {x : Int} (h : a < l.length) (k : Nat) : (l.set a x).getD k 0 = if k = a then x else l.getD k 0 := by
  simp only [List.getD_eq_getElem?_getD, List.getElem?_set]
  split
  · subst_vars; simp [h]
  · rw [if_neg (by omega)]
theorem sum_map_congr {l : List Int} {f g : Int → Int} (h : ∀ x ∈ l, f x = g x) : sumL (l.map f) = sumL (l.map g) := by rw [List.map_congr_left h]
theorem perm_two (x y : List Int) (a b : Int) : ((x ++ [a]) ++ (y ++ [b])).Perm (a :: b :: (x ++ y)) := by
  rw [List.append_assoc, List.singleton_append]
  refine List.perm_middle.trans (List.Perm.cons a ?_)
  rw [← List.append_assoc]
  exact List.perm_append_comm (l₂ := [b])
theorem perm_s (x y : List Int) (b : Int) : ((x ++ [b]) ++ y).Perm (b :: (x ++ y)) := by
  rw [List.append_assoc, List.singleton_append]
  exact List.perm_middle
theorem perm_l (x y : List Int) (b : Int) : (x ++ (y ++ [b])).Perm (b :: (x ++ y)) := by
  rw [← List.append_assoc]
  exact List.perm_append_comm (l₂ := [b])
/-- The lists with the last ones taken off. -/
def restL (s : AB) : List Int := s.sm.take (s.sm.length - 1) ++ s.lg.take (s.lg.length - 1)
theorem ab_perm {s : AB} (h : s.sm.length ≠ 0) (h2 : s.lg.length ≠ 0) : (s.sm ++ s.lg).Perm (topL s.sm :: topL s.lg :: restL s) := by
  have h3 := perm_two (s.sm.take (s.sm.length - 1)) (s.lg.take (s.lg.length - 1)) (topL s.sm) (topL s.lg)
  rw [← top_split h, ← top_split h2] at h3
  exact h3
theorem ab_perm2 (T : Int) (s : AB) : ((abStep T s).sm ++ (abStep T s).lg).Perm (topL s.lg :: restL s) := by
  unfold abStep restL
  dsimp only
  split
  · exact perm_s _ _ _
  · exact perm_l _ _ _
theorem ownK_self (T i : Int) (a : Nat) : ownK T i a (T, (a : Int)) = if (a : Int) = i then T else 0 := by unfold ownK; dsimp only; split <;> omega
set_option maxHeartbeats 1000000 in
theorem ABI.step {T : Int} {l : List Int} {s : AB} (I : ABI T l s) (h : s.sm.length ≠ 0) (h2 : s.lg.length ≠ 0) : ABI T l (abStep T s) := by
  have P := ab_perm h h2
  have P2 := ab_perm2 T s
  have ND := (P.nodup_iff).1 I.nd
  have am : topL s.sm ∈ s.sm := by have := top_split h; rw [this]; simp [topL]
  have bm : topL s.lg ∈ s.lg := by have := top_split h2; rw [this]; simp [topL]
  obtain ⟨a0, a1, a2, a3⟩ := I.sm _ am
  obtain ⟨b0, b1, b2, b3⟩ := I.lg _ bm
  have hH : abH T s = s.has.getD (topL s.lg).toNat 0 - (T - s.has.getD (topL s.sm).toNat 0) := rfl
  have hab : topL s.sm ≠ topL s.lg := by
    intro e
    rw [e] at ND
    have := (List.nodup_cons.1 ND).1
    simp at this
  have haR : topL s.sm ∉ restL s := fun hm => (List.nodup_cons.1 ND).1 (by simp [hm])
  have hbR : topL s.lg ∉ restL s := (List.nodup_cons.1 (List.nodup_cons.1 ND).2).1
  have hRd := (List.nodup_cons.1 (List.nodup_cons.1 ND).2).2
  have hc := I.ac (topL s.sm).toNat (by rw [Int.toNat_of_nonneg a0]; simp [am])
  have pos : ∀ x ∈ s.sm ++ s.lg, 0 ≤ x ∧ x < l.length := fun x hx => by
    rcases List.mem_append.1 hx with hx | hx
    · exact ⟨(I.sm x hx).1, (I.sm x hx).2.1⟩
    · exact ⟨(I.lg x hx).1, (I.lg x hx).2.1⟩
  have memR : ∀ x ∈ restL s, x ∈ s.sm ++ s.lg := fun x hx => P.mem_iff.2 (by simp [hx])
  have hbl : (topL s.lg).toNat < s.has.length := by rw [I.hn]; omega
  have hal : (topL s.sm).toNat < s.ts.length := by rw [I.tn]; omega
  have hget : ∀ x : Int, 0 ≤ x → (abStep T s).has.getD x.toNat 0 = if x = topL s.lg then abH T s else s.has.getD x.toNat 0 := fun x hx => by
    show (s.has.set (topL s.lg).toNat (abH T s)).getD x.toNat 0 = _
    rw [getD_setT hbl]
    by_cases e : x = topL s.lg
    · rw [if_pos e, if_pos (by rw [e])]
    · rw [if_neg e, if_neg (by omega)]
  have hcell : ∀ k : Nat, cellL (abStep T s).ts k = if k = (topL s.sm).toNat then (s.has.getD (topL s.sm).toNat 0, topL s.lg) else cellL s.ts k := fun k => cellL_set hal k
  have hsm : (abStep T s).sm = if abH T s < T then s.sm.take (s.sm.length - 1) ++ [topL s.lg] else s.sm.take (s.sm.length - 1) := rfl
  have hlg : (abStep T s).lg = if abH T s < T then s.lg.take (s.lg.length - 1) else s.lg.take (s.lg.length - 1) ++ [topL s.lg] := rfl
  have hln := abStep_len (T := T) h h2
  have hhl : (abStep T s).has.length = s.has.length := List.length_set
  have htl : (abStep T s).ts.length = s.ts.length := List.length_set
  have hown : ∀ i k, ownsN T (abStep T s).ts i k = _ := fun i k => ownsN_set hal k
  generalize topL s.sm = a at *
  generalize topL s.lg = b at *
  obtain ⟨ha, hha⟩ : ∃ x, s.has.getD a.toNat 0 = x := ⟨_, rfl⟩
  rw [hha] at a2 a3 hH hown hcell
  have mem2 : ∀ x : Int, x ∈ (abStep T s).sm ++ (abStep T s).lg ↔ x = b ∨ x ∈ restL s := fun x => by rw [P2.mem_iff]; simp
  have mem1 : ∀ x : Int, x ∈ s.sm ++ s.lg ↔ x = a ∨ x = b ∨ x ∈ restL s := fun x => by rw [P.mem_iff]; simp
  have hsR : ∀ x ∈ s.sm.take (s.sm.length - 1), x ∈ restL s := fun x hx => List.mem_append.2 (Or.inl hx)
  have hlR : ∀ x ∈ s.lg.take (s.lg.length - 1), x ∈ restL s := fun x hx => List.mem_append.2 (Or.inr hx)
  have hb' : (abStep T s).has.getD b.toNat 0 = abH T s := by rw [hget b b0, if_pos rfl]
  have hR' : ∀ x ∈ restL s, (abStep T s).has.getD x.toNat 0 = s.has.getD x.toNat 0 := fun x hx => by rw [hget x (pos x (memR x hx)).1, if_neg (by rintro rfl; exact hbR hx)]
  refine ⟨hhl.trans I.hn, htl.trans I.tn, (P2.nodup_iff).2 (List.nodup_cons.2 ⟨hbR, hRd⟩), ?_, ?_, ?_, ?_, ?_, ?_⟩
  · intro x hx
    have key : ∀ x ∈ s.sm.take (s.sm.length - 1), 0 ≤ x ∧ x < l.length ∧ 0 ≤ (abStep T s).has.getD x.toNat 0 ∧ (abStep T s).has.getD x.toNat 0 < T := fun x hx => by
      rw [hR' x (hsR x hx)]
      exact I.sm x (List.mem_of_mem_take hx)
    rw [hsm] at hx
    split at hx
    · rcases List.mem_append.1 hx with hx | hx
      · exact key x hx
      · rw [List.mem_singleton.1 hx, hb']
        exact ⟨b0, b1, by omega, by assumption⟩
    · exact key x hx
  · intro x hx
    have key : ∀ x ∈ s.lg.take (s.lg.length - 1), 0 ≤ x ∧ x < l.length ∧ T ≤ (abStep T s).has.getD x.toNat 0 ∧ (abStep T s).has.getD x.toNat 0 < 9223372036854775808 := fun x hx => by
      rw [hR' x (hlR x hx)]
      exact I.lg x (List.mem_of_mem_take hx)
    rw [hlg] at hx
    split at hx
    · exact key x hx
    · rcases List.mem_append.1 hx with hx | hx
      · exact key x hx
      · rw [List.mem_singleton.1 hx, hb']
        exact ⟨b0, b1, by omega, by omega⟩
  · intro k hk
    rw [hcell]
    split
    · exact ⟨by dsimp only; omega, by dsimp only; omega, b0, b1⟩
    · exact I.ce k hk
  · intro x hx
    have hx2 := (mem2 x).1 hx
    have hne : (x : Int) ≠ a := by
      rintro rfl
      rcases hx2 with e | hx2
      · exact hab e
      · exact haR hx2
    rw [hcell, if_neg (by omega)]
    exact I.ac x ((mem1 x).2 (Or.inr hx2))
  · intro i hi
    rw [hown, if_pos (by omega), hc, I.ow i hi]
    obtain ⟨A, rfl⟩ := Int.eq_ofNat_of_zero_le a0
    rw [Int.toNat_natCast, ownK_self]
    have e1 := mem1 i
    have e2 := mem2 i
    have e3 := hget i (by omega)
    rw [Int.toNat_natCast] at e3
    rw [e3]
    unfold ownK
    dsimp only
    by_cases c1 : (A : Int) = i
    · have hA : A = i := by omega
      subst hA
      have n1 : ¬ ((A : Int) ∈ (abStep T s).sm ++ (abStep T s).lg) := fun hm => by
        rcases e2.1 hm with e | e
        · exact hab e
        · exact haR e
      rw [if_pos (show (A : Int) ∈ s.sm ++ s.lg from e1.2 (Or.inl rfl)), if_neg n1, if_pos rfl, if_pos rfl, if_neg (show ¬ b = (A : Int) from fun e => hab e.symm)]
      have : s.has.getD A 0 = ha := by simpa using hha
      omega
    · rw [if_neg c1, if_neg c1]
      by_cases c2 : b = i
      · rw [if_pos (show (i : Int) ∈ s.sm ++ s.lg from e1.2 (Or.inr (Or.inl c2.symm))), if_pos (show (i : Int) ∈ (abStep T s).sm ++ (abStep T s).lg from e2.2 (Or.inl c2.symm)), if_pos c2, if_pos c2.symm]
        have : s.has.getD b.toNat 0 = s.has.getD i 0 := by rw [c2]; simp
        omega
      · rw [if_neg c2, if_neg (show ¬ (i : Int) = b from fun e => c2 e.symm)]
        by_cases c3 : (i : Int) ∈ restL s
        · rw [if_pos (show (i : Int) ∈ s.sm ++ s.lg from e1.2 (Or.inr (Or.inr c3))), if_pos (show (i : Int) ∈ (abStep T s).sm ++ (abStep T s).lg from e2.2 (Or.inr c3))]; omega
        · rw [if_neg (show ¬ (i : Int) ∈ s.sm ++ s.lg from fun hm => by rcases e1.1 hm with e | e | e; exact c1 e.symm; exact c2 e.symm; exact c3 e), if_neg (show ¬ (i : Int) ∈ (abStep T s).sm ++ (abStep T s).lg from fun hm => by rcases e2.1 hm with e | e; exact c2 e.symm; exact c3 e)]; omega
  · have q1 := sumL_perm (P.map fun x => s.has.getD x.toNat 0)
    have q2 := sumL_perm (P2.map fun x => (abStep T s).has.getD x.toNat 0)
    rw [List.map_cons, List.map_cons] at q1
    rw [List.map_cons, hb', List.map_congr_left hR'] at q2
    have q3 := I.su
    rw [q1] at q3
    rw [q2]
    have q4 : ((abStep T s).sm.length : Int) + ((abStep T s).lg.length : Int) = ((s.sm.length : Int) + (s.lg.length : Int)) - 1 := by omega
    rw [q4, Int.mul_sub, ← q3, hH]
    show _ + sumL _ = s.has.getD a.toNat 0 + (s.has.getD b.toNat 0 + sumL _) - _
    omega
end Go.Proofs.Ytkgajcifanobnaa

/-
  Natural numbers as limbs of 32 bits, the lowest one first, in plain Lean.
  Conditions: those that each theorem names.
-/
import Derived.Test.YtoimepmignlmkaaDoorMemA
set_option maxRecDepth 100000
set_option linter.unusedVariables false
set_option linter.unusedSimpArgs false
namespace Go.Proofs.YtoimepmignlmkaaDoor
/-- Limbs lie in their type's range. -/
def Lim (l : List Int) : Prop := ∀ z ∈ l, 0 ≤ z ∧ z < 4294967296
/-- The number that limbs say. -/
def valL : List Int → Nat
  | [] => 0
  | x :: l => x.toNat + 4294967296 * valL l
/-- Without noughts at the end. -/
def trimL : List Int → List Int
  | [] => []
  | x :: l => if trimL l = [] ∧ x = 0 then [] else x :: trimL l
/-- A number's limbs. -/
def natL (n : Nat) : List Int := if h : n = 0 then [] else ((n % 4294967296 : Nat) : Int) :: natL (n / 4294967296)
  termination_by n
  decreasing_by exact Nat.div_lt_self (by omega) (by omega)
theorem natL_zero : natL 0 = [] := by rw [natL]; rfl
theorem natL_pos {n : Nat} (h : n ≠ 0) : natL n = ((n % 4294967296 : Nat) : Int) :: natL (n / 4294967296) := by rw [natL, dif_neg h]
theorem Lim.nil : Lim [] := fun z h => by cases h
theorem Lim.cons {x : Int} {l : List Int} (h : 0 ≤ x ∧ x < 4294967296) (hl : Lim l) : Lim (x :: l) := fun z hz => by
  rcases List.mem_cons.1 hz with rfl | hz
  · exact h
  · exact hl z hz
theorem Lim.hd {x : Int} {l : List Int} (h : Lim (x :: l)) : 0 ≤ x ∧ x < 4294967296 := h x (by simp)
theorem Lim.tl {x : Int} {l : List Int} (h : Lim (x :: l)) : Lim l := fun z hz => h z (by simp [hz])
theorem Lim.app {l m : List Int} (hl : Lim l) (hm : Lim m) : Lim (l ++ m) := fun z hz => by
  rcases List.mem_append.1 hz with h | h
  · exact hl z h
  · exact hm z h
theorem Lim.take {l : List Int} (h : Lim l) (k : Nat) : Lim (l.take k) := fun z hz => h z (List.mem_of_mem_take hz)
theorem Lim.drop {l : List Int} (h : Lim l) (k : Nat) : Lim (l.drop k) := fun z hz => h z (List.mem_of_mem_drop hz)
theorem Lim.getD {l : List Int} (h : Lim l) (k : Nat) : 0 ≤ l.getD k 0 ∧ l.getD k 0 < 4294967296 := by
  rw [List.getD_eq_getElem?_getD]
  by_cases hk : k < l.length
  · rw [List.getElem?_eq_getElem hk]; exact h _ (List.getElem_mem hk)
  · rw [List.getElem?_eq_none (by omega)]; exact ⟨Int.le_refl _, by show (0 : Int) < 4294967296; omega⟩
theorem Lim.set {l : List Int} (h : Lim l) (k : Nat) {x : Int} (hx : 0 ≤ x ∧ x < 4294967296) : Lim (l.set k x) := fun z hz => by
  rcases List.mem_or_eq_of_mem_set hz with h1 | rfl
  · exact h z h1
  · exact hx
theorem Lim.rep (n : Nat) : Lim (List.replicate n 0) := fun z hz => by rw [List.eq_of_mem_replicate hz]; omega
theorem natL_lim (n : Nat) : Lim (natL n) := by
  induction n using Nat.strongRecOn with
  | ind n ih =>
    by_cases h : n = 0
    · subst h; rw [natL_zero]; exact Lim.nil
    · rw [natL_pos h]
      exact Lim.cons (by omega) (ih _ (Nat.div_lt_self (by omega) (by omega)))
theorem natL_val (n : Nat) : valL (natL n) = n := by
  induction n using Nat.strongRecOn with
  | ind n ih =>
    by_cases h : n = 0
    · subst h; rw [natL_zero]; rfl
    · rw [natL_pos h, valL, ih _ (Nat.div_lt_self (by omega) (by omega)), Int.toNat_natCast]
      omega
theorem natL_ne {n : Nat} (h : n ≠ 0) : natL n ≠ [] := by rw [natL_pos h]; simp
theorem natL_nil {n : Nat} (h : natL n = []) : n = 0 := Decidable.byContradiction fun hn => natL_ne hn h
theorem trimL_natL (n : Nat) : trimL (natL n) = natL n := by
  induction n using Nat.strongRecOn with
  | ind n ih =>
    by_cases h : n = 0
    · subst h; rw [natL_zero]; rfl
    · rw [natL_pos h, trimL, ih _ (Nat.div_lt_self (by omega) (by omega)), if_neg]
      rintro ⟨h1, h2⟩
      have := natL_nil h1
      omega
/-- Trimmed limbs are the number's limbs. -/
theorem trimL_eq {l : List Int} (h : Lim l) : trimL l = natL (valL l) := by
  induction l with
  | nil => rw [valL, natL_zero]; rfl
  | cons x l ih =>
    have hx := h.hd
    rw [trimL, ih h.tl]
    by_cases hz : valL (x :: l) = 0
    · have h1 : valL l = 0 := by rw [valL] at hz; omega
      have h2 : x = 0 := by rw [valL] at hz; omega
      rw [hz, h1, natL_zero, if_pos ⟨rfl, h2⟩]
    · rw [natL_pos hz]
      have e1 : valL (x :: l) % 4294967296 = x.toNat := by rw [valL]; omega
      have e2 : valL (x :: l) / 4294967296 = valL l := by rw [valL]; omega
      rw [e1, e2, Int.toNat_of_nonneg hx.1, if_neg]
      rintro ⟨h1, h2⟩
      have h3 := natL_nil h1
      apply hz
      rw [valL, h3, h2]
      rfl
theorem valL_app (l m : List Int) : valL (l ++ m) = valL l + 4294967296 ^ l.length * valL m := by
  induction l with
  | nil => simp [valL]
  | cons x l ih =>
    rw [List.cons_append, valL, valL, ih, List.length_cons, Nat.pow_succ, Nat.mul_add, Nat.mul_comm (4294967296 ^ l.length) 4294967296, Nat.mul_assoc]
    omega
theorem valL_lt {l : List Int} (h : Lim l) : valL l < 4294967296 ^ l.length := by
  induction l with
  | nil => exact Nat.one_pos
  | cons x l ih =>
    have h1 := ih h.tl
    have h2 := h.hd
    rw [valL, List.length_cons, Nat.pow_succ, Nat.mul_comm]
    generalize 4294967296 ^ l.length = p at *
    omega
theorem valL_inj {l m : List Int} (hl : Lim l) (hm : Lim m) (hlen : l.length = m.length) (h : valL l = valL m) : l = m := by
  induction l generalizing m with
  | nil => cases m with
    | nil => rfl
    | cons y m => cases hlen
  | cons x l ih => cases m with
    | nil => cases hlen
    | cons y m =>
      have hx := hl.hd
      have hy := hm.hd
      rw [valL, valL] at h
      have e1 : valL l = valL m := by omega
      have e2 : x = y := by omega
      rw [e2, ih hl.tl hm.tl (by simpa using hlen) e1]
theorem valL_rep (n : Nat) : valL (List.replicate n 0) = 0 := by
  induction n with
  | zero => rfl
  | succ n ih => rw [List.replicate_succ, valL, ih]; rfl
theorem valL_take_drop (l : List Int) (k : Nat) (hk : k ≤ l.length) : valL l = valL (l.take k) + 4294967296 ^ k * valL (l.drop k) := by
  conv => lhs; rw [← List.take_append_drop k l, valL_app]
  rw [List.length_take, Nat.min_eq_left hk]
theorem valL_drop_getD (l : List Int) (k : Nat) : valL (l.drop k) = (l.getD k 0).toNat + 4294967296 * valL (l.drop (k + 1)) := by
  by_cases hk : k < l.length
  · rw [List.drop_eq_getElem_cons hk, valL, List.getD_eq_getElem?_getD, List.getElem?_eq_getElem hk]
    rfl
  · rw [List.drop_eq_nil_of_le (by omega), List.drop_eq_nil_of_le (by omega), List.getD_eq_getElem?_getD, List.getElem?_eq_none (by omega)]
    rfl
theorem valL_take_succ (l : List Int) (k : Nat) (hk : k < l.length) : valL (l.take (k + 1)) = valL (l.take k) + 4294967296 ^ k * (l.getD k 0).toNat := by
  rw [List.take_add_one, valL_app, List.getElem?_eq_getElem hk, List.length_take, Nat.min_eq_left (by omega), List.getD_eq_getElem?_getD, List.getElem?_eq_getElem hk]
  show _ + _ * ((l[k]).toNat + 4294967296 * 0) = _ + _ * (l[k]).toNat
  rw [Nat.mul_zero, Nat.add_zero]
/-- A limb set changes the number by what the limb differs. -/
theorem valL_set (l : List Int) (k : Nat) (x : Int) (hk : k < l.length) : valL (l.set k x) + 4294967296 ^ k * (l.getD k 0).toNat = valL l + 4294967296 ^ k * x.toNat := by
  induction l generalizing k with
  | nil => cases hk
  | cons y l ih =>
    cases k with
    | zero =>
      show x.toNat + 4294967296 * valL l + 1 * y.toNat = y.toNat + 4294967296 * valL l + 1 * x.toNat
      omega
    | succ k =>
      have h := ih k (by simpa using hk)
      show y.toNat + 4294967296 * valL (l.set k x) + 4294967296 ^ (k + 1) * (l.getD k 0).toNat = y.toNat + 4294967296 * valL l + 4294967296 ^ (k + 1) * x.toNat
      rw [Nat.pow_succ, Nat.mul_comm (4294967296 ^ k) 4294967296, Nat.mul_assoc, Nat.mul_assoc]
      generalize 4294967296 ^ k * (l.getD k 0).toNat = p at *
      generalize 4294967296 ^ k * x.toNat = q at *
      omega
/-! ### which limbs may be -/
def lastOk (l : List Int) : Bool := match l.getLast? with
  | none => true
  | some x => x != 0
def rightN (l : List Int) : Bool := decide (l.length ≤ 256) && lastOk l
theorem lastOk_can {l : List Int} : lastOk l = true ↔ trimL l = l := by
  induction l with
  | nil => exact ⟨fun _ => rfl, fun _ => rfl⟩
  | cons x l ih =>
    cases l with
    | nil =>
      show (x != 0) = true ↔ (if ([] : List Int) = [] ∧ x = 0 then [] else [x]) = [x]
      by_cases hx : x = 0
      · simp [hx]
      · simp [hx]
    | cons y l =>
      have e : lastOk (x :: y :: l) = lastOk (y :: l) := by simp [lastOk, List.getLast?_cons_cons]
      rw [e, ih, show trimL (x :: y :: l) = (if trimL (y :: l) = [] ∧ x = 0 then [] else x :: trimL (y :: l)) from rfl]
      constructor
      · intro h; rw [h, if_neg (by rintro ⟨h1, _⟩; cases h1)]
      · intro h
        split at h
        · cases h
        · injection h
theorem can_eq {l : List Int} (h : Lim l) (hc : lastOk l = true) : l = natL (valL l) := by rw [← trimL_eq h, lastOk_can.1 hc]
theorem natL_ok (n : Nat) : lastOk (natL n) = true := lastOk_can.2 (trimL_natL n)
/-- As many limbs as the number needs. -/
theorem natL_len (n k : Nat) : (natL n).length ≤ k ↔ n < 4294967296 ^ k := by
  induction k generalizing n with
  | zero =>
    rw [Nat.pow_zero]
    by_cases h : n = 0
    · subst h; rw [natL_zero]; simp
    · have := natL_ne h
      have h2 : (natL n).length ≠ 0 := fun h3 => this (List.eq_nil_of_length_eq_zero h3)
      constructor
      · omega
      · omega
  | succ k ih =>
    by_cases h : n = 0
    · subst h
      rw [natL_zero]
      exact ⟨fun _ => Nat.pow_pos (by omega), fun _ => by simp⟩
    · rw [natL_pos h, List.length_cons, Nat.pow_succ, Nat.succ_le_succ_iff, ih, Nat.div_lt_iff_lt_mul (by omega)]
theorem trimL_len (l : List Int) : (trimL l).length ≤ l.length := by
  induction l with
  | nil => exact Nat.le_refl _
  | cons x l ih =>
    rw [trimL]
    split
    · simp
    · simp [ih]
/-- Trimmed limbs are the first ones. -/
theorem trimL_take (l : List Int) : trimL l = l.take (trimL l).length := by
  induction l with
  | nil => rfl
  | cons x l ih =>
    rw [trimL]
    split
    · rfl
    · rw [List.length_cons, List.take_succ_cons, ← ih]
/-- One nought less at the end. -/
theorem trimL_snoc_zero (l : List Int) : trimL (l ++ [0]) = trimL l := by
  induction l with
  | nil => rfl
  | cons x l ih => rw [List.cons_append, trimL, ih, trimL]
end Go.Proofs.YtoimepmignlmkaaDoor

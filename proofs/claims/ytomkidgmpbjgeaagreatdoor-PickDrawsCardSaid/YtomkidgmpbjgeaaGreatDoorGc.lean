/-
  Texts of this claim, joined: UniP, UniM, LedN, CntP, TabC, PikP, PikM, StrmA, RefM, RefN, PikL, RefP, RefZd, CompK, PlanA, CompA. What each shows, and its conditions, stand at its own head.
-/
import Derived.Test.YtomkidgmpbjgeaaGreatDoorGb
import Derived.Deep.QuietTactic
import Derived.BigQuiet
import Derived.Test.YtomkidgmpbjgeaaGreatDoorRows
import Derived.ProofKit
import Derived.LaidMore
import Derived.OpenShut
import Derived.Stop.Joined
import Derived.Deep.RegionHeld3
import Derived.Deep.RegionLaw
import Derived.KernelRfl
/-
  Draws below a bound in plain Lean: attempt by attempt; which attempt draws; how many tapes draw which number.
  Conditions: those that each theorem names.
-/
set_option maxRecDepth 100000
set_option linter.unusedVariables false
set_option linter.unusedSimpArgs false
namespace Go.Proofs.YtomkidgmpbjgeaaGreatDoor
/-- What is drawn by so many attempts of k bits: the number, the source, the error. -/
def drawGo (k : Nat) (n : Int) : Nat → Src → Int × Src × Int
  | 0, s => (0, s, 9)
  | m + 1, s => if takeE s k = 0 then (if takeV s k < n then (takeV s k, takeS s k, 0) else drawGo k n m (takeS s k)) else (0, s, takeE s k)
def drawB (s : Src) (n a : Int) : Bool := rightS s && decide (1 ≤ n ∧ n < 9223372036854775808 ∧ 1 ≤ a ∧ a ≤ 64)
def drawR (s : Src) (n a : Int) : Int × Src × Int := if drawB s n a = true then drawGo (needN n) n a.toNat s else (0, s, 1)
def drawV (s : Src) (n a : Int) : Int := (drawR s n a).1
def drawT (s : Src) (n a : Int) : Src := (drawR s n a).2.1
def drawE (s : Src) (n a : Int) : Int := (drawR s n a).2.2
theorem drawGo_zero (k : Nat) (n : Int) (s : Src) : drawGo k n 0 s = (0, s, 9) := rfl
theorem drawGo_err {k : Nat} {n : Int} {m : Nat} {s : Src} (h : takeE s k ≠ 0) : drawGo k n (m + 1) s = (0, s, takeE s k) := by rw [drawGo, if_neg h]
theorem drawGo_hit {k : Nat} {n : Int} {m : Nat} {s : Src} (h : takeE s k = 0) (hx : takeV s k < n) : drawGo k n (m + 1) s = (takeV s k, takeS s k, 0) := by rw [drawGo, if_pos h, if_pos hx]
theorem drawGo_miss {k : Nat} {n : Int} {m : Nat} {s : Src} (h : takeE s k = 0) (hx : ¬ takeV s k < n) : drawGo k n (m + 1) s = drawGo k n m (takeS s k) := by rw [drawGo, if_pos h, if_neg hx]
theorem takeS_to {s : Src} {k : Nat} (h : takeE s k = 0) : takeS s k = s.to (s.at_ + k) := by unfold takeS; rw [if_pos h]
theorem to_to (s : Src) (m n : Int) : (s.to m).to n = s.to n := rfl
theorem to_self (s : Src) : s.to s.at_ = s := rfl
theorem drawGo_src (k : Nat) (n : Int) : ∀ (m : Nat) (s : Src), ∃ p, (drawGo k n m s).2.1 = s.to p
  | 0, s => ⟨s.at_, rfl⟩
  | m + 1, s => by
    by_cases h : takeE s k = 0
    · by_cases hx : takeV s k < n
      · rw [drawGo_hit h hx]; exact ⟨_, takeS_to h⟩
      · rw [drawGo_miss h hx, takeS_to h]
        obtain ⟨p, hp⟩ := drawGo_src k n m (s.to (s.at_ + k))
        exact ⟨p, by rw [hp, to_to]⟩
    · rw [drawGo_err h]; exact ⟨s.at_, rfl⟩
theorem drawGo_ok (k : Nat) (n : Int) : ∀ (m : Nat) (s : Src), s.Ok → (drawGo k n m s).2.1.Ok
  | 0, s, ok => ok
  | m + 1, s, ok => by
    by_cases h : takeE s k = 0
    · by_cases hx : takeV s k < n
      · rw [drawGo_hit h hx]; exact takeS_ok ok k
      · rw [drawGo_miss h hx]; exact drawGo_ok k n m _ (takeS_ok ok k)
    · rw [drawGo_err h]; exact ok
theorem drawGo_val (k : Nat) (n : Int) : ∀ (m : Nat) (s : Src), 0 ≤ (drawGo k n m s).1 ∧ (drawGo k n m s).1 < 18446744073709551616
  | 0, s => by rw [drawGo_zero]; exact ⟨Int.le_refl _, (by show (0 : Int) < 18446744073709551616; omega)⟩
  | m + 1, s => by
    by_cases h : takeE s k = 0
    · by_cases hx : takeV s k < n
      · rw [drawGo_hit h hx]; exact takeV_in s k
      · rw [drawGo_miss h hx]; exact drawGo_val k n m _
    · rw [drawGo_err h]; exact ⟨Int.le_refl _, (by show (0 : Int) < 18446744073709551616; omega)⟩
theorem takeE_in (s : Src) (k : Int) : takeE s k = 0 ∨ takeE s k = 8 ∨ takeE s k = 1 := by unfold takeE; split <;> (try split) <;> omega
theorem drawGo_e (k : Nat) (n : Int) : ∀ (m : Nat) (s : Src), 0 ≤ (drawGo k n m s).2.2 ∧ (drawGo k n m s).2.2 < 16
  | 0, s => by rw [drawGo_zero]; exact ⟨(by show (0 : Int) ≤ 9; omega), (by show (9 : Int) < 16; omega)⟩
  | m + 1, s => by
    by_cases h : takeE s k = 0
    · by_cases hx : takeV s k < n
      · rw [drawGo_hit h hx]; exact ⟨(by show (0 : Int) ≤ 0; omega), (by show (0 : Int) < 16; omega)⟩
      · rw [drawGo_miss h hx]; exact drawGo_e k n m _
    · rw [drawGo_err h]; have := takeE_in s k; exact ⟨by show 0 ≤ takeE s k; omega, by show takeE s k < 16; omega⟩
theorem drawT_ok (s : Src) (n a : Int) (ok : s.Ok) : (drawT s n a).Ok := by
  unfold drawT drawR
  split
  · exact drawGo_ok _ _ _ _ ok
  · exact ok
theorem drawT_tape (s : Src) (n a : Int) : (drawT s n a).tape = s.tape := by
  unfold drawT drawR
  split
  · obtain ⟨p, hp⟩ := drawGo_src (needN n) n a.toNat s
    rw [hp]; rfl
  · rfl
/-- Beside an error the number is 0. -/
theorem drawGo_no (k : Nat) (n : Int) : ∀ (m : Nat) (s : Src), (drawGo k n m s).2.2 ≠ 0 → (drawGo k n m s).1 = 0
  | 0, s, _ => rfl
  | m + 1, s, he => by
    by_cases h : takeE s k = 0
    · by_cases hx : takeV s k < n
      · rw [drawGo_hit h hx] at he; exact absurd rfl he
      · rw [drawGo_miss h hx] at he ⊢; exact drawGo_no k n m _ he
    · rw [drawGo_err h]
/-- Which attempt draws: the ones ahead of it draw nothing. -/
theorem drawGo_first (k : Nat) (n : Int) : ∀ (m : Nat) (s : Src), (drawGo k n m s).2.2 = 0 → (drawGo k n m s).1 < n ∧ ∃ j, j < m ∧ (drawGo k n m s).2.1 = s.to (s.at_ + (k * (j + 1) : Nat)) ∧ drawGo k n j s = (0, s.to (s.at_ + (k * j : Nat)), 9)
  | 0, s, he => by rw [drawGo_zero] at he; exact absurd he (by show ¬ (9 : Int) = 0; omega)
  | m + 1, s, he => by
    by_cases h : takeE s k = 0
    · by_cases hx : takeV s k < n
      · rw [drawGo_hit h hx]
        refine ⟨hx, 0, by omega, ?_, ?_⟩
        · rw [Nat.zero_add, Nat.mul_one]; exact takeS_to h
        · rw [Nat.mul_zero, Int.natCast_zero, Int.add_zero]; rfl
      · rw [drawGo_miss h hx] at he ⊢
        obtain ⟨h1, j, hj, h2, h3⟩ := drawGo_first k n m _ he
        refine ⟨h1, j + 1, by omega, ?_, ?_⟩
        · rw [h2, takeS_to h, to_to]
          rw [show (s.to (s.at_ + (k : Int))).at_ + ((k * (j + 1) : Nat) : Int) = s.at_ + ((k * (j + 1 + 1) : Nat) : Int) from (by
            show s.at_ + (k : Int) + _ = _
            rw [Nat.mul_add k (j + 1) 1]
            omega)]
        · rw [drawGo_miss h hx, h3, takeS_to h, to_to]
          rw [show (s.to (s.at_ + (k : Int))).at_ + ((k * j : Nat) : Int) = s.at_ + ((k * (j + 1) : Nat) : Int) from (by
            show s.at_ + (k : Int) + _ = _
            rw [Nat.mul_add k j 1]
            omega)]
    · rw [drawGo_err h] at he
      exact absurd he h
/-! ### how many tapes draw which number -/
/-- How many of the first N numbers have a property. -/
def cnt (P : Nat → Bool) : Nat → Nat
  | 0 => 0
  | N + 1 => cnt P N + if P N = true then 1 else 0
theorem cnt_add (P : Nat → Bool) (a : Nat) : ∀ b, cnt P (a + b) = cnt P a + cnt (fun y => P (a + y)) b
  | 0 => rfl
  | b + 1 => by
    rw [← Nat.add_assoc, cnt, cnt_add P a b, cnt]
    omega
theorem cnt_congr {P Q : Nat → Bool} : ∀ N, (∀ y, y < N → P y = Q y) → cnt P N = cnt Q N
  | 0, _ => rfl
  | N + 1, h => by rw [cnt, cnt, cnt_congr N (fun y hy => h y (by omega)), h N (by omega)]
theorem cnt_all (N : Nat) : cnt (fun _ => true) N = N := by
  induction N with
  | zero => rfl
  | succ N ih => rw [cnt, ih]; rfl
theorem cnt_none (N : Nat) : cnt (fun _ => false) N = 0 := by
  induction N with
  | zero => rfl
  | succ N ih => rw [cnt, ih]; rfl
theorem cnt_le (P : Nat → Bool) (N : Nat) : cnt P N ≤ N := by
  induction N with
  | zero => exact Nat.le_refl _
  | succ N ih => rw [cnt]; split <;> omega
/-- What the number x, as m attempts of a Q-fold each, the first one highest, draws: some number below n, or nothing. -/
def hits (Q n : Nat) : Nat → Nat → Option Nat
  | 0, _ => none
  | m + 1, x => if x / Q ^ m < n then some (x / Q ^ m) else hits Q n m (x % Q ^ m)
theorem hits_lt (Q n : Nat) : ∀ m x v, hits Q n m x = some v → v < n
  | 0, _, _, h => by cases h
  | m + 1, x, v, h => by
    rw [hits] at h
    split at h
    · rename_i h1; injection h with h; omega
    · exact hits_lt Q n m _ v h
theorem div_rem (h R lo : Nat) (hlo : lo < R) : (h * R + lo) / R = h ∧ (h * R + lo) % R = lo := by
  rw [Nat.mul_comm, Nat.mul_add_div (by omega), Nat.div_eq_of_lt hlo, Nat.mul_add_mod, Nat.mod_eq_of_lt hlo]
  exact ⟨rfl, rfl⟩
theorem hits_step (Q n m h lo : Nat) (hlo : lo < Q ^ m) : hits Q n (m + 1) (h * Q ^ m + lo) = if h < n then some h else hits Q n m lo := by
  obtain ⟨e1, e2⟩ := div_rem h (Q ^ m) lo hlo
  rw [hits, e1, e2]
/-- By h first attempts of Q. -/
theorem cnt_hits_up (Q n m v : Nat) (hv : v < n) : ∀ h, cnt (fun x => hits Q n (m + 1) x == some v) (h * Q ^ m) = (if v < h then Q ^ m else 0) + (h - n) * cnt (fun x => hits Q n m x == some v) (Q ^ m)
  | 0 => by rw [Nat.zero_mul, Nat.zero_sub, Nat.zero_mul]; rfl
  | h + 1 => by
    rw [Nat.add_mul, Nat.one_mul, cnt_add, cnt_hits_up Q n m v hv h]
    have hstep : cnt (fun y => hits Q n (m + 1) (h * Q ^ m + y) == some v) (Q ^ m) = if h < n then (if h = v then Q ^ m else 0) else cnt (fun x => hits Q n m x == some v) (Q ^ m) := by
      by_cases h1 : h < n
      · rw [if_pos h1]
        by_cases h2 : h = v
        · rw [if_pos h2, cnt_congr (Q := fun _ => true) _ (fun y hy => by rw [hits_step Q n m h y hy, if_pos h1, h2]; simp), cnt_all]
        · rw [if_neg h2, cnt_congr (Q := fun _ => false) _ (fun y hy => by rw [hits_step Q n m h y hy, if_pos h1]; simpa using h2), cnt_none]
      · rw [if_neg h1]
        exact cnt_congr _ (fun y hy => by rw [hits_step Q n m h y hy, if_neg h1])
    rw [hstep]
    by_cases h1 : h < n
    · rw [if_pos h1, show h - n = 0 by omega, show h + 1 - n = 0 by omega]
      by_cases h2 : h = v
      · rw [if_pos h2, if_neg (by omega), if_pos (by omega)]; omega
      · rw [if_neg h2]
        by_cases h3 : v < h
        · rw [if_pos h3, if_pos (by omega), Nat.add_zero]
        · rw [if_neg h3, if_neg (by omega), Nat.add_zero]
    · rw [if_neg h1, if_pos (by omega), if_pos (by omega), show h + 1 - n = h - n + 1 by omega, Nat.add_mul, Nat.one_mul]
      omega
theorem cnt_none_up (Q n m : Nat) : ∀ h, cnt (fun x => hits Q n (m + 1) x == none) (h * Q ^ m) = (h - n) * cnt (fun x => hits Q n m x == none) (Q ^ m)
  | 0 => by rw [Nat.zero_mul, Nat.zero_sub, Nat.zero_mul]; rfl
  | h + 1 => by
    rw [Nat.add_mul, Nat.one_mul, cnt_add, cnt_none_up Q n m h]
    have hstep : cnt (fun y => hits Q n (m + 1) (h * Q ^ m + y) == none) (Q ^ m) = if h < n then 0 else cnt (fun x => hits Q n m x == none) (Q ^ m) := by
      by_cases h1 : h < n
      · rw [if_pos h1, cnt_congr (Q := fun _ => false) _ (fun y hy => by rw [hits_step Q n m h y hy, if_pos h1]; simp), cnt_none]
      · rw [if_neg h1]
        exact cnt_congr _ (fun y hy => by rw [hits_step Q n m h y hy, if_neg h1])
    rw [hstep]
    by_cases h1 : h < n
    · rw [if_pos h1, show h - n = 0 by omega, show h + 1 - n = 0 by omega, Nat.zero_mul]
    · rw [if_neg h1, show h + 1 - n = h - n + 1 by omega, Nat.add_mul, Nat.one_mul]
/-- Nothing is drawn by just the others. -/
theorem cnt_lost (Q n : Nat) : ∀ m, cnt (fun x => hits Q n m x == none) (Q ^ m) = (Q - n) ^ m
  | 0 => by rw [Nat.pow_zero, Nat.pow_zero]; rfl
  | m + 1 => by rw [Nat.pow_succ, Nat.mul_comm, cnt_none_up, cnt_lost Q n m, Nat.pow_succ, Nat.mul_comm]
/-- Each number is drawn by just as many. -/
theorem cnt_even (Q n v : Nat) (hv : v < n) (hQ : n ≤ Q) : ∀ m, cnt (fun x => hits Q n m x == some v) (Q ^ m) * n + (Q - n) ^ m = Q ^ m
  | 0 => by
    rw [Nat.pow_zero, Nat.pow_zero, show cnt (fun x => hits Q n 0 x == some v) 1 = 0 from rfl, Nat.zero_mul]
  | m + 1 => by
    have ih := cnt_even Q n v hv hQ m
    rw [Nat.pow_succ, Nat.mul_comm (Q ^ m), cnt_hits_up Q n m v hv Q, if_pos (by omega), Nat.pow_succ]
    obtain ⟨d, rfl⟩ : ∃ d, Q = n + d := ⟨Q - n, by omega⟩
    rw [Nat.add_sub_cancel_left] at ih ⊢
    generalize cnt (fun x => hits (n + d) n m x == some v) ((n + d) ^ m) = c at ih ⊢
    generalize (n + d) ^ m = R at ih ⊢
    generalize d ^ m = D at ih ⊢
    subst ih
    rw [Nat.add_mul, Nat.add_mul, Nat.mul_add, Nat.add_mul n d, Nat.add_mul n d]
    have e1 : n * (c * n) = c * n * n := Nat.mul_comm _ _
    have e2 : d * c * n = d * (c * n) := Nat.mul_assoc _ _ _
    have e3 : D * d = d * D := Nat.mul_comm _ _
    have e4 : n * D = D * n := Nat.mul_comm _ _
    omega
end Go.Proofs.YtomkidgmpbjgeaaGreatDoor
/-
  Draws in memory: the source that is drawn from, the place of the one that is handed back, and what else stays.
  Conditions: those that each theorem names.
-/
set_option maxRecDepth 100000
set_option linter.unusedVariables false
set_option linter.unusedSimpArgs false
namespace Go.Proofs.YtomkidgmpbjgeaaGreatDoor
open Go.ChangeShapes Go.WideShapes Go.ChangeAt Go.RowKit
/-- A slice that is not empty lies apart from a block. -/
def Apt (n : Nat) (A : Option Addr) (g : Nat) : Prop := ∀ b off, 0 < n → A = some ⟨b, off, none⟩ → b ≠ g
theorem Apt.of_lt {k : IntKind} {w : World} {B n g : Nat} {A : Option Addr} {zs : List Int} (h : Rd k w B A n zs) (hg : B ≤ g) : Apt n A g := fun b off hn hA => by
  obtain ⟨b', off', e, hlt, _⟩ := h.2 hn
  rw [hA] at e
  injection e with e
  injection e with e1 e2
  omega
theorem Apt.of_sep {w : World} {n g : Nat} {A A' : Option Addr} (h : Sep w A A') (ha : Apt n A g) (hg : g < w.heap.size) : Apt n A' g := fun b off hn hA => by
  rcases h with h | h
  · rw [h] at hA; exact ha b off hn hA
  · have := h b off hA; omega
theorem Sep.trans {w w' : World} {A B C : Option Addr} (h : Sep w A B) (h' : Sep w' B C) (hs : w.heap.size ≤ w'.heap.size) : Sep w A C := by
  rcases h' with h1 | h1
  · rw [h1]; exact h
  · exact .inr fun b off hA => by have := h1 b off hA; omega
theorem Sep.refl (w : World) (A : Option Addr) : Sep w A A := .inl rfl
/-- A slice of bytes that reads as a list. -/
def RdP (A : Option Addr) (n : Nat) (zs : List Int) (w : World) : Prop := Rd .u8 w w.heap.size A n zs
section
variable {A : Option Addr} {n : Nat} {zs : List Int} {w w' : World}
theorem RdP.rd (h : RdP A n zs w) : Rd .u8 w w.heap.size A n zs := h
theorem RdP.below (h : RdP A n zs w) (hb : Below w.heap.size w w') : RdP A n zs w' := (Rd.below h hb).mono hb.size
theorem RdP.drew (h : RdP A n zs w) : RdP A n zs w.drew := h.below (Below.refl _ _).drew
theorem RdP.store {g : Nat} {t : TypeId} {cs : Array Value} (h : RdP A n zs w) (hk : Blk w g t cs) (ha : Apt n A g) (hs : w'.heap.size = w.heap.size) (hb : ∀ B, B ≤ g → Below B w w') (ho : ∀ j, j ≠ g → w'.heap[j]? = w.heap[j]?) : RdP A n zs w' := by
  have h1 := Rd.other h ho ha
  show Rd .u8 w' w'.heap.size A n zs
  rw [hs]
  exact h1
end
/-- The source that is drawn from at g3; the place of what is handed back at g7; the source's tape. -/
structure DrS (w0 : World) (g3 g7 : Nat) (V : Array Value) (A : Option Addr) (n : Nat) (zs : List Int) (w : World) : Prop where
  blk : Blk w g3 30 V
  bel : Below w0.heap.size w0 w
  rd : RdP A n zs w
  apt3 : Apt n A g3
  apt7 : Apt n A g7
  le3 : w0.heap.size ≤ g3
  lt : g3 < g7
  lt7 : g7 < w.heap.size
section
variable {w0 w w' : World} {g3 g7 n : Nat} {V V' : Array Value} {A A' : Option Addr} {zs : List Int}
theorem DrS.below (h : DrS w0 g3 g7 V A n zs w) (hb : Below w.heap.size w w') : DrS w0 g3 g7 V A n zs w' :=
  ⟨h.blk.below hb h.blk.lt, Below.trans h.bel (hb.mono h.bel.size), h.rd.below hb, h.apt3, h.apt7, h.le3, h.lt, by have := h.lt7; have := hb.size; omega⟩
theorem DrS.drew (h : DrS w0 g3 g7 V A n zs w) : DrS w0 g3 g7 V A n zs w.drew := h.below (Below.refl _ _).drew
theorem DrS.le7 (h : DrS w0 g3 g7 V A n zs w) : w0.heap.size ≤ g7 := by have := h.le3; have := h.lt; omega
theorem DrS.lt3 (h : DrS w0 g3 g7 V A n zs w) : g3 < w.heap.size := by have := h.lt; have := h.lt7; omega
/-- Another block is stored. -/
theorem DrS.store {g : Nat} {t : TypeId} {cs : Array Value} (h : DrS w0 g3 g7 V A n zs w) (hk : Blk w g t cs) (ha : g3 ≠ g ∧ Apt n A g ∧ w0.heap.size ≤ g) (hs : w'.heap.size = w.heap.size) (hb : ∀ B, B ≤ g → Below B w w') (ho : ∀ j, j ≠ g → w'.heap[j]? = w.heap[j]?) : DrS w0 g3 g7 V A n zs w' :=
  ⟨Blk.other h.blk ho ha.1, Below.trans h.bel (hb _ ha.2.2), h.rd.store hk ha.2.1 hs hb ho, h.apt3, h.apt7, h.le3, h.lt, by rw [hs]; exact h.lt7⟩
/-- The place of what is handed back is stored. -/
theorem DrS.store7 (h : DrS w0 g3 g7 V A n zs w) : g3 ≠ g7 ∧ Apt n A g7 ∧ w0.heap.size ≤ g7 := ⟨Nat.ne_of_lt h.lt, h.apt7, h.le7⟩
/-- The source that is drawn from is stored, with another tape. -/
theorem DrS.put3 (h : DrS w0 g3 g7 V A n zs w) (hr : RdP A' n zs w) (h3 : Apt n A' g3) (h7 : Apt n A' g7) (hk : Blk w' g3 30 V') (hs : w'.heap.size = w.heap.size) (hb : ∀ B, B ≤ g3 → Below B w w') (ho : ∀ j, j ≠ g3 → w'.heap[j]? = w.heap[j]?) : DrS w0 g3 g7 V' A' n zs w' :=
  ⟨hk, Below.trans h.bel (hb _ h.le3), hr.store h.blk h3 hs hb ho, h3, h7, h.le3, h.lt, by rw [hs]; exact h.lt7⟩
/-- Its blocks come one behind the other. -/
theorem DrS.mk2 {w1 w2 w3 : World} {Z : Array Value} (hrd : Rd .u8 w w.heap.size A n zs) (hk1 : Blk w1 w.heap.size 30 V) (hb1 : Below w.heap.size w w1) (hk2 : Blk w2 w1.heap.size 30 Z) (hb2 : Below w1.heap.size w1 w2) (hb3 : Below w2.heap.size w2 w3) : DrS w w.heap.size w1.heap.size V A n zs w3 :=
  have hb13 : Below w1.heap.size w1 w3 := hb2.trans (hb3.mono hb2.size)
  have hb03 : Below w.heap.size w w3 := hb1.trans (hb13.mono hb1.size)
  ⟨hk1.below hb13 hk1.lt, hb03, (hrd.below hb03).mono hb03.size, Apt.of_lt hrd (Nat.le_refl _), Apt.of_lt hrd hb1.size, Nat.le_refl _, hk1.lt, by have := hk2.lt; have := hb3.size; omega⟩
end
/-- A draw that is handed back: it lies at g11, the place of what is handed back at g7. -/
structure DrH (w0 : World) (g7 g11 : Nat) (V : Array Value) (A : Option Addr) (n : Nat) (zs : List Int) (w : World) : Prop where
  blk : Blk w g11 30 V
  bel : Below w0.heap.size w0 w
  rd : RdP A n zs w
  apt : Apt n A g7
  ne : g11 ≠ g7
  le : w0.heap.size ≤ g7
section
variable {w0 w w' w5 w6 w7 : World} {g3 g7 g11 n : Nat} {V V2 Z : Array Value} {A A2 : Option Addr} {zs : List Int}
theorem DrH.below (h : DrH w0 g7 g11 V A n zs w) (hb : Below w.heap.size w w') : DrH w0 g7 g11 V A n zs w' :=
  ⟨h.blk.below hb h.blk.lt, Below.trans h.bel (hb.mono h.bel.size), h.rd.below hb, h.apt, h.ne, h.le⟩
theorem DrH.drew (h : DrH w0 g7 g11 V A n zs w) : DrH w0 g7 g11 V A n zs w.drew := h.below (Below.refl _ _).drew
theorem DrH.store {g : Nat} {t : TypeId} {cs : Array Value} (h : DrH w0 g7 g11 V A n zs w) (hk : Blk w g t cs) (ha : g11 ≠ g ∧ Apt n A g ∧ w0.heap.size ≤ g) (hs : w'.heap.size = w.heap.size) (hb : ∀ B, B ≤ g → Below B w w') (ho : ∀ j, j ≠ g → w'.heap[j]? = w.heap[j]?) : DrH w0 g7 g11 V A n zs w' :=
  ⟨Blk.other h.blk ho ha.1, Below.trans h.bel (hb _ ha.2.2), h.rd.store hk ha.2.1 hs hb ho, h.apt, h.ne, h.le⟩
theorem DrH.store7 (h : DrH w0 g7 g11 V A n zs w) : g11 ≠ g7 ∧ Apt n A g7 ∧ w0.heap.size ≤ g7 := ⟨h.ne, h.apt, h.le⟩
theorem DrS.hof (h : DrS w0 g3 g7 V A n zs w) (Z : Array Value) : Fx.off g3 V [.blk g7 30 Z] := ⟨Nat.ne_of_gt h.lt, trivial⟩
/-- What an attempt took is laid into a block of its own. -/
theorem DrS.took (h : DrS w0 g3 g7 V A n zs w) (hz : Fx [.blk g7 30 Z] w) (hr : Rd .u8 w5 w5.heap.size A2 n zs) (hsp : Sep w A A2) (hb5 : Below w.heap.size w w5) (hb6 : Below w5.heap.size w5 w6) (hk6 : Blk w6 w5.heap.size 30 Z) (hk7 : Blk w7 w5.heap.size 30 V2) (hs7 : w7.heap.size = w6.heap.size) (hb7 : ∀ B, B ≤ w5.heap.size → Below B w6 w7) (ho7 : ∀ j, j ≠ w5.heap.size → w7.heap[j]? = w6.heap[j]?) :
    DrS w0 g3 g7 V A n zs w7 ∧ Fx [.blk g7 30 Z] w7 ∧ RdP A2 n zs w7 ∧ Apt n A2 g3 ∧ Apt n A2 g7 ∧ DrH w0 g7 w5.heap.size V2 A2 n zs w7 := by
  have hr5 : RdP A2 n zs w5 := hr
  have z5 := hb5.size
  have l3 := h.lt3
  have l7 := h.lt7
  have a3 := Apt.of_sep hsp h.apt3 h.lt3
  have a7 := Apt.of_sep hsp h.apt7 h.lt7
  have S6 := (h.below hb5).below hb6
  have S7 := S6.store hk6 ⟨by omega, Apt.of_lt h.rd.rd z5, by have := h.bel.size; omega⟩ hs7 hb7 ho7
  have R7 := (hr5.below hb6).store hk6 (Apt.of_lt hr (Nat.le_refl _)) hs7 hb7 ho7
  have Z6 := (hz.below hb5).below hb6
  have Z7 := Z6.store hk6 (show Fx.off w5.heap.size Z [.blk g7 30 Z] from ⟨Nat.ne_of_lt (Nat.lt_of_lt_of_le l7 z5), trivial⟩) hs7 hb7 ho7
  exact ⟨S7, Z7, R7, a3, a7, hk7, S7.bel, R7, a7, by omega, h.le7⟩
end
/-- What a draw hands back, and leaves. -/
def RetDraw (w : World) (s : Src) (A : Option Addr) (r : Int × Src × Int) (e : Ending) (w' : World) : Prop :=
  ∃ A' c', e = .returned (.tuple #[.int .u64 r.1, .agg (srcV r.2.1 A' c'), .int .i64 r.2.2]) ∧ Rd .u8 w' w'.heap.size A' s.tape.length s.tape ∧ s.tape.length ≤ c' ∧ c' ≤ maxLen ∧ Sep w A A' ∧ Below w.heap.size w w'
/-- Behind so many attempts that drew nothing. -/
def DrL (w0 : World) (g3 g7 : Nat) (s : Src) (k : Nat) (n : Int) (a : Nat) (A0 : Option Addr) (Z : Array Value) (i : Nat) (w : World) : Prop :=
  ∃ si Ai ci, drawGo k n a s = drawGo k n (a - i) si ∧ si.Ok ∧ si.tape = s.tape ∧ DrS w0 g3 g7 (srcV si Ai ci) Ai s.tape.length s.tape w ∧ Fx [.blk g7 30 Z] w ∧ Sep w0 A0 Ai ∧ s.tape.length ≤ ci ∧ ci ≤ maxLen
end Go.Proofs.YtomkidgmpbjgeaaGreatDoor
/-
  What a call that draws a leader hands back; what walks over such calls need.
  Conditions: those that each theorem names.
-/
set_option maxRecDepth 100000
set_option linter.unusedVariables false
set_option linter.unusedSimpArgs false
namespace Go.Proofs.YtomkidgmpbjgeaaGreatDoor
open Go.ChangeShapes Go.WideShapes Go.ChangeAt Go.RowKit
theorem fx1 {w : World} {g : Nat} {t : TypeId} {cs : Array Value} (h : Blk w g t cs) : Fx [.blk g t cs] w := ⟨h, trivial⟩
theorem sep_from {w w' : World} {A B : Option Addr} (h : Sep w' A B) (hs : w.heap.size ≤ w'.heap.size) : Sep w A B := (Sep.refl w A).trans h hs
theorem draw_in (s : Src) (n a : Int) : 0 ≤ (drawR s n a).1 ∧ (drawR s n a).1 < 18446744073709551616 := by
  unfold drawR
  split
  · exact drawGo_val _ _ _ _
  · exact ⟨Int.le_refl _, by show (0 : Int) < 18446744073709551616; omega⟩
/-- What a call that draws a leader hands back, and leaves. -/
def RetLead (w : World) (s : Src) (A : Option Addr) (r : Int × Src × Int) (e : Ending) (w' : World) : Prop :=
  ∃ A' c', e = .returned (.tuple #[.int .i64 r.1, .agg (srcV r.2.1 A' c'), .int .i64 r.2.2]) ∧ Rd .u8 w' w'.heap.size A' s.tape.length s.tape ∧ s.tape.length ≤ c' ∧ c' ≤ maxLen ∧ Sep w A A' ∧ Below w.heap.size w w'
end Go.Proofs.YtomkidgmpbjgeaaGreatDoor
/-
  Tapes counted by what they draw, and numbers taken modulo one, in plain Lean.
  Conditions: those that each theorem names.
-/
set_option maxRecDepth 100000
set_option linter.unusedVariables false
set_option linter.unusedSimpArgs false
namespace Go.Proofs.YtomkidgmpbjgeaaGreatDoor
def sumB (f : Nat → Nat) : Nat → Nat
  | 0 => 0
  | n + 1 => sumB f n + f n
theorem sumB_add (f g : Nat → Nat) : ∀ n, sumB (fun v => f v + g v) n = sumB f n + sumB g n
  | 0 => rfl
  | n + 1 => by simp only [sumB, sumB_add f g n]; omega
theorem sumB_congr {f g : Nat → Nat} : ∀ n, (∀ v, v < n → f v = g v) → sumB f n = sumB g n
  | 0, _ => rfl
  | n + 1, h => by rw [sumB, sumB, sumB_congr n (fun v hv => h v (by omega)), h n (by omega)]
theorem sumB_zero : ∀ n, sumB (fun _ => 0) n = 0
  | 0 => rfl
  | n + 1 => by rw [sumB, sumB_zero n]
theorem sumB_mul (f : Nat → Nat) (c : Nat) : ∀ n, sumB f n * c = sumB (fun v => f v * c) n
  | 0 => by simp [sumB]
  | n + 1 => by rw [sumB, sumB, Nat.add_mul, sumB_mul f c n]
theorem sumB_pick (u c : Nat) : ∀ n, sumB (fun v => if v = u then c else 0) n = if u < n then c else 0
  | 0 => by simp [sumB]
  | n + 1 => by
    rw [sumB, sumB_pick u c n]
    by_cases h : n = u
    · subst h; simp
    · rw [if_neg h]
      by_cases h2 : u < n
      · rw [if_pos h2, if_pos (by omega)]; rfl
      · rw [if_neg h2, if_neg (by omega)]
/-- Tapes counted by what they draw. -/
def pickB (p : Nat → Bool) : Option Nat → Bool
  | some v => p v
  | none => false
theorem cnt_split (f : Nat → Option Nat) (p : Nat → Bool) (b : Nat) (hb : ∀ y v, f y = some v → v < b) : ∀ x, cnt (fun y => pickB p (f y)) x = sumB (fun v => if p v = true then cnt (fun y => f y == some v) x else 0) b
  | 0 => by
    rw [show sumB (fun v => if p v = true then cnt (fun y => f y == some v) 0 else 0) b = sumB (fun _ => 0) b from sumB_congr b (fun v _ => by split <;> rfl), sumB_zero]
    rfl
  | x + 1 => by
    have ih := cnt_split f p b hb x
    rw [cnt, ih]
    have e : sumB (fun v => if p v = true then cnt (fun y => f y == some v) (x + 1) else 0) b = sumB (fun v => (if p v = true then cnt (fun y => f y == some v) x else 0) + (if p v = true ∧ f x = some v then 1 else 0)) b := sumB_congr b (fun v _ => by
      rw [cnt]
      by_cases h1 : p v = true
      · by_cases h2 : f x = some v
        · simp [h1, h2]
        · simp [h1, h2]
      · simp [h1])
    rw [e, sumB_add]
    congr 1
    cases hf : f x with
    | none =>
      rw [show sumB (fun v => if p v = true ∧ (none : Option Nat) = some v then 1 else 0) b = sumB (fun _ => 0) b from sumB_congr b (fun v _ => by simp), sumB_zero]
      rfl
    | some u =>
      have hu := hb x u hf
      rw [show sumB (fun v => if p v = true ∧ some u = some v then 1 else 0) b = sumB (fun v => if v = u then (if p u = true then 1 else 0) else 0) b from sumB_congr b (fun v _ => by
        by_cases h : v = u
        · subst h; simp
        · have h2 : ¬ u = v := fun e => h e.symm
          simp [h, h2]), sumB_pick, if_pos hu]
      rfl
def noneL (Q b t x : Nat) : Nat := cnt (fun y => hits Q b t y == none) x
theorem noneL_hit (Q b t x v : Nat) (h : hits Q b t x = some v) : noneL Q b t (x + 1) = noneL Q b t x := by unfold noneL; rw [cnt, h]; simp
theorem noneL_miss (Q b t x : Nat) (h : hits Q b t x = none) : noneL Q b t (x + 1) = noneL Q b t x + 1 := by unfold noneL; rw [cnt, h]; simp
theorem noneL_le (Q b t x : Nat) : noneL Q b t x ≤ x := cnt_le _ _
/-! ### numbers taken modulo one -/
def modK (d : Int) (l : List Int) : List Int := l.map (· % d)
theorem modK_len (d : Int) (l : List Int) : (modK d l).length = l.length := by simp [modK]
theorem modK_at {d : Int} {l : List Int} {i : Nat} (h : i < l.length) : (modK d l).getD i 0 = l.getD i 0 % d := by simp [modK, List.getD_eq_getElem?_getD, h]
theorem modK_in {d : Int} (hd : 0 < d) {l : List Int} : ∀ z ∈ modK d l, 0 ≤ z ∧ z < d := by
  intro z h
  obtain ⟨y, _, rfl⟩ := List.mem_map.1 h
  exact ⟨Int.emod_nonneg _ (by omega), Int.emod_lt_of_pos _ hd⟩
theorem modK_take {d : Int} {l : List Int} {i : Nat} (h : i < l.length) : (modK d l).take (i + 1) = (modK d l).take i ++ [l.getD i 0 % d] := by
  rw [List.take_succ_eq_append_getElem (by rw [modK_len]; exact h)]
  congr 2
  have := modK_at (d := d) h
  rw [List.getD_eq_getElem?_getD, List.getElem?_eq_getElem (by rw [modK_len]; exact h)] at this
  exact this
end Go.Proofs.YtomkidgmpbjgeaaGreatDoor
/-
  Tables of stakes in plain Lean: each number's owner, counted one by one.
  Conditions: those that each theorem names.
-/
set_option maxRecDepth 100000
set_option linter.unusedVariables false
set_option linter.unusedSimpArgs false
namespace Go.Proofs.YtomkidgmpbjgeaaGreatDoor
/-- How many of the first u numbers the place i owns. -/
def cntI (T : Int) (ts : List (Int × Int)) (i : Int) : Nat → Int
  | 0 => 0
  | u + 1 => cntI T ts i u + (if owV T ts (u : Int) = i then 1 else 0)
def cntL (T : Int) (ts : List (Int × Int)) (u : Nat) : List Int := (List.range ts.length).map fun (i : Nat) => cntI T ts i u
theorem cntL_len (T : Int) (ts : List (Int × Int)) (u : Nat) : (cntL T ts u).length = ts.length := by simp [cntL]
theorem cntL_at {T : Int} {ts : List (Int × Int)} {u i : Nat} (h : i < ts.length) : (cntL T ts u).getD i 0 = cntI T ts i u := by simp [cntL, h]
theorem cntL_zero (T : Int) (ts : List (Int × Int)) : cntL T ts 0 = List.replicate ts.length 0 := by
  apply ext_getD (by rw [cntL_len, List.length_replicate])
  intro j hj
  rw [cntL_len] at hj
  rw [cntL_at hj]
  simp [cntI, hj]
theorem cntI_in (T : Int) (ts : List (Int × Int)) (i : Int) : ∀ u : Nat, 0 ≤ cntI T ts i u ∧ cntI T ts i u ≤ (u : Int)
  | 0 => ⟨Int.le_refl _, Int.le_refl _⟩
  | u + 1 => by
    have := cntI_in T ts i u
    unfold cntI
    split <;> omega
theorem cntL_next {T : Int} {ts : List (Int × Int)} {u o : Nat} (ho : o < ts.length) (h : owV T ts (u : Int) = (o : Int)) : (cntL T ts u).set o ((cntL T ts u).getD o 0 + 1) = cntL T ts (u + 1) := by
  apply ext_getD (by rw [List.length_set, cntL_len, cntL_len])
  intro j hj
  rw [List.length_set, cntL_len] at hj
  rw [getD_setT (by rw [cntL_len]; exact ho), cntL_at hj, cntL_at hj]
  have e : cntI T ts j (u + 1) = cntI T ts j u + (if owV T ts (u : Int) = (j : Int) then 1 else 0) := rfl
  rw [e, h]
  by_cases hjo : j = o
  · subst hjo
    rw [if_pos rfl, if_pos rfl, cntL_at hj]
  · rw [if_neg hjo, if_neg (by omega)]
    omega
theorem ow_at {T : Int} {ts : List (Int × Int)} (hr : tabR T ts = true) {k r : Nat} (hk : k < ts.length) (hT : (r : Int) < T) : owV T ts ((k : Int) * T + (r : Int)) = if (r : Int) < (cellL ts k).1 then (k : Int) else (cellL ts k).2 := by
  have hT0 := (tabR_iff.1 hr).2.1
  have h1 : ((k : Int) * T + (r : Int)) / T = (k : Int) := by
    rw [Int.add_comm, Int.add_mul_ediv_right _ _ (by omega), Int.ediv_eq_zero_of_lt (by omega) hT]
    omega
  have h2 : ((k : Int) * T + (r : Int)) % T = (r : Int) := by
    rw [Int.add_comm, Int.add_mul_emod_self_right, Int.emod_eq_of_lt (by omega) hT]
  have h3 : ((k : Int) + 1) * T ≤ (ts.length : Int) * T := Int.mul_le_mul_of_nonneg_right (by omega) (by omega)
  rw [Int.add_mul, Int.one_mul] at h3
  have h4 : owE T ts ((k : Int) * T + (r : Int)) = 0 := by unfold owE; rw [if_pos hr, if_pos (by omega)]
  have h5 : lkE T ts (k : Int) (r : Int) = 0 := by unfold lkE; rw [if_pos hr, if_pos ⟨by omega, by omega, hT⟩]
  unfold owV
  rw [if_pos h4, h1, h2]
  unfold lkV
  rw [if_pos h5, Int.toNat_natCast]
/-- One column, number by number. -/
theorem cnt_col {t : Nat} {ts : List (Int × Int)} (hr : tabR (t : Int) ts = true) {i : Int} {k : Nat} (hk : k < ts.length) (h0 : 0 ≤ (cellL ts k).1) : ∀ r : Nat, r ≤ t →
    cntI (t : Int) ts i (k * t + r) = cntI (t : Int) ts i (k * t) + (if (k : Int) = i then (if (r : Int) < (cellL ts k).1 then (r : Int) else (cellL ts k).1) else 0) + (if (cellL ts k).2 = i then (if (r : Int) < (cellL ts k).1 then 0 else (r : Int) - (cellL ts k).1) else 0)
  | 0, _ => by
    rw [Nat.add_zero]
    by_cases e1 : (k : Int) = i <;> by_cases e2 : (cellL ts k).2 = i <;> by_cases e3 : ((0 : Nat) : Int) < (cellL ts k).1 <;> simp only [if_pos, if_neg, e1, e2, e3, not_false_eq_true, if_true, if_false] <;> omega
  | r + 1, h => by
    have ih := cnt_col hr (i := i) hk h0 r (by omega)
    have ho := ow_at hr hk (r := r) (by omega)
    rw [show k * t + (r + 1) = (k * t + r) + 1 from rfl]
    rw [show cntI (t : Int) ts i ((k * t + r) + 1) = cntI (t : Int) ts i (k * t + r) + (if owV (t : Int) ts ((k * t + r : Nat) : Int) = i then 1 else 0) from rfl, ih, show ((k * t + r : Nat) : Int) = (k : Int) * (t : Int) + (r : Int) from by rw [Int.natCast_add, Int.natCast_mul], ho, Int.natCast_add]
    generalize (cellL ts k).1 = c at *
    generalize (cellL ts k).2 = a at *
    generalize cntI (t : Int) ts i (k * t) = C at *
    have hn1 : ((1 : Nat) : Int) = 1 := rfl
    rw [hn1]
    by_cases h1 : (r : Int) < c
    · simp only [if_pos h1]
      by_cases h2 : (r : Int) + 1 < c
      · simp only [if_pos h2]
        by_cases e1 : (k : Int) = i
        · by_cases e2 : a = i
          · simp only [if_pos e1, if_pos e2]; omega
          · simp only [if_pos e1, if_neg e2]; omega
        · by_cases e2 : a = i
          · simp only [if_neg e1, if_pos e2]; omega
          · simp only [if_neg e1, if_neg e2]; omega
      · simp only [if_neg h2]
        by_cases e1 : (k : Int) = i
        · by_cases e2 : a = i
          · simp only [if_pos e1, if_pos e2]; omega
          · simp only [if_pos e1, if_neg e2]; omega
        · by_cases e2 : a = i
          · simp only [if_neg e1, if_pos e2]; omega
          · simp only [if_neg e1, if_neg e2]; omega
    · have h2 : ¬ (r : Int) + 1 < c := by omega
      simp only [if_neg h1, if_neg h2]
      by_cases e1 : (k : Int) = i
      · by_cases e2 : a = i
        · simp only [if_pos e1, if_pos e2]; omega
        · simp only [if_pos e1, if_neg e2]; omega
      · by_cases e2 : a = i
        · simp only [if_neg e1, if_pos e2]; omega
        · simp only [if_neg e1, if_neg e2]; omega
theorem cnt_owns {t : Nat} {ts : List (Int × Int)} (hr : tabR (t : Int) ts = true) (h0 : ∀ k, k < ts.length → 0 ≤ (cellL ts k).1) (i : Int) : ∀ k : Nat, k ≤ ts.length → cntI (t : Int) ts i (k * t) = ownsN (t : Int) ts i k
  | 0, _ => by rw [Nat.zero_mul]; rfl
  | k + 1, h => by
    have hc := ((tabR_iff.1 hr).2.2.2 k (by omega)).1
    have h1 := cnt_col hr (i := i) (k := k) (by omega) (h0 k (by omega)) t (Nat.le_refl _)
    rw [show (k + 1) * t = k * t + t from by rw [Nat.add_mul, Nat.one_mul], h1, cnt_owns hr h0 i k (by omega), if_neg (show ¬ ((t : Int) < (cellL ts k).1) from by omega), if_neg (show ¬ ((t : Int) < (cellL ts k).1) from by omega)]
    show _ = ownsN (t : Int) ts i k + ownK (t : Int) i k (cellL ts k)
    unfold ownK
    omega
theorem ow_in {T u : Int} {ts : List (Int × Int)} (hr : tabR T ts = true) (u0 : 0 ≤ u) (h : u < (ts.length : Int) * T) : ∃ o : Nat, o < ts.length ∧ owV T ts u = (o : Int) ∧ owE T ts u = 0 := by
  have hT := (tabR_iff.1 hr).2.1
  have h0 : owE T ts u = 0 := by unfold owE; rw [if_pos hr, if_pos h]
  have q0 : 0 ≤ u / T := Int.ediv_nonneg u0 (by omega)
  have q1 : u / T < (ts.length : Int) := Int.ediv_lt_of_lt_mul hT h
  have r1 := Int.emod_lt_of_pos u hT
  have h1 : lkE T ts (u / T) (u % T) = 0 := by unfold lkE; rw [if_pos hr, if_pos ⟨q0, q1, r1⟩]
  obtain ⟨k, hk⟩ := Int.eq_ofNat_of_zero_le q0
  have hc := (tabR_iff.1 hr).2.2.2 k (by omega)
  have e : owV T ts u = if u % T < (cellL ts k).1 then (k : Int) else (cellL ts k).2 := by
    unfold owV
    rw [if_pos h0]
    unfold lkV
    rw [if_pos h1, hk, Int.toNat_natCast]
  by_cases h2 : u % T < (cellL ts k).1
  · exact ⟨k, by omega, by rw [e, if_pos h2], h0⟩
  · obtain ⟨a, ha⟩ := Int.eq_ofNat_of_zero_le hc.2.1
    exact ⟨a, by omega, by rw [e, if_neg h2, ha], h0⟩
/-! ### stakes below 20 -/
def m20 (l : List Int) : List Int := l.map (· % 20)
theorem m20_len (l : List Int) : (m20 l).length = l.length := by simp [m20]
theorem m20_in {l : List Int} : ∀ z ∈ m20 l, 0 ≤ z ∧ z < 20 := by
  intro z hz
  obtain ⟨x, _, rfl⟩ := List.mem_map.1 hz
  omega
theorem m20_at {l : List Int} {i : Nat} (h : i < l.length) : (m20 l).getD i 0 = l.getD i 0 % 20 := by simp [m20, h]
theorem m20_take {l : List Int} {i : Nat} (h : i < l.length) : (m20 l).take (i + 1) = (m20 l).take i ++ [l.getD i 0 % 20] := by
  rw [List.take_succ_eq_append_getElem (by rw [m20_len]; exact h)]
  have := m20_at h
  rw [List.getD_eq_getElem?_getD, List.getElem?_eq_getElem (by rw [m20_len]; exact h)] at this
  rw [← this]
  rfl
theorem sum_small {m : Int} (hm : 0 ≤ m) : ∀ {l : List Int}, (∀ z ∈ l, z ≤ m) → sumL l ≤ m * (l.length : Int)
  | [], _ => by simp [sumL]
  | x :: l, h => by
    have h1 := sum_small hm (l := l) (fun z hz => h z (by simp [hz]))
    have h2 := h x (by simp)
    show x + sumL l ≤ m * ((l.length + 1 : Nat) : Int)
    rw [Int.natCast_add, Int.mul_add]
    simp
    omega
/-- Of up to 12 stakes below 20: how great the sum and the table are, and why there is none. -/
theorem m20_sum {l : List Int} (hl : l.length ≤ 12) : 0 ≤ sumL (m20 l) ∧ sumL (m20 l) ≤ 228 ∧ (l.length : Int) * sumL (m20 l) ≤ 2736 ∧ (tbE (m20 l) ≠ 0 → tbE (m20 l) = 10) := by
  have h0 := sumL_nn (l := m20 l) (fun z hz => (m20_in z hz).1)
  have h1 := sum_small (m := 19) (by omega) (l := m20 l) (fun z hz => by have := m20_in z hz; omega)
  rw [m20_len] at h1
  have h2 : sumL (m20 l) ≤ 228 := by omega
  have h3 : (l.length : Int) * sumL (m20 l) ≤ 12 * 228 := Int.mul_le_mul (by omega) h2 h0 (by omega)
  refine ⟨h0, h2, by omega, fun he => ?_⟩
  unfold tbE at he ⊢
  rw [m20_len] at he ⊢
  by_cases e1 : l.length = 0
  · rw [if_pos e1]
  · rw [if_neg e1, if_pos (by omega)] at he ⊢
    by_cases e2 : sumL (m20 l) = 0
    · rw [if_pos e2]
    · rw [if_neg e2, if_pos (by omega)] at he
      exact absurd rfl he
end Go.Proofs.YtomkidgmpbjgeaaGreatDoor
/-
  How many tapes each place leads by, drawn by a table, in plain Lean; who leads, of a table, by a source.
  Conditions: those that each theorem names.
-/
set_option maxRecDepth 100000
set_option linter.unusedVariables false
set_option linter.unusedSimpArgs false
namespace Go.Proofs.YtomkidgmpbjgeaaGreatDoor
/-- Who owns a number, by a table. -/
def pikP (T : Int) (ts : List (Int × Int)) (i : Nat) (v : Nat) : Bool := decide (owV T ts (v : Int) = (i : Int))
theorem pik_cnt (T : Int) (ts : List (Int × Int)) (i : Nat) : ∀ u : Nat, ((sumB (fun v => if pikP T ts i v = true then 1 else 0) u : Nat) : Int) = cntI T ts (i : Int) u
  | 0 => rfl
  | u + 1 => by
    have ih := pik_cnt T ts i u
    rw [sumB, cntI, ← ih]
    by_cases h : owV T ts (u : Int) = (i : Int)
    · rw [if_pos h, if_pos (show pikP T ts i u = true from decide_eq_true h)]; push_cast; rfl
    · rw [if_neg h, if_neg (show ¬ pikP T ts i u = true from fun h2 => h (of_decide_eq_true h2))]; push_cast; rfl
/-- By so many of all tapes a place leads. -/
theorem pik_count {l : List Int} (hz : ∀ z ∈ l, 0 ≤ z) (h : tbE l = 0) {tt b Q t N L : Nat} (ht : sumL l = (tt : Int)) (hb : l.length * tt = b) (hev : ∀ v, v < b → cnt (fun y => hits Q b t y == some v) N * b + L = N) {i : Nat} (hi : i < l.length) :
    ((cnt (fun y => pickB (pikP (tbT l) (tbC l) i) (hits Q b t y)) N : Nat) : Int) * (tt : Int) = l.getD i 0 * ((N : Int) - (L : Int)) := by
  obtain ⟨e1, e2, e3, e4⟩ := tb_right hz h
  have hT := (tb_abi hz h).1
  rw [ht] at hT
  rw [hT] at e2 e4 ⊢
  have ho := e4 i hi
  have hc := cnt_owns e2 (fun k hk => e3 k (by omega)) (i : Int) (tbC l).length (Nat.le_refl _)
  rw [e1, hb] at hc
  have h1 := cnt_split (hits Q b t) (pikP (tt : Int) (tbC l) i) b (fun y v h => hits_lt Q b t y v h) N
  have h2 : cnt (fun y => pickB (pikP (tt : Int) (tbC l) i) (hits Q b t y)) N * b = sumB (fun v => if pikP (tt : Int) (tbC l) i v = true then 1 else 0) b * (N - L) := by
    rw [h1, sumB_mul, sumB_mul]
    apply sumB_congr
    intro v hv
    have := hev v hv
    split
    · rw [Nat.one_mul]; omega
    · rw [Nat.zero_mul, Nat.zero_mul]
  have h3 := pik_cnt (tt : Int) (tbC l) i b
  rw [hc, ho] at h3
  have hn : l.length ≠ 0 := by omega
  have ht0 : sumL l ≠ 0 := (tbE_iff.1 h).2.2.1
  have hb0 : 0 < b := by rw [← hb]; exact Nat.mul_pos (by omega) (by omega)
  have h4 := hev 0 hb0
  have h5 : (N : Int) - (L : Int) = ((N - L : Nat) : Int) := by omega
  rw [h5]
  have h6 : ((cnt (fun y => pickB (pikP (tt : Int) (tbC l) i) (hits Q b t y)) N : Nat) : Int) * (b : Int) = ((sumB (fun v => if pikP (tt : Int) (tbC l) i v = true then 1 else 0) b : Nat) : Int) * ((N - L : Nat) : Int) := by exact_mod_cast h2
  rw [h3, ← hb] at h6
  push_cast at h6
  have h7 : (l.length : Int) * (((cnt (fun y => pickB (pikP (tt : Int) (tbC l) i) (hits Q (l.length * tt) t y)) N : Nat) : Int) * (tt : Int)) = (l.length : Int) * (l.getD i 0 * ((N - L : Nat) : Int)) := by
    rw [← Int.mul_assoc (l.length : Int) (l.getD i 0), ← h6, Int.mul_left_comm]
  rw [← hb]
  exact Int.eq_of_mul_eq_mul_left (by omega) h7
/-! ### tapes counted one by one -/
def pikC (T : Int) (ts : List (Int × Int)) (Q b t i x : Nat) : Nat := cnt (fun y => pickB (pikP T ts i) (hits Q b t y)) x
def pikL (T : Int) (ts : List (Int × Int)) (Q b t x : Nat) : List Int := (List.range ts.length).map fun i => ((pikC T ts Q b t i x : Nat) : Int)
theorem pikL_len (T : Int) (ts : List (Int × Int)) (Q b t x : Nat) : (pikL T ts Q b t x).length = ts.length := by simp [pikL]
theorem pikL_at {T : Int} {ts : List (Int × Int)} {i : Nat} (Q b t x : Nat) (h : i < ts.length) : (pikL T ts Q b t x).getD i 0 = ((pikC T ts Q b t i x : Nat) : Int) := by simp [pikL, h]
theorem pikL_zero (T : Int) (ts : List (Int × Int)) (Q b t : Nat) : pikL T ts Q b t 0 = List.replicate ts.length 0 := by
  apply ext_getD (by rw [pikL_len, List.length_replicate])
  intro j hj
  rw [pikL_len] at hj
  have e : (List.replicate ts.length (0 : Int)).getD j 0 = 0 := by rw [List.getD_eq_getElem?_getD, List.getElem?_replicate]; split <;> rfl
  rw [pikL_at _ _ _ _ hj, e]
  rfl
theorem pikC_le (T : Int) (ts : List (Int × Int)) (Q b t i x : Nat) : pikC T ts Q b t i x ≤ x := cnt_le _ _
theorem pikL_miss (T : Int) (ts : List (Int × Int)) (Q b t x : Nat) (h : hits Q b t x = none) : pikL T ts Q b t (x + 1) = pikL T ts Q b t x := by
  unfold pikL pikC
  congr 1
  funext i
  rw [cnt, h]
  rfl
theorem pikL_hit (T : Int) (ts : List (Int × Int)) (Q b t x v o : Nat) (h : hits Q b t x = some v) (ho : o < ts.length) (hv : owV T ts (v : Int) = (o : Int)) : (pikL T ts Q b t x).set o ((pikL T ts Q b t x).getD o 0 + 1) = pikL T ts Q b t (x + 1) := by
  apply ext_getD (by rw [List.length_set, pikL_len, pikL_len])
  intro j hj
  rw [List.length_set, pikL_len] at hj
  rw [pikL_at _ _ _ (x + 1) hj]
  have hstep : pikC T ts Q b t j (x + 1) = pikC T ts Q b t j x + if pikP T ts j v = true then 1 else 0 := by
    unfold pikC
    rw [cnt, h]
    rfl
  rw [hstep]
  by_cases hjo : j = o
  · subst hjo
    rw [List.getD_eq_getElem?_getD, List.getElem?_set_self (by rw [pikL_len]; exact hj)]
    show (pikL T ts Q b t x).getD j 0 + 1 = _
    rw [pikL_at _ _ _ x hj, if_pos (show pikP T ts j v = true from decide_eq_true hv)]
    push_cast
    rfl
  · rw [List.getD_eq_getElem?_getD, List.getElem?_set_ne (fun h => hjo h.symm), ← List.getD_eq_getElem?_getD, pikL_at _ _ _ x hj, if_neg (show ¬ pikP T ts j v = true from fun h => by have := of_decide_eq_true h; rw [hv] at this; omega)]
    rfl
/-- Who owns a number has a stake. -/
theorem cnt_pos {T : Int} {ts : List (Int × Int)} {i : Int} {u : Nat} (h : owV T ts (u : Int) = i) : ∀ k : Nat, u < k → 1 ≤ cntI T ts i k
  | 0, hk => by omega
  | k + 1, hk => by
    rw [cntI]
    have h0 := (cntI_in T ts i k).1
    by_cases hu : u = k
    · subst hu; rw [if_pos h]; omega
    · have := cnt_pos h k (by omega)
      split <;> omega
theorem pik_stake {l : List Int} (hz : ∀ z ∈ l, 0 ≤ z) (h : tbE l = 0) {u : Int} (u0 : 0 ≤ u) (u1 : u < ((tbC l).length : Int) * tbT l) : ∃ o : Nat, o < l.length ∧ owV (tbT l) (tbC l) u = (o : Int) ∧ 0 < l.getD o 0 := by
  obtain ⟨e1, e2, e3, e4⟩ := tb_right hz h
  obtain ⟨o, h1, h2, h3⟩ := ow_in e2 u0 u1
  rw [e1] at h1
  refine ⟨o, h1, h2, ?_⟩
  obtain ⟨v, rfl⟩ := Int.eq_ofNat_of_zero_le u0
  have hT := (tb_abi hz h).1
  obtain ⟨tt, ht⟩ := Int.eq_ofNat_of_zero_le (sumL_nn hz)
  rw [ht] at hT
  rw [hT] at e2 e4 h2 u1
  have hc := cnt_owns e2 (fun k hk => e3 k (by omega)) (o : Int) (tbC l).length (Nat.le_refl _)
  have hlt : v < (tbC l).length * tt := by
    have : ((v : Nat) : Int) < (((tbC l).length * tt : Nat) : Int) := by rw [Int.natCast_mul]; exact u1
    omega
  have hp := cnt_pos h2 _ hlt
  rw [hc, e1, e4 o h1] at hp
  have hg := (getD_le hz h1).1
  rcases Int.lt_or_le 0 (l.getD o 0) with h5 | h5
  · exact h5
  · have h6 : l.getD o 0 = 0 := by omega
    rw [h6, Int.mul_zero] at hp
    omega
end Go.Proofs.YtomkidgmpbjgeaaGreatDoor
/-
  Who leads, by a table and a source: in plain Lean; shapes of what hands it back.
  Conditions: those that each theorem names.
-/
set_option maxRecDepth 100000
set_option linter.unusedVariables false
set_option linter.unusedSimpArgs false
namespace Go.Proofs.YtomkidgmpbjgeaaGreatDoor
open Go.ChangeShapes Go.WideShapes Go.ChangeAt Go.RowKit
/-- A number below the table's size is drawn; its owner leads. -/
def pikGo (T : Int) (ts : List (Int × Int)) (r : Int × Src × Int) : Int × Src × Int := if r.2.2 = 0 then (owV T ts r.1, r.2.1, 0) else (0, r.2.1, r.2.2)
def pikT (T : Int) (ts : List (Int × Int)) (s : Src) (a : Int) : Int × Src × Int := if tabR T ts = true then pikGo T ts (drawR s (tabZ T ts) a) else (0, s, 1)
def pikR (l : List Int) (s : Src) (a : Int) : Int × Src × Int := if tbE l = 0 then pikT (tbT l) (tbC l) s a else (0, s, tbE l)
theorem pikT_bad {T : Int} {ts : List (Int × Int)} (s : Src) (a : Int) (h : tabR T ts = false) : pikT T ts s a = (0, s, 1) := if_neg (by rw [h]; decide)
theorem pikT_go {T : Int} {ts : List (Int × Int)} (s : Src) (a : Int) (h : tabR T ts = true) : pikT T ts s a = pikGo T ts (drawR s (tabZ T ts) a) := if_pos h
theorem pikR_err {l : List Int} (s : Src) (a : Int) (h : tbE l ≠ 0) : pikR l s a = (0, s, tbE l) := if_neg h
theorem pikR_go {l : List Int} (s : Src) (a : Int) (h : tbE l = 0) : pikR l s a = pikT (tbT l) (tbC l) s a := if_pos h
theorem pikT_in (T : Int) (ts : List (Int × Int)) (s : Src) (a : Int) (ok : s.Ok) : (pikT T ts s a).2.1.Ok ∧ (pikT T ts s a).2.1.tape = s.tape := by
  unfold pikT pikGo
  split
  · split
    · exact ⟨drawT_ok s _ a ok, drawT_tape s _ a⟩
    · exact ⟨drawT_ok s _ a ok, drawT_tape s _ a⟩
  · exact ⟨ok, rfl⟩
theorem pikR_in (l : List Int) (s : Src) (a : Int) (ok : s.Ok) : (pikR l s a).2.1.Ok ∧ (pikR l s a).2.1.tape = s.tape := by
  unfold pikR
  split
  · exact pikT_in _ _ s a ok
  · exact ⟨ok, rfl⟩
theorem pikT_no (T : Int) (ts : List (Int × Int)) (s : Src) (a : Int) (h : (pikT T ts s a).2.2 ≠ 0) : (pikT T ts s a).1 = 0 := by
  unfold pikT pikGo at h ⊢
  split
  · rename_i h1
    rw [if_pos h1] at h
    split
    · rename_i h2
      rw [if_pos h2] at h
      exact absurd rfl h
    · rfl
  · rfl
theorem pikR_no (l : List Int) (s : Src) (a : Int) (h : (pikR l s a).2.2 ≠ 0) : (pikR l s a).1 = 0 := by
  unfold pikR at h ⊢
  split
  · rename_i h1
    rw [if_pos h1] at h
    exact pikT_no _ _ s a h
  · rfl
/-- Who leads has a stake; the source has gone on. -/
theorem pikR_ok {l : List Int} (hz : ∀ z ∈ l, 0 ≤ z) (s : Src) (a : Int) (h : (pikR l s a).2.2 = 0) : ∃ k, k < l.length ∧ (pikR l s a).1 = (k : Int) ∧ 0 < l.getD k 0 ∧ s.at_ ≤ (pikR l s a).2.1.at_ := by
  by_cases h0 : tbE l = 0
  · obtain ⟨e1, e2, e3, e4⟩ := tb_right hz h0
    rw [pikR_go s a h0, pikT_go s a e2] at h ⊢
    have hZ : tabZ (tbT l) (tbC l) = ((tbC l).length : Int) * tbT l := if_pos e2
    unfold pikGo at h ⊢
    by_cases h2 : (drawR s (tabZ (tbT l) (tbC l)) a).2.2 = 0
    · rw [if_pos h2]
      have hx := draw_in s (tabZ (tbT l) (tbC l)) a
      unfold drawR at h2 hx ⊢
      by_cases hb : drawB s (tabZ (tbT l) (tbC l)) a = true
      · rw [if_pos hb] at h2 hx ⊢
        obtain ⟨f1, j, _, f2, _⟩ := drawGo_first _ _ _ _ h2
        rw [hZ] at f1
        obtain ⟨k, g1, g2, g3⟩ := pik_stake hz h0 hx.1 (by rw [hZ] at *; exact f1)
        refine ⟨k, g1, g2, g3, ?_⟩
        rw [f2]
        show s.at_ ≤ s.at_ + _
        omega
      · rw [if_neg hb] at h2
        exact absurd h2 (by show ¬ ((1 : Int) = 0); decide)
    · rw [if_neg h2] at h
      exact absurd h h2
  · rw [pikR_err s a h0] at h
    exact absurd h h0
end Go.Proofs.YtomkidgmpbjgeaaGreatDoor
/-
  What the program's stream.Domain and Split return, and the reference's Domain and pow; they leave memory as it was.
  Conditions: the arguments lie in their types' ranges.
-/
set_option maxRecDepth 100000
set_option linter.unusedSimpArgs false
namespace Go.Proofs.YtomkidgmpbjgeaaGreatDoor
open Go.ChangeShapes Go.WideShapes Go.ChangeAt Go.RowKit
set_option linter.unusedVariables false
theorem dom_or (k i : Int) (k0 : 0 ≤ k) (k1 : k < 4294967296) (i0 : 0 ≤ i) (i1 : i < 4294967296) : bits .or .u64 (k * 4294967296) i = k * 4294967296 + i := Wd.u64_or_add k i 32 k0 i0 (by omega) (by omega)
theorem pow2_lt (n : Nat) (h : n ≤ 63) : (2 : Int) ^ n < 18446744073709551616 := by
  have h1 : (2 : Int) ^ n ≤ 2 ^ 63 := by
    have h2 : 2 ^ n ≤ 2 ^ 63 := Nat.pow_le_pow_right (by omega) h
    exact_mod_cast h2
  omega
theorem pow2_next (n : Nat) : (2 : Int) * 2 ^ n = 2 ^ (n + 1) := by rw [Int.pow_succ]; omega
theorem rpow_c (n : Nat) (hn : n ≤ 63) (w : World) :
    Calls Tryz.prog 62 #[.int .u64 n] w fun e w' => e = .returned (.int .u64 (2 ^ n)) ∧ w' = w := by
  go_enter Tryz.func62, Tryz.ntmps62
  go_wp2
  go_loop [3, 4] (fun p v => ∃ i : Nat, i ≤ n ∧ p = .int .u64 (2 ^ i) ∧ v = .int .u64 i) (fun _ v => n - (intOf v).toNat)
  case atStart => exact ⟨0, by omega, rfl, rfl⟩
  case round =>
    obtain ⟨i, hi, rfl, rfl⟩ := hrel
    by_cases hlt : i < n
    · have p0 := Wd.pow_pos2 i
      have p1 := pow2_lt (i + 1) (by omega)
      have e := pow2_next i
      rw [← e] at p1
      have HE := Lib.hid e
      clear e
      obtain ⟨p, hp⟩ : ∃ p : Int, 2 ^ i = p := ⟨_, rfl⟩
      rw [hp] at p0 p1 HE ⊢
      go_wp2
      go_round
      case rel => exact ⟨i + 1, by omega, by rw [← HE.out], by go_num⟩
      case measure => simp [intOf]; omega
    · obtain rfl : i = n := by omega
      go_wp2
      go_ret
      exact ⟨rfl, rfl⟩
end Go.Proofs.YtomkidgmpbjgeaaGreatDoor
/-
  What the reference's functions of stage 6 return (drawlotref06: Block, Bit, Bytes), and that they leave memory as it was.
  Conditions: the arguments lie in their types' ranges.
-/
set_option maxRecDepth 100000
set_option linter.unusedSimpArgs false
namespace Go.Proofs.YtomkidgmpbjgeaaGreatDoor
open Go.ChangeShapes Go.WideShapes Go.ChangeAt Go.RowKit
set_option linter.unusedVariables false
theorem rput64s_c (x : Int) (h0 : 0 ≤ x) (h1 : x < 18446744073709551616) (w : World) : Calls Tryz.prog 64 #[.int .u64 x] w fun e w' => e = .returned (.agg (intsA .u8 (put8L x))) ∧ Below w.heap.size w w' :=
  (rput64_c x h0 h1 w).mono fun _ _ ⟨h, h2, _⟩ => ⟨h, h2⟩
set_option maxHeartbeats 4000000 in
theorem rblock_c (s : List Int) (d i : Int) (hl : s.length = 32) (hs : ∀ z ∈ s, 0 ≤ z ∧ z < 256) (d0 : 0 ≤ d) (d1 : d < 18446744073709551616) (i0 : 0 ≤ i) (i1 : i < 18446744073709551616) (w : World) :
    Calls Tryz.prog 61 #[.agg (intsA .u8 s), .int .u64 d, .int .u64 i] w fun e w' => e = .returned (.agg (intsA .u8 (blkL s d i))) ∧ Below w.heap.size w w' := by
  obtain ⟨ti, hti, hz0, hz1, hzb⟩ := info_parts info_u8'
  have HPD := Lib.hid (fun W => rput64s_c d d0 d1 W)
  have HPI := Lib.hid (fun W => rput64s_c i i0 i1 W)
  have hin := blkIn_in s d i hs d0 d1 i0 i1
  have hil := blkIn_len s d i hl
  have hxl : (put8L d).length = 8 := rfl
  have hyl : (put8L i).length = 8 := rfl
  have hrl := blkL_len s d i
  have hre : blkL s d i = shaL (blkIn s d i) := rfl
  have hie : blkIn s d i = s ++ put8L d ++ put8L i := rfl
  obtain ⟨X, hX⟩ : ∃ X, put8L d = X := ⟨_, rfl⟩
  obtain ⟨Y, hY⟩ : ∃ Y, put8L i = Y := ⟨_, rfl⟩
  obtain ⟨I, hI⟩ : ∃ I, blkIn s d i = I := ⟨_, rfl⟩
  obtain ⟨R, hR⟩ : ∃ R, blkL s d i = R := ⟨_, rfl⟩
  rw [hX] at HPD hxl hie
  rw [hY] at HPI hyl hie
  rw [hI] at hin hil hre hie
  rw [hR] at hrl hre ⊢
  have HS := Lib.hid (fun A c W h h' => rsum_c A c 48 I W h h' (by omega) hin)
  rw [← hre] at HS
  obtain ⟨Z, hZ⟩ : ∃ Z : List Int, List.replicate 32 0 = Z := ⟨_, rfl⟩
  obtain ⟨V, hV⟩ : ∃ V : List Int, List.replicate 8 0 = V := ⟨_, rfl⟩
  have HZ0 := Lib.hid zero_hash
  have HV0 := Lib.hid zero_b8s
  rw [hZ] at HZ0
  rw [hV] at HV0
  have hZl : Z.length = 32 := by rw [← hZ]; simp
  have hVl : V.length = 8 := by rw [← hV]; simp
  have SR := Lib.hid (show (Tryz.prog.info? 28).map (·.size) = some R.length by rw [hrl]; exact size_hash)
  have ZR := Lib.hid (show Z.length = R.length by rw [hrl, hZl])
  have SX := Lib.hid (show (Tryz.prog.info? 95).map (·.size) = some X.length by rw [hxl]; exact size_b8s)
  have SY := Lib.hid (show (Tryz.prog.info? 95).map (·.size) = some Y.length by rw [hyl]; exact size_b8s)
  have VX := Lib.hid (show V.length = X.length by rw [hxl, hVl])
  have VY := Lib.hid (show V.length = Y.length by rw [hyl, hVl])
  have HSL := Lib.hid hl
  have HXL := Lib.hid hxl
  have HYL := Lib.hid hyl
  have HIL := Lib.hid hil
  have HIE := Lib.hid hie
  have HSN := Lib.hid (fun (l : List Int) (j : Nat) (h : j < l.length) => take_snoc l j h)
  clear hin hil hxl hyl hrl hre hie hX hY hI hR hZ hV hZl hVl hl hs
  go_enter Tryz.func61, Tryz.ntmps61
  go_wp2_with (first
    | (with_reducible refine at_any ?_; refine at_dst 3 rfl ?_; refine wpList_box_ints rfl 28 (.tmp 0) rfl .u8 s rfl ?_; intro w1 hk1 hs1 hb1; have F1 := Lib.hid (Fx.box hk1.out hb1); clear hk1 hs1 hb1)
    | (with_reducible refine at_any ?_; refine at_dst 6 rfl ?_; refine wpList_alloc_ints rfl 28 rfl .u8 Z HZ0.out ?_; intro w2 hk2 hs2 hb2; have U1 := Lib.hid (Fx.under_new F1.out rfl); have F2 := Lib.hid (Fx.new F1.out hk2.out hb2); clear hk2 hs2 F1 hb2))
  have h3lt : w.heap.size < w1.heap.size := U1.out.1
  obtain ⟨g6, hg6⟩ : ∃ g, w1.heap.size = g := ⟨_, rfl⟩
  obtain ⟨g3, hg3⟩ : ∃ g, w.heap.size = g := ⟨_, rfl⟩
  have h0 : w.heap.size ≤ g3 := by omega
  rw [hg6, hg3] at F2 h3lt
  rw [hg6, hg3]
  clear hg6 hg3 U1
  go_loopw [7, 8] (fun v c wr => ∃ j : Nat, j ≤ 32 ∧ c = .int .i64 j ∧ OwnI wr w.heap.size 5 .u8 v (s.take j) ∧ Fx [.blk g6 28 (intsA .u8 Z), .blk g3 28 (intsA .u8 s), .bel w] wr) (fun _ c _ => 32 - (intOf c).toNat)
  case atStart => exact ⟨0, by omega, rfl, own_nil _ _ _, F2.out⟩
  case round =>
    clear F2
    obtain ⟨j, hj, rfl, hown, hF⟩ := hrel
    have hlen : (s.take j).length = j := by rw [List.length_take, HSL.out]; omega
    by_cases hlt : j < 32
    · have hsn := HSN.out s j (by rw [HSL.out]; exact hlt)
      have hc : wr.cell? ⟨g3, j, none⟩ = some (.int .u8 (s.getD j 0)) := (Fx.fst hF.2).cell (by rw [HSL.out]; exact hlt)
      obtain ⟨b, hb⟩ : ∃ b, s.getD j 0 = b := ⟨_, rfl⟩
      rw [hb] at hsn hc
      have HLN := Lib.hid hlen
      have HSNj := Lib.hid hsn
      have HOW := Lib.hid hown
      have HF := Lib.hid hF
      clear hb hsn hown hF hlen
      go_wp2_with (at_builtin; refine wpList_append_ints _ rfl (.tmp 17) (.tmp 21) 26 rfl w.heap.size 5 ti _ 1 .u8 Tryz.underlying26 hti hz0 hz1 hzb rfl _ (s.take j) rfl (HOW.out.alloc _) (wr.heap.size + 1) (some ⟨wr.heap.size, 0, none⟩) 1 1 [b] rfl (rd_one wr 5 .u8 b) (by rw [HLN.out]; simp [maxLen]; omega) (by rw [HLN.out]; omega) (by have := Below.size (Fx.bel3 HF.out); simp; omega) ?_; intro v6 w6 hown6 hg6 hat6; have F6 := Lib.hid (Fx.grown (Fx.alloc HF.out _) (HOW.out.alloc _) (Fx.free3 (by decide) (by decide)) (by have := Below.size (Fx.bel3 HF.out); simp; omega) hg6); rw [HSNj.out] at hown6; have O6 := Lib.hid hown6; clear hg6 hat6 hown6)
      go_roundw
      case rel => exact ⟨j + 1, by omega, by go_num, O6.out, F6.out⟩
      case measure => simp [intOf]; omega
    · obtain rfl : j = 32 := by omega
      rw [List.take_of_length_le (by rw [HSL.out]; exact Nat.le_refl _)] at hown
      have HOW := Lib.hid hown
      have HF := Lib.hid hF
      clear hown hF hlen
      go_wp2_with (first
        | (go_at_call 64; (with_reducible refine (HPD.out _).mono ?_); rintro e w3 ⟨rfl, hb3⟩; have F3 := Lib.hid (HF.out.below hb3); have O3 := Lib.hid (HOW.out.below hb3); clear HF HOW hb3)
        | (go_at_call 64; (with_reducible refine (HPI.out _).mono ?_); rintro e w4 ⟨rfl, hb4⟩; have F4 := Lib.hid (F3.out.below hb4); have O4 := Lib.hid (O3.out.below hb4); clear F3 O3 hb4)
        | (with_reducible refine at_any ?_; refine at_dst 9 rfl ?_; refine wpList_alloc_ints rfl 95 rfl .u8 V HV0.out ?_; intro w5 hk5 hs5 hb5; have U4 := Lib.hid (Fx.under_new F4.out rfl); have F5 := Lib.hid (Fx.new F4.out hk5.out hb5); have B5 := Lib.hid hb5; clear hk5 hs5 F4 hb5)
        | (with_reducible refine at_any ?_; refine at_dst 10 rfl ?_; refine wpList_alloc_ints rfl 95 rfl .u8 V HV0.out ?_; intro w6 hk6 hs6 hb6; have U5 := Lib.hid (Fx.under_new F5.out rfl); have F6 := Lib.hid (Fx.new F5.out hk6.out hb6); have B6 := Lib.hid (B5.out.trans (hb6.mono B5.out.size)); clear hk6 hs6 F5 hb6)
        | (with_reducible refine at_any ?_; refine at_store 9 rfl ?_; refine wpList_store_ints rfl 95 (.tmp 9) (.tmp 24) rfl w4.heap.size rfl 95 .u8 V X (Fx.snd F6.out) rfl VX.out SX.out ?_; intro w7 hk7 hs7 hb7 ho7; have F7 := Lib.hid (Fx.put2 F6.out U5.out U4.out hk7.out hs7.out hb7 ho7); have U7 := Lib.hid (Fx.under_put U5.out (intsA .u8 X)); have B7 := Lib.hid (B6.out.trans (hb7 _ (Nat.le_refl _))); clear hk7 hs7 hb7 ho7 F6 U5)
        | (with_reducible refine at_any ?_; refine at_store 10 rfl ?_; refine wpList_store_ints rfl 95 (.tmp 10) (.tmp 26) rfl w5.heap.size rfl 95 .u8 V Y (Fx.fst F7.out) rfl VY.out SY.out ?_; intro w8 hk8 hs8 hb8 ho8; have F8 := Lib.hid (Fx.put1 F7.out U7.out hk8.out hs8.out hb8 ho8); have O8 := Lib.hid (O4.out.below (B7.out.trans (hb8 _ B5.out.size))); clear hk8 hs8 hb8 ho8 F7))
      have hB : Blk4 w w5.heap.size w4.heap.size g6 g3 Y X Z s w8 := F8.out
      have h7 : w4.heap.size < w5.heap.size := U7.out.1
      have h6 : g6 < w4.heap.size := U4.out.1
      have HO := Lib.hid O8.out
      clear F8 U7 U4 O8 O4 B5 B6 B7
      obtain ⟨g10, hg10⟩ : ∃ g, w5.heap.size = g := ⟨_, rfl⟩
      obtain ⟨g9, hg9⟩ : ∃ g, w4.heap.size = g := ⟨_, rfl⟩
      rw [hg10, hg9] at hB
      rw [hg10, hg9] at h7
      rw [hg9] at h6
      rw [hg10, hg9]
      have HB := Lib.hid hB
      clear hg10 hg9 hB
      go_loopw [7, 11] (fun v c wr => ∃ j : Nat, j ≤ 8 ∧ c = .int .i64 j ∧ OwnI wr w.heap.size 5 .u8 v (s ++ X.take j) ∧ Blk4 w g10 g9 g6 g3 Y X Z s wr) (fun _ c _ => 8 - (intOf c).toNat)
      case atStart => exact ⟨0, by omega, rfl, by rw [List.take_zero, List.append_nil]; exact HO.out, HB.out⟩
      case round =>
        clear HO HB
        obtain ⟨j, hj, rfl, hown, hF⟩ := hrel
        have hlen : (s ++ X.take j).length = 32 + j := by rw [List.length_append, List.length_take, HXL.out]; rw [HSL.out]; omega
        by_cases hlt : j < 8
        · have hsn : s ++ X.take j ++ [X.getD j 0] = s ++ X.take (j + 1) := by rw [List.append_assoc, HSN.out X j (by rw [HXL.out]; exact hlt)]
          have hc : wr.cell? ⟨g9, j, none⟩ = some (.int .u8 (X.getD j 0)) := hF.c7.cell (by rw [HXL.out]; exact hlt)
          obtain ⟨b, hb⟩ : ∃ b, X.getD j 0 = b := ⟨_, rfl⟩
          rw [hb] at hsn hc
          have HLN := Lib.hid hlen
          have HSNj := Lib.hid hsn
          have HOW := Lib.hid hown
          have HF := Lib.hid hF
          clear hb hsn hown hF hlen
          go_wp2_with (at_builtin; refine wpList_append_ints _ rfl (.tmp 31) (.tmp 35) 26 rfl w.heap.size 5 ti _ 1 .u8 Tryz.underlying26 hti hz0 hz1 hzb rfl _ (s ++ X.take j) rfl (HOW.out.alloc _) (wr.heap.size + 1) (some ⟨wr.heap.size, 0, none⟩) 1 1 [b] rfl (rd_one wr 5 .u8 b) (by rw [HLN.out]; simp [maxLen]; omega) (by rw [HLN.out]; omega) (by have := Below.size HF.out.bel; simp; omega) ?_; intro v6 w6 hown6 hg6 hat6; have F6 := Lib.hid (Blk4.grown (HF.out.alloc _) (HOW.out.alloc _) (by have := Below.size HF.out.bel; simp; omega) hg6); rw [HSNj.out] at hown6; have O6 := Lib.hid hown6; clear hg6 hat6 hown6)
          go_roundw
          case rel => exact ⟨j + 1, by omega, by go_num, O6.out, F6.out⟩
          case measure => simp [intOf]; omega
        · obtain rfl : j = 8 := by omega
          rw [List.take_of_length_le (by rw [HXL.out]; exact Nat.le_refl _)] at hown
          have HB := Lib.hid hF
          have HO := Lib.hid hown
          clear hown hF hlen
          rw [show ((8 : Nat) : Int) = 8 from rfl]
          go_wp2
          go_loopw [7, 12] (fun v c wr => ∃ j : Nat, j ≤ 8 ∧ c = .int .i64 j ∧ OwnI wr w.heap.size 5 .u8 v ((s ++ X) ++ Y.take j) ∧ Blk4 w g10 g9 g6 g3 Y X Z s wr) (fun _ c _ => 8 - (intOf c).toNat)
          case atStart => exact ⟨0, by omega, rfl, by rw [List.take_zero, List.append_nil]; exact HO.out, HB.out⟩
          case round =>
            clear HO HB
            obtain ⟨j, hj, rfl, hown, hF⟩ := hrel
            have hlen : ((s ++ X) ++ Y.take j).length = 40 + j := by rw [List.length_append, List.length_take, HYL.out]; rw [List.length_append, HSL.out, HXL.out]; omega
            by_cases hlt : j < 8
            · have hsn : (s ++ X) ++ Y.take j ++ [Y.getD j 0] = (s ++ X) ++ Y.take (j + 1) := by rw [List.append_assoc, HSN.out Y j (by rw [HYL.out]; exact hlt)]
              have hc : wr.cell? ⟨g10, j, none⟩ = some (.int .u8 (Y.getD j 0)) := hF.c8.cell (by rw [HYL.out]; exact hlt)
              obtain ⟨b, hb⟩ : ∃ b, Y.getD j 0 = b := ⟨_, rfl⟩
              rw [hb] at hsn hc
              have HLN := Lib.hid hlen
              have HSNj := Lib.hid hsn
              have HOW := Lib.hid hown
              have HF := Lib.hid hF
              clear hb hsn hown hF hlen
              go_wp2_with (at_builtin; refine wpList_append_ints _ rfl (.tmp 41) (.tmp 45) 26 rfl w.heap.size 5 ti _ 1 .u8 Tryz.underlying26 hti hz0 hz1 hzb rfl _ ((s ++ X) ++ Y.take j) rfl (HOW.out.alloc _) (wr.heap.size + 1) (some ⟨wr.heap.size, 0, none⟩) 1 1 [b] rfl (rd_one wr 5 .u8 b) (by rw [HLN.out]; simp [maxLen]; omega) (by rw [HLN.out]; omega) (by have := Below.size HF.out.bel; simp; omega) ?_; intro v6 w6 hown6 hg6 hat6; have F6 := Lib.hid (Blk4.grown (HF.out.alloc _) (HOW.out.alloc _) (by have := Below.size HF.out.bel; simp; omega) hg6); rw [HSNj.out] at hown6; have O6 := Lib.hid hown6; clear hg6 hat6 hown6)
              go_roundw
              case rel => exact ⟨j + 1, by omega, by go_num, O6.out, F6.out⟩
              case measure => simp [intOf]; omega
            · obtain rfl : j = 8 := by omega
              rw [List.take_of_length_le (by rw [HYL.out]; exact Nat.le_refl _)] at hown
              obtain ⟨A7, c7, rfl, hc7, _⟩ := hown.form
              rw [← HIE.out, HIL.out] at hc7
              rw [← HIE.out] at hown
              rw [← HIE.out, HIL.out]
              have HB := Lib.hid hF
              have hr7 := hown.rd rfl
              rw [HIL.out] at hr7
              have HR7 := Lib.hid hr7
              have HC7 := Lib.hid hc7
              clear hown hF hlen hc7 hr7
              go_wp2_with (first
                | (go_at_call 65; (with_reducible refine (HS.out A7 c7 _ HR7.out HC7.out).mono ?_); rintro e w9 ⟨rfl, hb9⟩; have HB9 := Lib.hid (HB.out.below hb9); clear hb9)
                | (with_reducible refine at_any ?_; refine at_store 6 rfl ?_; refine wpList_store_ints rfl 28 (.tmp 6) (.tmp 48) rfl g6 rfl 28 .u8 Z R HB9.out.c6 rfl ZR.out SR.out ?_; intro w11 hk11 hs11 hb11 ho11; have HB11 := Lib.hid (HB9.out.put6 h6 h7 h3lt h0 hk11.out hs11.out hb11 ho11))
                | (refine bodyPost_cell 6 28 rfl g6 rfl 28 .u8 R HB11.out.c6 _ Tryz.underlying28 rfl SR.out rfl ?_))
              exact HB11.out.bel
set_option maxHeartbeats 2000000 in
theorem rbit_c (s : List Int) (d n : Int) (hl : s.length = 32) (hs : ∀ z ∈ s, 0 ≤ z ∧ z < 256) (d0 : 0 ≤ d) (d1 : d < 18446744073709551616) (n0 : 0 ≤ n) (n1 : n < 18446744073709551616) (w : World) :
    Calls Tryz.prog 56 #[.agg (intsA .u8 s), .int .u64 d, .int .u64 n] w fun e w' => e = .returned (.int .u64 (bitN s d n)) ∧ Below w.heap.size w w' := by
  have HB := Lib.hid (fun W => rblock_c s d (n / 256) hl hs d0 d1 (by omega) (by omega) W)
  have hRl := blkL_len s d (n / 256)
  obtain ⟨R, hR⟩ : ∃ R, blkL s d (n / 256) = R := ⟨_, rfl⟩
  rw [hR] at HB hRl
  have hj : (n % 256 / 8).toNat < 32 := by omega
  have e1 : n % 256 / 8 = (((n % 256 / 8).toNat : Nat) : Int) := by omega
  have hb := bytN_in s d (n / 256) (n % 256 / 8).toNat
  have hbe : R.getD (n % 256 / 8).toNat 0 = bytN s d (n / 256) (n % 256 / 8).toNat := by unfold bytN; rw [hR]
  have e2 : 7 - n % 8 = (((7 - n % 8).toNat : Nat) : Int) := by omega
  have hq : (7 - n % 8).toNat ≤ 7 := by omega
  have hres : bitN s d n = bytN s d (n / 256) (n % 256 / 8).toNat / 2 ^ (7 - n % 8).toNat % 2 := rfl
  obtain ⟨j, hjj⟩ : ∃ j, (n % 256 / 8).toNat = j := ⟨_, rfl⟩
  obtain ⟨q, hqq⟩ : ∃ q, (7 - n % 8).toNat = q := ⟨_, rfl⟩
  rw [hjj] at hj e1 hb hbe hres
  rw [hqq] at e2 hq hres
  obtain ⟨b, hbb⟩ : ∃ b, bytN s d (n / 256) j = b := ⟨_, rfl⟩
  rw [hbb] at hb hbe hres
  have HC := Lib.hid (fun (W : World) g (h : BlkI W g 28 .u8 R) => (show W.cell? ⟨g, j, none⟩ = some (.int .u8 b) by rw [h.cell (by omega), hbe]))
  have p0 := Wd.pow_pos2 q
  have p1 := pow2_lt q (by omega)
  have HP := Lib.hid (fun W => rpow_c q (by omega) W)
  obtain ⟨p, hp⟩ : ∃ p : Int, 2 ^ q = p := ⟨_, rfl⟩
  rw [hp] at p0 p1 HP hres
  have p2 : (p == 0) = false := by rw [beq_eq_false_iff_ne]; omega
  have h2 : 0 ≤ b / p := Int.ediv_nonneg hb.1 (by omega)
  have h3 : b / p < 256 := by have := Int.ediv_le_self p hb.1; omega
  have HRES := Lib.hid hres
  have SS := Lib.hid (show (Tryz.prog.info? 28).map (·.size) = some s.length by rw [hl]; exact size_hash)
  have SR := Lib.hid (show (Tryz.prog.info? 28).map (·.size) = some R.length by rw [hRl]; exact size_hash)
  obtain ⟨Z, hZ⟩ : ∃ Z : List Int, List.replicate 32 0 = Z := ⟨_, rfl⟩
  have HZ0 := Lib.hid zero_hash
  rw [hZ] at HZ0
  have ZR := Lib.hid (show Z.length = R.length by rw [hRl, ← hZ]; simp)
  obtain ⟨hb0, hb1⟩ := hb
  clear hZ hres hbb hbe hRl hR hl hs hp
  go_enter Tryz.func56, Tryz.ntmps56
  go_wp2_with (first
    | (with_reducible refine at_any ?_; refine at_dst 3 rfl ?_; refine wpList_box_ints rfl 28 (.tmp 0) rfl .u8 s rfl ?_; intro w1 hk1 hs1 hb1; have F1 := Lib.hid (Fx.box hk1.out hb1); clear hk1 hs1 hb1)
    | (with_reducible refine at_any ?_; refine at_dst 8 rfl ?_; refine wpList_load_ints rfl 28 (.tmp 3) rfl w.heap.size rfl 28 .u8 s (Fx.fst F1.out) _ Tryz.underlying28 rfl SS.out ?_)
    | (go_at_call 61; (with_reducible refine (HB.out _).mono ?_); rintro e w3 ⟨rfl, hb3⟩; have F3 := Lib.hid (F1.out.below hb3); clear F1 hb3)
    | (with_reducible refine at_any ?_; refine at_dst 7 rfl ?_; refine wpList_alloc_ints rfl 28 rfl .u8 Z HZ0.out ?_; intro w4 hk4 hs4 hb4; have U3 := Lib.hid (Fx.under_new F3.out rfl); have F4 := Lib.hid (Fx.new F3.out hk4.out hb4); clear hk4 hs4 F3 hb4)
    | (with_reducible refine at_any ?_; refine at_store 7 rfl ?_; refine wpList_store_ints rfl 28 (.tmp 7) (.tmp 12) rfl w3.heap.size rfl 28 .u8 Z R (Fx.fst F4.out) rfl ZR.out SR.out ?_; intro w5 hk5 hs5 hb5 ho5; have F5 := Lib.hid (Fx.put1 F4.out U3.out hk5.out hs5.out hb5 ho5); have cj := HC.out _ _ (Fx.fst F5.out); clear hk5 hs5 hb5 ho5 F4))
  have hlt : ((j : Nat) : Int) < 32 := by omega
  have t1 : n.tmod 256 = n % 256 := Int.tmod_eq_emod_of_nonneg n0
  have t2 : n.tmod 8 = n % 8 := Int.tmod_eq_emod_of_nonneg n0
  have t3 : (n % 256).tdiv 8 = n % 256 / 8 := Int.tdiv_eq_ediv_of_nonneg (by omega)
  have t4 : b.tdiv p = b / p := Int.tdiv_eq_ediv_of_nonneg hb0
  have t5 : (b / p).tmod 2 = b / p % 2 := Int.tmod_eq_emod_of_nonneg h2
  have e3 : IntKind.u64.wrap ((n.tmod 256).tdiv 8) = (j : Int) := by rw [t1, t3, e1, IntKind.wrap_u64]; omega
  have e4 : IntKind.u64.wrap (7 - n.tmod 8) = (q : Int) := by rw [t2, e2, IntKind.wrap_u64]; omega
  have e5 : IntKind.u64.wrap (b.tdiv p) = b / p := by rw [t4, IntKind.wrap_u64]; omega
  have e6 : IntKind.u64.wrap b = b := by rw [IntKind.wrap_u64]; omega
  have p3 : p ≠ 0 := by omega
  clear t1 t2 t3 t4
  go_quiet (first | (go_at_call 62; refine Calls.quiet_of_same (HP.out _)))
  go_wp2
  go_ret
  exact ⟨ret_int HRES.out.symm, below_drewN (Fx.bel3 F5.out) _⟩
def RetBr (w : World) (zs : List Int) (n : Nat) (e : Ending) (w' : World) : Prop := ∃ A c, e = .returned (.slice A n c) ∧ n ≤ c ∧ c ≤ maxLen ∧ Rd .u8 w' w'.heap.size A n zs ∧ Below w.heap.size w w'
end Go.Proofs.YtomkidgmpbjgeaaGreatDoor
/-
  What the reference's functions of stage 7 return (Right, Left, the n-th bit, Take, Tape, Same), and that memory is left as it was.
  Conditions: the arguments lie in their types' ranges.
-/
set_option maxRecDepth 100000
set_option linter.unusedSimpArgs false
namespace Go.Proofs.YtomkidgmpbjgeaaGreatDoor
open Go.ChangeShapes Go.WideShapes Go.ChangeAt Go.RowKit
set_option linter.unusedVariables false
set_option maxHeartbeats 1000000 in
theorem rsright_c (s : Src) (ok : s.Ok) (A : Option Addr) (c : Nat) (w : World) : Calls Tryz.prog 30 #[.agg (srcV s A c)] w fun e w' => e = .returned (.bool (rightS s)) ∧ Below w.heap.size w w' := by
  have HC := Lib.hid (fun (W : World) (g : Nat) (h : Blk W g 30 (srcV s A c)) => And.intro ((h.cell 0).trans (srcV_kind s A c)) (And.intro ((h.cell 1).trans (srcV_tape s A c)) (And.intro ((h.cell 2).trans (srcV_bits s A c)) ((h.cell 36).trans (srcV_at s ok.sl A c)))))
  have k0 := ok.k0
  have k1 := ok.k1
  have tl := ok.tl
  have b0 := ok.b0
  have b1 := ok.b1
  have a0 := ok.a0
  have a1 := ok.a1
  have hR : rightS s = if s.kind = 1 then decide (s.bits ≤ 8 * (s.tape.length : Int)) && decide (s.at_ ≤ s.bits) else decide (s.kind = 2) && decide (s.at_ ≤ 4611686018427387904) := rfl
  obtain ⟨V, hV⟩ : ∃ V, srcV s A c = V := ⟨_, rfl⟩
  obtain ⟨kd, hkd⟩ : ∃ x, s.kind = x := ⟨_, rfl⟩
  obtain ⟨L, hL⟩ : ∃ x, s.tape.length = x := ⟨_, rfl⟩
  obtain ⟨bt, hbt⟩ : ∃ x, s.bits = x := ⟨_, rfl⟩
  obtain ⟨at_, hat⟩ : ∃ x, s.at_ = x := ⟨_, rfl⟩
  rw [hV, hkd, hL, hbt, hat] at HC
  rw [hkd, hL, hbt, hat] at hR
  rw [hkd] at k0 k1
  rw [hL] at tl
  rw [hbt] at b0 b1
  rw [hat] at a0 a1
  rw [hV, hR]
  clear hV hkd hL hbt hat hR ok
  have e1 : IntKind.u64.wrap (8 * (L : Int)) = 8 * L := by rw [IntKind.wrap_u64]; omega
  by_cases hk : kd = 1
  · rw [if_pos hk]
    subst hk
    by_cases h1 : bt ≤ 8 * (L : Int)
    all_goals
      first | rw [decide_eq_true h1] | rw [decide_eq_false h1]
      first | rw [Bool.true_and] | rw [Bool.false_and]
      go_enter Tryz.func30, Tryz.ntmps30
      go_wp2_with (with_reducible refine at_any ?_; refine at_dst 1 rfl ?_; refine wpList_box_any rfl 30 (.tmp 0) rfl V rfl ?_; intro w1 hk1 hs1 hb1; have c0 := (HC.out _ _ hk1.out).1; have c1 := (HC.out _ _ hk1.out).2.1; have c2 := (HC.out _ _ hk1.out).2.2.1; have c3 := (HC.out _ _ hk1.out).2.2.2)
      go_ret
      exact ⟨rfl, hb1⟩
  · rw [if_neg hk]
    have t1 : (kd == 1) = false := by rw [beq_eq_false_iff_ne]; exact hk
    by_cases h1 : kd = 2
    all_goals
      first | rw [decide_eq_true h1] | rw [decide_eq_false h1]
      first | rw [Bool.true_and] | rw [Bool.false_and]
      first | subst h1 | (have t2 : (kd == 2) = false := by rw [beq_eq_false_iff_ne]; exact h1)
      go_enter Tryz.func30, Tryz.ntmps30
      go_wp2_with (with_reducible refine at_any ?_; refine at_dst 1 rfl ?_; refine wpList_box_any rfl 30 (.tmp 0) rfl V rfl ?_; intro w1 hk1 hs1 hb1; have c0 := (HC.out _ _ hk1.out).1; have c1 := (HC.out _ _ hk1.out).2.1; have c2 := (HC.out _ _ hk1.out).2.2.1; have c3 := (HC.out _ _ hk1.out).2.2.2)
      go_ret
      exact ⟨rfl, hb1⟩
set_option maxHeartbeats 1000000 in
theorem rsleft_c (s : Src) (ok : s.Ok) (A : Option Addr) (c : Nat) (w : World) : Calls Tryz.prog 46 #[.agg (srcV s A c)] w fun e w' => e = .returned (.int .u64 (leftS s)) ∧ Below w.heap.size w w' := by
  have HC := Lib.hid (fun (W : World) (g : Nat) (h : Blk W g 30 (srcV s A c)) => And.intro ((h.cell 0).trans (srcV_kind s A c)) (And.intro ((h.cell 2).trans (srcV_bits s A c)) ((h.cell 36).trans (srcV_at s ok.sl A c))))
  have HRT := Lib.hid (fun W => rsright_c s ok A c W)
  have SV := Lib.hid (sizedS s ok.sl A c)
  have k0 := ok.k0
  have k1 := ok.k1
  have b0 := ok.b0
  have b1 := ok.b1
  have a0 := ok.a0
  have a1 := ok.a1
  have hl := left_le ok
  have hL : leftS s = if rightS s = true then (if s.kind = 1 then s.bits - s.at_ else 4611686018427387904 - s.at_) else 0 := rfl
  obtain ⟨V, hV⟩ : ∃ V, srcV s A c = V := ⟨_, rfl⟩
  obtain ⟨kd, hkd⟩ : ∃ x, s.kind = x := ⟨_, rfl⟩
  obtain ⟨bt, hbt⟩ : ∃ x, s.bits = x := ⟨_, rfl⟩
  obtain ⟨at_, hat⟩ : ∃ x, s.at_ = x := ⟨_, rfl⟩
  obtain ⟨r, hr⟩ : ∃ x, rightS s = x := ⟨_, rfl⟩
  rw [hV, hkd, hbt, hat] at HC
  rw [hV, hr] at HRT
  rw [hV] at SV
  rw [hkd, hbt, hat, hr] at hL
  rw [hkd] at k0 k1
  rw [hbt] at b0 b1
  rw [hat] at a0 a1
  rw [hV]
  rw [hL] at hl
  rw [hL]
  clear hV hkd hbt hat hr hL ok
  cases r
  · rw [if_neg (by decide)]
    go_enter Tryz.func46, Tryz.ntmps46
    go_wp2_with (first
      | (with_reducible refine at_any ?_; refine at_dst 1 rfl ?_; refine wpList_box_any rfl 30 (.tmp 0) rfl V rfl ?_; intro w1 hk1 hs1 hb1)
      | (with_reducible refine at_any ?_; refine at_dst 3 rfl ?_; refine wpList_load_blk rfl 30 (.tmp 1) rfl w.heap.size rfl 30 V hk1.out _ Tryz.underlying30 rfl SV.out ?_)
      | (go_at_call 30; (with_reducible refine (HRT.out _).mono ?_); rintro e w2 ⟨rfl, hb2⟩))
    go_ret
    exact ⟨rfl, hb1.trans (hb2.mono hb1.size)⟩
  · rw [if_pos rfl] at hl ⊢
    by_cases hk : kd = 1
    all_goals
      first | rw [if_pos hk] at hl ⊢ | rw [if_neg hk] at hl ⊢
      first | subst hk | (have t1 : (kd == 1) = false := by rw [beq_eq_false_iff_ne]; exact hk)
      first | (have e1 : IntKind.u64.wrap (bt - at_) = bt - at_ := by rw [IntKind.wrap_u64]; omega) | (have e2 : IntKind.u64.wrap (4611686018427387904 - at_) = 4611686018427387904 - at_ := by rw [IntKind.wrap_u64]; omega)
      go_enter Tryz.func46, Tryz.ntmps46
      go_wp2_with (first
        | (with_reducible refine at_any ?_; refine at_dst 1 rfl ?_; refine wpList_box_any rfl 30 (.tmp 0) rfl V rfl ?_; intro w1 hk1 hs1 hb1)
        | (with_reducible refine at_any ?_; refine at_dst 3 rfl ?_; refine wpList_load_blk rfl 30 (.tmp 1) rfl w.heap.size rfl 30 V hk1.out _ Tryz.underlying30 rfl SV.out ?_)
        | (go_at_call 30; (with_reducible refine (HRT.out _).mono ?_); rintro e w2 ⟨rfl, hb2⟩; have k2 := hk1.out.below hb2 hk1.out.lt; have c0 := (HC.out _ _ k2).1; have c2 := (HC.out _ _ k2).2.1; have c3 := (HC.out _ _ k2).2.2))
      go_ret
      exact ⟨rfl, hb1.trans (hb2.mono hb1.size)⟩
set_option maxHeartbeats 1000000 in
theorem rsbit_c (s : Src) (ok : s.Ok) (n : Int) (n0 : 0 ≤ n) (n1 : n < 18446744073709551616) (hn : s.kind = 2 ∨ n < 8 * (s.tape.length : Int)) (A : Option Addr) (c : Nat) (w : World) (hrd : Rd .u8 w w.heap.size A s.tape.length s.tape) : Calls Tryz.prog 47 #[.agg (srcV s A c), .int .u64 n] w fun e w' => e = .returned (.int .u64 (bitS s n)) ∧ Below w.heap.size w w' := by
  have HC := Lib.hid (fun (W : World) (g : Nat) (h : Blk W g 30 (srcV s A c)) => And.intro ((h.cell 0).trans (srcV_kind s A c)) (And.intro ((h.cell 1).trans (srcV_tape s A c)) (And.intro ((h.cell 35).trans (srcV_dom s ok.sl A c)) (srcV_seed h))))
  have k0 := ok.k0
  have k1 := ok.k1
  have tl := ok.tl
  have SSD := Lib.hid (show (Tryz.prog.info? 28).map (·.size) = some s.seed.length by rw [ok.sl]; exact size_hash)
  have HBT := Lib.hid (fun W => rbit_c s.seed s.dom n ok.sl ok.si ok.d0 ok.d1 n0 n1 W)
  by_cases hk : s.kind = 2
  · have hb : bitS s n = bitN s.seed s.dom n := by unfold bitS; rw [if_pos hk]
    rw [hb]
    obtain ⟨V, hV⟩ : ∃ V, srcV s A c = V := ⟨_, rfl⟩
    rw [hV, hk] at HC
    rw [hV]
    clear hV hk hb hn
    go_enter Tryz.func47, Tryz.ntmps47
    go_wp2_with (first
      | (with_reducible refine at_any ?_; refine at_dst 2 rfl ?_; refine wpList_box_any rfl 30 (.tmp 0) rfl V rfl ?_; intro w1 hk1 hs1 hb1; have c0 := (HC.out _ _ hk1.out).1; have c2 := (HC.out _ _ hk1.out).2.2.1)
      | (with_reducible refine at_any ?_; refine at_dst 9 rfl ?_; refine wpList_load_at rfl 28 (.tmp 8) rfl w.heap.size 3 rfl .u8 s.seed (HC.out _ _ hk1.out).2.2.2 _ Tryz.underlying28 rfl SSD.out ?_)
      | (go_at_call 56; (with_reducible refine (HBT.out _).mono ?_); rintro e w2 ⟨rfl, hb2⟩))
    go_ret
    exact ⟨rfl, hb1.trans (hb2.mono hb1.size)⟩
  · have hlt : n < 8 * (s.tape.length : Int) := by rcases hn with h | h; exact absurd h hk; exact h
    have t1 : (s.kind == 2) = false := by rw [beq_eq_false_iff_ne]; exact hk
    obtain ⟨j, hj⟩ : ∃ j : Nat, (n / 8).toNat = j := ⟨_, rfl⟩
    obtain ⟨q, hq⟩ : ∃ q : Nat, (7 - n % 8).toNat = q := ⟨_, rfl⟩
    have e1 : n / 8 = (j : Int) := by omega
    obtain ⟨r, hr⟩ : ∃ r : Nat, (n % 8).toNat = r := ⟨_, rfl⟩
    have e2 : n % 8 = (r : Int) := by omega
    have e3 : (7 : Int) - (r : Int) = (q : Int) := by omega
    have hq7 : q ≤ 7 := by omega
    have hjl : j < s.tape.length := by omega
    have hb : bitS s n = s.tape.getD j 0 / 2 ^ q % 2 := by unfold bitS; rw [if_neg hk, hj, hq]
    rw [hb]
    have hx : 0 ≤ s.tape.getD j 0 ∧ s.tape.getD j 0 < 256 := by
      rw [List.getD_eq_getElem?_getD, List.getElem?_eq_getElem hjl, Option.getD_some]
      exact ok.ti _ (List.getElem_mem hjl)
    obtain ⟨b0, off, hA, hb0, hcell⟩ := hrd.2 (by omega)
    have cj := hcell j hjl
    obtain ⟨x, hxe⟩ : ∃ x, s.tape.getD j 0 = x := ⟨_, rfl⟩
    rw [hxe] at hx cj
    rw [hxe]
    have hrt := fun W => (rright_c x (q : Int) (by omega) (by omega) (by omega) (by omega) W).mono fun e w' (h : _ ∧ _) => And.intro h.1 h.2.symm
    rw [right_div x q hq7] at hrt
    have p0 := Wd.pow_pos2 q
    have y0 : 0 ≤ x / 2 ^ q := Int.ediv_nonneg hx.1 (by omega)
    have y1 : x / 2 ^ q < 256 := by have := Int.ediv_le_self (2 ^ q) hx.1; omega
    obtain ⟨y, hy⟩ : ∃ y, x / 2 ^ q = y := ⟨_, rfl⟩
    rw [hy] at hrt y0 y1
    rw [hy]
    have HRT := Lib.hid hrt
    have CJ := Lib.hid cj
    obtain ⟨x0, x1⟩ := hx
    obtain ⟨L, hL⟩ : ∃ L, s.tape.length = L := ⟨_, rfl⟩
    rw [hL] at HC tl hjl
    have q0 : (0 : Int) ≤ (j : Int) ∧ (j : Int) < (L : Int) := by omega
    obtain ⟨V, hV⟩ : ∃ V, srcV s A c = V := ⟨_, rfl⟩
    rw [hV] at HC
    rw [hV]
    subst hA
    clear hV hb hn hcell hrt cj p0 hy hxe hrd hL hlt hj hq hr HBT ok
    go_enter Tryz.func47, Tryz.ntmps47
    go_wp2_with (first
      | (with_reducible refine at_any ?_; refine at_dst 2 rfl ?_; refine wpList_box_any rfl 30 (.tmp 0) rfl V rfl ?_; intro w1 hk1 hs1 hb1; have c0 := (HC.out _ _ hk1.out).1; have c2 := (HC.out _ _ hk1.out).2.1; have c3 := (hb1.cell hb0).trans CJ.out)
      | (go_at_call 57; (with_reducible refine (HRT.out _).mono ?_); rintro e _ ⟨rfl, rfl⟩))
    go_ret
    exact ⟨rfl, hb1⟩
set_option maxHeartbeats 4000000 in
theorem rstake_c (s : Src) (ok : s.Ok) (k : Int) (k0 : -9223372036854775808 ≤ k) (k1 : k < 9223372036854775808) (A : Option Addr) (c : Nat) (hc : s.tape.length ≤ c) (hcm : c ≤ maxLen) (w : World) (hrd : Rd .u8 w w.heap.size A s.tape.length s.tape) : Calls Tryz.prog 31 #[.agg (srcV s A c), .int .i64 k] w (RetTake w s k A) := by
  have HRT := Lib.hid (fun W => rsright_c s ok A c W)
  have HLT := Lib.hid (fun W => rsleft_c s ok A c W)
  have hll := left_le ok
  have SV := Lib.hid (sizedS s ok.sl A c)
  have OV := Lib.hid (srcV_ones s A c)
  have ZV := Lib.hid (srcV_same Src.zero s rfl ok.sl none A 0 c)
  have HZ0 := Lib.hid zero_src
  obtain ⟨Z, hZ⟩ : ∃ Z, srcV Src.zero none 0 = Z := ⟨_, rfl⟩
  rw [hZ] at ZV HZ0
  have hRd := Lib.hid hrd
  by_cases hbad : ¬ (rightS s = true ∧ 0 ≤ k ∧ k ≤ 64)
  · have hE : takeE s k = 1 := by unfold takeE; rw [if_neg hbad]
    have HEND : Hid (∀ w', Below w.heap.size w w' → RetTake w s k A (.returned (.tuple #[.int .u64 0, .agg (srcV s A c), .int .i64 1])) w') := Lib.hid (fun w' hb => ⟨A, c, by unfold takeV takeS; rw [hE]; rfl, (hRd.out.below hb).mono hb.size, hc, hcm, .inl rfl, hb⟩)
    obtain ⟨V, hV⟩ : ∃ V, srcV s A c = V := ⟨_, rfl⟩
    rw [hV] at HRT HLT SV OV ZV HEND
    rw [hV]
    have hcase : (rightS s = false) ∨ (rightS s = true ∧ k < 0) ∨ (rightS s = true ∧ ¬ k < 0 ∧ 64 < k) := by
      cases h : rightS s
      · exact .inl rfl
      · refine .inr ?_
        by_cases h0 : k < 0
        · exact .inl ⟨rfl, h0⟩
        · exact .inr ⟨rfl, h0, Decidable.byContradiction fun h7 => hbad ⟨h, by omega, by omega⟩⟩
    clear hZ hV hE hbad hll hrd
    rcases hcase with hr | ⟨hr, h0⟩ | ⟨hr, h0, h6⟩
    all_goals
      rw [hr] at HRT
      go_enter Tryz.func31, Tryz.ntmps31
      go_wp2_with (first
        | (with_reducible refine at_any ?_; refine at_dst 2 rfl ?_; refine wpList_box_any rfl 30 (.tmp 0) rfl V rfl ?_; intro w1 hk1 hs1 hb1)
        | (with_reducible refine at_any ?_; refine at_dst 5 rfl ?_; refine wpList_alloc_any rfl 30 rfl Z HZ0.out ?_; intro w2 hk2 hs2 hb2; have k2 := Lib.hid (hk1.out.below hb2 hk1.out.lt); have bl2 := Lib.hid (hb1.trans (hb2.mono hb1.size)))
        | (with_reducible refine at_any ?_; refine at_dst 9 rfl ?_; refine wpList_load_blk rfl 30 (.tmp 2) rfl w.heap.size rfl 30 V k2.out _ Tryz.underlying30 rfl SV.out ?_)
        | (go_at_call 30; (with_reducible refine (HRT.out _).mono ?_); rintro e wz ⟨rfl, hbz⟩))
      have HB2 : Src2 w w.heap.size w1.heap.size V Z wz := ⟨hk2.out.below hbz hk2.out.lt, k2.out.below hbz k2.out.lt, bl2.out.trans (hbz.mono bl2.out.size), trivial⟩
      have h25 : w.heap.size < w1.heap.size := by rw [hs1.out]; omega
      obtain ⟨g2, hg2⟩ : ∃ g, w.heap.size = g := ⟨_, rfl⟩
      obtain ⟨g5, hg5⟩ : ∃ g, w1.heap.size = g := ⟨_, rfl⟩
      have h02 : w.heap.size ≤ g2 := by omega
      rw [hg2, hg5] at HB2 h25
      rw [hg2, hg5]
      clear hg2 hg5 hk1 hs1 hb1 hk2 hs2 hb2 k2 bl2 hbz
      have hS := HB2.keep.drew
      have HZ5 := HB2.old.drew
      refine wp_region_held_drew (S := (Fx [.blk g2 30 V, .bel w])) (by kernel_rfl) hS (fun hH => ?_)
      refine wpAnyH_letter #[false, false, false, false] (by kernel_rfl) (fun _ _ d _ _ h => by cases d <;> exact h) (fun QL HQ1 HQ2 => ?_)
      refine held_row 0 (some 20) rfl (by kernel_rfl) (by kernel_rfl) (by kernel_rfl) (by kernel_rfl) (fun c a v w h => HQ2.out c a _ v w h) (by kernel_rfl) 30 (.tmp 2) rfl g2 (by kernel_rfl) 30 V (fun _ h => h.1) _ Tryz.underlying30 rfl SV.out hH ?_
      try simp only [Act.put, List.setIfInBounds_toArray, List.set_cons_zero, List.set_cons_succ]
      refine held_v 1 (some 4) rfl (by kernel_rfl) (by kernel_rfl) (by kernel_rfl) (by kernel_rfl) (fun c a v w h => HQ2.out c a _ v w h) (by kernel_rfl) (.int .u64 0) (fun W h => by kernel_rfl) hH ?_
      try simp only [Act.put, List.setIfInBounds_toArray, List.set_cons_zero, List.set_cons_succ]
      refine wpAnyH_ready (rs := [2]) (by kernel_rfl) (by decide) ?_
      refine AllReadyH.cons rfl (fun K hK => ?_) AllReadyH.nil
      refine step_store none (by kernel_rfl) (by kernel_rfl) 30 (.tmp 5) (.tmp 20) rfl g5 (by kernel_rfl) 30 Z V HZ5.1 (by kernel_rfl) ZV.out SV.out OV.out ?_
      intro w41 hkw41 hsw41 hbw41 how41
      have ex42 : Fx [.blk g5 30 V] w41 := ⟨hkw41.out, trivial⟩
      refine hK.out _ _ (hH.store HZ5.1 ⟨Nat.ne_of_lt h25, Nat.le_trans h02 (Nat.le_of_lt h25), trivial⟩ hsw41.out hbw41 how41) (fun hw41 => ?_)
      clear hK K
      try simp only [Act.put, List.setIfInBounds_toArray, List.set_cons_zero, List.set_cons_succ]
      refine held_v 3 (some 6) rfl (by kernel_rfl) (by kernel_rfl) (by kernel_rfl) (by kernel_rfl) (fun c a v w h => HQ2.out c a _ v w h) (by kernel_rfl) (.int .i64 1) (fun W h => by kernel_rfl) hw41 ?_
      try simp only [Act.put, List.setIfInBounds_toArray, List.set_cons_zero, List.set_cons_succ]
      refine wpAnyH_done (by kernel_rfl) ?_ _
      refine HQ1.out _ _ ?_
      clear HQ1 HQ2
      go_wp2_with (refine bodyPost_mid 4 5 6 30 rfl g5 rfl (.int .u64 0) (.int .i64 1) rfl rfl 30 V ex42.1 _ Tryz.underlying30 rfl SV.out rfl ?_)
      exact HEND.out _ hw41.2.1
  · have hgood : rightS s = true ∧ 0 ≤ k ∧ k ≤ 64 := Decidable.of_not_not hbad
    obtain ⟨hr, kk0, kk1⟩ := hgood
    have ng0 : ¬ k < 0 := by omega
    have ng1 : ¬ 64 < k := by omega
    rw [hr] at HRT
    obtain ⟨K, rfl⟩ := Int.eq_ofNat_of_zero_le kk0
    have e3 : IntKind.u64.wrap (K : Int) = K := by rw [IntKind.wrap_u64]; omega
    clear k0 k1
    obtain ⟨lf, hlf⟩ : ∃ x, leftS s = x := ⟨_, rfl⟩
    rw [hlf] at HLT hll
    by_cases hmore : lf < (K : Int)
    · have hE : takeE s (K : Int) = 8 := by unfold takeE; rw [if_pos ⟨hr, kk0, kk1⟩, hlf, if_neg (by omega)]
      have HEND : Hid (∀ w', Below w.heap.size w w' → RetTake w s (K : Int) A (.returned (.tuple #[.int .u64 0, .agg (srcV s A c), .int .i64 8])) w') := Lib.hid (fun w' hb => ⟨A, c, by unfold takeV takeS; rw [hE]; rfl, (hRd.out.below hb).mono hb.size, hc, hcm, .inl rfl, hb⟩)
      obtain ⟨V, hV⟩ : ∃ V, srcV s A c = V := ⟨_, rfl⟩
      rw [hV] at HRT HLT SV OV ZV HEND
      rw [hV]
      clear hZ hV hE hbad hrd hlf
      go_enter Tryz.func31, Tryz.ntmps31
      go_wp2_with (first
        | (with_reducible refine at_any ?_; refine at_dst 2 rfl ?_; refine wpList_box_any rfl 30 (.tmp 0) rfl V rfl ?_; intro w1 hk1 hs1 hb1)
        | (with_reducible refine at_any ?_; refine at_dst 5 rfl ?_; refine wpList_alloc_any rfl 30 rfl Z HZ0.out ?_; intro w2 hk2 hs2 hb2; have k2 := Lib.hid (hk1.out.below hb2 hk1.out.lt); have bl2 := Lib.hid (hb1.trans (hb2.mono hb1.size)))
        | (with_reducible refine at_any ?_; refine at_dst 9 rfl ?_; refine wpList_load_blk rfl 30 (.tmp 2) rfl w.heap.size rfl 30 V k2.out _ Tryz.underlying30 rfl SV.out ?_)
        | (go_at_call 30; (with_reducible refine (HRT.out _).mono ?_); rintro e wy ⟨rfl, hby⟩; have k2y := Lib.hid (k2.out.below hby k2.out.lt); have bly := Lib.hid (bl2.out.trans (hby.mono bl2.out.size)))
        | (with_reducible refine at_any ?_; refine at_dst 23 rfl ?_; refine wpList_load_blk rfl 30 (.tmp 2) rfl w.heap.size rfl 30 V k2y.out _ Tryz.underlying30 rfl SV.out ?_)
        | (go_at_call 46; (with_reducible refine (HLT.out _).mono ?_); rintro e wz ⟨rfl, hbz⟩))
      have HB2 : Src2 w w.heap.size w1.heap.size V Z wz := ⟨(hk2.out.below hby hk2.out.lt).below hbz (hk2.out.below hby hk2.out.lt).lt, k2y.out.below hbz k2y.out.lt, bly.out.trans (hbz.mono bly.out.size), trivial⟩
      have h25 : w.heap.size < w1.heap.size := by rw [hs1.out]; omega
      obtain ⟨g2, hg2⟩ : ∃ g, w.heap.size = g := ⟨_, rfl⟩
      obtain ⟨g5, hg5⟩ : ∃ g, w1.heap.size = g := ⟨_, rfl⟩
      have h02 : w.heap.size ≤ g2 := by omega
      rw [hg2, hg5] at HB2 h25
      rw [hg2, hg5]
      clear hg2 hg5 hk1 hs1 hb1 hk2 hs2 hb2 k2 bl2 hbz hby k2y bly
      have hS := HB2.keep.drew
      have HZ5 := HB2.old.drew
      refine wp_region_held_drew (S := (Fx [.blk g2 30 V, .bel w])) (by kernel_rfl) hS (fun hH => ?_)
      refine wpAnyH_letter #[false, false, false, false] (by kernel_rfl) (fun _ _ d _ _ h => by cases d <;> exact h) (fun QL HQ1 HQ2 => ?_)
      refine held_row 0 (some 26) rfl (by kernel_rfl) (by kernel_rfl) (by kernel_rfl) (by kernel_rfl) (fun c a v w h => HQ2.out c a _ v w h) (by kernel_rfl) 30 (.tmp 2) rfl g2 (by kernel_rfl) 30 V (fun _ h => h.1) _ Tryz.underlying30 rfl SV.out hH ?_
      try simp only [Act.put, List.setIfInBounds_toArray, List.set_cons_zero, List.set_cons_succ]
      refine held_v 1 (some 4) rfl (by kernel_rfl) (by kernel_rfl) (by kernel_rfl) (by kernel_rfl) (fun c a v w h => HQ2.out c a _ v w h) (by kernel_rfl) (.int .u64 0) (fun W h => by kernel_rfl) hH ?_
      try simp only [Act.put, List.setIfInBounds_toArray, List.set_cons_zero, List.set_cons_succ]
      refine wpAnyH_ready (rs := [2]) (by kernel_rfl) (by decide) ?_
      refine AllReadyH.cons rfl (fun K hK => ?_) AllReadyH.nil
      refine step_store none (by kernel_rfl) (by kernel_rfl) 30 (.tmp 5) (.tmp 26) rfl g5 (by kernel_rfl) 30 Z V HZ5.1 (by kernel_rfl) ZV.out SV.out OV.out ?_
      intro w41 hkw41 hsw41 hbw41 how41
      have ex42 : Fx [.blk g5 30 V] w41 := ⟨hkw41.out, trivial⟩
      refine hK.out _ _ (hH.store HZ5.1 ⟨Nat.ne_of_lt h25, Nat.le_trans h02 (Nat.le_of_lt h25), trivial⟩ hsw41.out hbw41 how41) (fun hw41 => ?_)
      clear hK K
      try simp only [Act.put, List.setIfInBounds_toArray, List.set_cons_zero, List.set_cons_succ]
      refine held_v 3 (some 6) rfl (by kernel_rfl) (by kernel_rfl) (by kernel_rfl) (by kernel_rfl) (fun c a v w h => HQ2.out c a _ v w h) (by kernel_rfl) (.int .i64 8) (fun W h => by kernel_rfl) hw41 ?_
      try simp only [Act.put, List.setIfInBounds_toArray, List.set_cons_zero, List.set_cons_succ]
      refine wpAnyH_done (by kernel_rfl) ?_ _
      refine HQ1.out _ _ ?_
      clear HQ1 HQ2
      go_wp2_with (refine bodyPost_mid 4 5 6 30 rfl g5 rfl (.int .u64 0) (.int .i64 8) rfl rfl 30 V ex42.1 _ Tryz.underlying30 rfl SV.out rfl ?_)
      exact HEND.out _ hw41.2.1
    · have hle : (K : Int) ≤ lf := by omega
      have hE : takeE s (K : Int) = 0 := by unfold takeE; rw [if_pos ⟨hr, kk0, kk1⟩, hlf, if_pos hle]
      have hat : s.at_ + lf < 18446744073709551616 := by
        rcases rightS_end hr with h | h
        · rw [hlf] at h; exact h.1
        · exact absurd ok h
      have a0 := ok.a0
      have hnum : takeV s (K : Int) = numS s s.at_ K := by unfold takeV; rw [if_pos hE, Int.toNat_natCast]
      have hsrc : takeS s (K : Int) = s.to (s.at_ + K) := by unfold takeS; rw [if_pos hE]
      have HIN := Lib.hid (fun i => numS_in s s.at_ i)
      have HNX := Lib.hid (fun i => numS_succ s s.at_ i)
      have HPW := Lib.hid (fun (i : Nat) (h : i ≤ 63) => pow2_le i h)
      have hkd : s.kind = 2 ∨ s.at_ + (K : Int) ≤ 8 * (s.tape.length : Int) := by
        unfold leftS at hlf
        rw [if_pos hr] at hlf
        unfold rightS at hr
        split at hr
        · rename_i h1
          rw [if_pos h1] at hlf
          simp at hr
          exact .inr (by omega)
        · simp at hr
          exact .inl hr.1
      have hbi : ∀ (i : Nat), i < K → ∀ W : World, Rd .u8 W W.heap.size A s.tape.length s.tape → Calls Tryz.prog 47 #[.agg (srcV (s.to (s.at_ + i)) A c), .int .u64 (s.at_ + i)] W fun e w' => e = .returned (.int .u64 (bitS s (s.at_ + i))) ∧ Below W.heap.size W w' := fun i h W h2 => rsbit_c (s.to (s.at_ + i)) (ok.to_ _ (by omega) (by omega)) (s.at_ + i) (by omega) (by omega) (by rcases hkd with h3 | h3; exact .inl h3; exact .inr (show s.at_ + (i : Int) < 8 * (s.tape.length : Int) by omega)) A c W h2
      have HBI := Lib.hid hbi
      have HST := Lib.hid (fun (i : Nat) (h : i < K) => srcV_set (s.to (s.at_ + i)) ok.sl A c (s.at_ + i + 1))
      have HC6 := Lib.hid (fun (W : World) (g i : Nat) (h : Blk W g 30 (srcV (s.to (s.at_ + i)) A c)) => (h.cell 36).trans (srcV_at (s.to (s.at_ + i)) ok.sl A c))
      have HSZ := Lib.hid (fun (i : Nat) => sizedS (s.to (s.at_ + i)) ok.sl A c)
      have HSZ2 := Lib.hid (fun (i : Nat) => srcV_size (s.to (s.at_ + i)) ok.sl A c)
      have HS0 := Lib.hid (show srcV (s.to (s.at_ + ((0 : Nat) : Int))) A c = srcV s A c by rw [Int.natCast_zero, Int.add_zero]; rfl)
      have SVK := Lib.hid (sizedS (s.to (s.at_ + K)) ok.sl A c)
      have OVK := Lib.hid (srcV_ones (s.to (s.at_ + K)) A c)
      have ZVK := Lib.hid (srcV_same Src.zero (s.to (s.at_ + K)) rfl ok.sl none A 0 c)
      have HEND : Hid (∀ w', Below w.heap.size w w' → RetTake w s (K : Int) A (.returned (.tuple #[.int .u64 (numS s s.at_ K), .agg (srcV (s.to (s.at_ + K)) A c), .int .i64 0])) w') := Lib.hid (fun w' hb => ⟨A, c, by rw [hnum, hsrc, hE], (hRd.out.below hb).mono hb.size, hc, hcm, .inl rfl, hb⟩)
      rw [hZ] at ZVK
      obtain ⟨V, hV⟩ : ∃ V, srcV s A c = V := ⟨_, rfl⟩
      rw [hV] at HRT HLT SV OV ZV HS0
      rw [hV]
      have HRS := Lib.hid (show Rd .u8 w w.heap.size A s.tape.length s.tape from hrd)
      obtain ⟨n0, hn0⟩ : ∃ x, s.at_ = x := ⟨_, rfl⟩
      clear hZ hV hE hbad hrd hlf hnum hsrc hkd hr hbi
      go_enter Tryz.func31, Tryz.ntmps31
      go_wp2_with (first
        | (with_reducible refine at_any ?_; refine at_dst 2 rfl ?_; refine wpList_box_any rfl 30 (.tmp 0) rfl V rfl ?_; intro w1 hk1 hs1 hb1)
        | (with_reducible refine at_any ?_; refine at_dst 5 rfl ?_; refine wpList_alloc_any rfl 30 rfl Z HZ0.out ?_; intro w2 hk2 hs2 hb2; have k2 := Lib.hid (hk1.out.below hb2 hk1.out.lt); have bl2 := Lib.hid (hb1.trans (hb2.mono hb1.size)))
        | (with_reducible refine at_any ?_; refine at_dst 9 rfl ?_; refine wpList_load_blk rfl 30 (.tmp 2) rfl w.heap.size rfl 30 V k2.out _ Tryz.underlying30 rfl SV.out ?_)
        | (go_at_call 30; (with_reducible refine (HRT.out _).mono ?_); rintro e wy ⟨rfl, hby⟩; have k2y := Lib.hid (k2.out.below hby k2.out.lt); have bly := Lib.hid (bl2.out.trans (hby.mono bl2.out.size)))
        | (with_reducible refine at_any ?_; refine at_dst 23 rfl ?_; refine wpList_load_blk rfl 30 (.tmp 2) rfl w.heap.size rfl 30 V k2y.out _ Tryz.underlying30 rfl SV.out ?_)
        | (go_at_call 46; (with_reducible refine (HLT.out _).mono ?_); rintro e wz ⟨rfl, hbz⟩))
      have HB2 : Src2 w w.heap.size w1.heap.size V Z wz := ⟨(hk2.out.below hby hk2.out.lt).below hbz (hk2.out.below hby hk2.out.lt).lt, k2y.out.below hbz k2y.out.lt, bly.out.trans (hbz.mono bly.out.size), trivial⟩
      have h25 : w.heap.size < w1.heap.size := by rw [hs1.out]; omega
      obtain ⟨g2, hg2⟩ : ∃ g, w.heap.size = g := ⟨_, rfl⟩
      obtain ⟨g5, hg5⟩ : ∃ g, w1.heap.size = g := ⟨_, rfl⟩
      have h02 : w.heap.size ≤ g2 := by omega
      rw [hg2, hg5] at HB2 h25
      rw [hg2, hg5]
      clear hg2 hg5 hk1 hs1 hb1 hk2 hs2 hb2 k2 bl2 hbz hby k2y bly
      go_loopw [7, 8] (fun v cc wr => ∃ i : Nat, i ≤ K ∧ v = .int .u64 (numS s s.at_ i) ∧ cc = .int .i64 i ∧ Src2 w g2 g5 (srcV (s.to (s.at_ + i)) A c) Z wr) (fun _ cc _ => K - (intOf cc).toNat)
      case atStart => exact ⟨0, by omega, rfl, rfl, by rw [HS0.out]; exact HB2⟩
      case round =>
        clear HB2
        obtain ⟨i, hi, rfl, rfl, hF⟩ := hrel
        by_cases hlt : i < K
        · obtain ⟨x0, x1⟩ := HIN.out i
          have hnx := HNX.out i
          have hpw := HPW.out i (by omega)
          obtain ⟨b0, b1⟩ := bitS_in s (s.at_ + i)
          have c6 := HC6.out _ _ i hF.fst
          change _ = some (Value.int .u64 (s.at_ + i)) at c6
          have HBI1 := Lib.hid (fun W h2 => HBI.out i hlt W h2)
          have HS1 := Lib.hid (HSZ.out i)
          have HS2 := Lib.hid (HSZ2.out i)
          have HS3 := Lib.hid (HST.out i hlt)
          have HCI := Lib.hid (fun W g h => HC6.out W g i h)
          have nb : s.at_ + (i : Int) + 1 < 18446744073709551616 := by omega
          have n00 : 0 ≤ s.at_ + (i : Int) := by omega
          have HN1 := Lib.hid (show s.at_ + (i : Int) + 1 = s.at_ + ((i + 1 : Nat) : Int) by omega)
          obtain ⟨Vi, hVi⟩ : ∃ V, srcV (s.to (s.at_ + i)) A c = V := ⟨_, rfl⟩
          rw [hVi] at hF HBI1 HS1 HS2 HS3 HCI
          change Hid (∀ (W : World) (g : Nat), Blk W g 30 Vi → W.cell? ⟨g, 36, none⟩ = some (.int .u64 (s.at_ + i))) at HCI
          obtain ⟨X, hX⟩ : ∃ x, numS s s.at_ i = x := ⟨_, rfl⟩
          obtain ⟨b, hb⟩ : ∃ x, bitS s (s.at_ + i) = x := ⟨_, rfl⟩
          obtain ⟨N, hN⟩ : ∃ x, s.at_ + (i : Int) = x := ⟨_, rfl⟩
          rw [hX, hb] at hnx
          rw [hX] at x0 x1
          rw [hb] at b0 b1 HBI1
          rw [hN] at c6 HBI1 HS3 HCI nb n00 HN1
          rw [hX]
          have HNXi := Lib.hid hnx
          have HF := Lib.hid hF
          have e4 : IntKind.u64.wrap (2 * X) = 2 * X := by rw [IntKind.wrap_u64]; omega
          have e5 : IntKind.u64.wrap (2 * X + b) = 2 * X + b := by rw [IntKind.wrap_u64]; omega
          have e6 : IntKind.u64.wrap (N + 1) = N + 1 := by rw [IntKind.wrap_u64]; omega
          clear hnx hVi hX hb hN hF hpw
          go_wp2_with (first
            | (with_reducible refine at_any ?_; refine at_dst 34 rfl ?_; refine wpList_load_blk rfl 30 (.tmp 2) rfl g2 rfl 30 Vi HF.out.fst _ Tryz.underlying30 rfl HS1.out ?_)
            | (go_at_call 47; (with_reducible refine (HBI1.out _ ((HRS.out.below HF.out.bel).mono HF.out.bel.size)).mono ?_); rintro e w5 ⟨rfl, hb5⟩; have F5 := Lib.hid (HF.out.below hb5); have c7 := HCI.out _ _ F5.out.fst; clear hb5)
            | (with_reducible refine at_any ?_; refine at_store 42 rfl ?_; refine wpList_store_cell rfl 22 (.tmp 42) (.tmp 41) rfl g2 36 rfl 30 Vi F5.out.fst (.int .u64 (N + 1)) rfl (by rw [HS2.out]; omega) size_u64s rfl rfl ?_; intro w9 hk9 ho9; have K9 := Lib.hid hk9.out; rw [HS3.out] at K9; have F9 := Lib.hid (F5.out.only h02 h25 K9.out ho9); clear hk9 ho9 K9))
          go_roundw
          case rel => exact ⟨i + 1, by omega, by rw [HNXi.out], by go_num, by have h := F9.out; rw [HN1.out] at h; exact h⟩
          case measure => simp [intOf]; omega
        · obtain rfl : i = K := by omega
          have HB2 : Src2 w g2 g5 (srcV (s.to (s.at_ + i)) A c) Z wr := hF
          have SV := Lib.hid SVK.out
          have OV := Lib.hid OVK.out
          have ZV := Lib.hid ZVK.out
          have HE2 := Lib.hid HEND.out
          obtain ⟨X, hX⟩ : ∃ x, numS s s.at_ i = x := ⟨_, rfl⟩
          obtain ⟨V, hV⟩ : ∃ V, srcV (s.to (s.at_ + i)) A c = V := ⟨_, rfl⟩
          rw [hV] at HB2 SV OV ZV HE2
          rw [hX] at HE2
          rw [hX]
          have HEND := Lib.hid HE2.out
          clear hF hX hV HIN HNX HPW HBI HST HC6 HSZ HSZ2 SVK OVK ZVK
          go_wp2_with fail
          have hS := HB2.keep.drew
          have HZ5 := HB2.old.drew
          refine wp_region_held_drew (S := (Fx [.blk g2 30 V, .bel w])) (by kernel_rfl) hS (fun hH => ?_)
          refine wpAnyH_letter #[false, false, false, false, false] (by kernel_rfl) (fun _ _ d _ _ h => by cases d <;> exact h) (fun QL HQ1 HQ2 => ?_)
          refine held_v 0 (some 43) rfl (by kernel_rfl) (by kernel_rfl) (by kernel_rfl) (by kernel_rfl) (fun c a v w h => HQ2.out c a _ v w h) (by kernel_rfl) (.int .u64 X) (fun W h => by kernel_rfl) hH ?_
          try simp only [Act.put, List.setIfInBounds_toArray, List.set_cons_zero, List.set_cons_succ]
          refine held_row 1 (some 44) rfl (by kernel_rfl) (by kernel_rfl) (by kernel_rfl) (by kernel_rfl) (fun c a v w h => HQ2.out c a _ v w h) (by kernel_rfl) 30 (.tmp 2) rfl g2 (by kernel_rfl) 30 V (fun _ h => h.1) _ Tryz.underlying30 rfl SV.out hH ?_
          try simp only [Act.put, List.setIfInBounds_toArray, List.set_cons_zero, List.set_cons_succ]
          refine held_v 2 (some 4) rfl (by kernel_rfl) (by kernel_rfl) (by kernel_rfl) (by kernel_rfl) (fun c a v w h => HQ2.out c a _ v w h) (by kernel_rfl) (.int .u64 X) (fun W h => by kernel_rfl) hH ?_
          try simp only [Act.put, List.setIfInBounds_toArray, List.set_cons_zero, List.set_cons_succ]
          refine wpAnyH_ready (rs := [3]) (by kernel_rfl) (by decide) ?_
          refine AllReadyH.cons rfl (fun K hK => ?_) AllReadyH.nil
          refine step_store none (by kernel_rfl) (by kernel_rfl) 30 (.tmp 5) (.tmp 44) rfl g5 (by kernel_rfl) 30 Z V HZ5.1 (by kernel_rfl) ZV.out SV.out OV.out ?_
          intro w41 hkw41 hsw41 hbw41 how41
          have ex42 : Fx [.blk g5 30 V] w41 := ⟨hkw41.out, trivial⟩
          refine hK.out _ _ (hH.store HZ5.1 ⟨Nat.ne_of_lt h25, Nat.le_trans h02 (Nat.le_of_lt h25), trivial⟩ hsw41.out hbw41 how41) (fun hw41 => ?_)
          clear hK K
          try simp only [Act.put, List.setIfInBounds_toArray, List.set_cons_zero, List.set_cons_succ]
          refine held_v 4 (some 6) rfl (by kernel_rfl) (by kernel_rfl) (by kernel_rfl) (by kernel_rfl) (fun c a v w h => HQ2.out c a _ v w h) (by kernel_rfl) (.int .i64 0) (fun W h => by kernel_rfl) hw41 ?_
          try simp only [Act.put, List.setIfInBounds_toArray, List.set_cons_zero, List.set_cons_succ]
          refine wpAnyH_done (by kernel_rfl) ?_ _
          refine HQ1.out _ _ ?_
          clear HQ1 HQ2
          go_wp2_with (refine bodyPost_mid 4 5 6 30 rfl g5 rfl (.int .u64 X) (.int .i64 0) rfl rfl 30 V ex42.1 _ Tryz.underlying30 rfl SV.out rfl ?_)
          exact HEND.out _ hw41.2.1
set_option maxHeartbeats 1000000 in
theorem rstape_c (zs : List Int) (hzl : zs.length ≤ 1000000) (b : Int) (b0 : 0 ≤ b) (b1 : b < 18446744073709551616) (A : Option Addr) (n c : Nat) (w : World) (hrd : Rd .u8 w w.heap.size A n zs) (hnc : n ≤ c) : Calls Tryz.prog 12 #[.slice A n c, .int .u64 b] w (RetTape w zs b) := by
  obtain ⟨i0, hi, hz0, hz1, hzb⟩ := info_parts info_u8'
  have hl := hrd.len
  have e1 : IntKind.u64.wrap (8 * (n : Int)) = 8 * n := by rw [IntKind.wrap_u64]; omega
  have HZ0 := Lib.hid zero_src
  have SZ := Lib.hid (sizedS Src.zero rfl none 0)
  have OZ := Lib.hid (srcV_ones Src.zero none 0)
  have HB0 := Lib.hid (fun (a : Act) (o : Oper) W h => build_src0 (a := a) (o := o) W h)
  have hR : RetTape w zs b = if b ≤ 8 * (zs.length : Int) then (fun e w' => ∃ A' c', e = .returned (.tuple #[.agg (srcV (Src.tapeOf zs b) A' c'), .int .i64 0]) ∧ Rd .u8 w' w'.heap.size A' zs.length zs ∧ zs.length ≤ c' ∧ c' ≤ maxLen ∧ Below w.heap.size w w') else (fun e w' => e = .returned (.tuple #[.agg (srcV Src.zero none 0), .int .i64 1]) ∧ Below w.heap.size w w') := by
    funext e w'
    unfold RetTape
    split <;> rfl
  rw [hR]
  obtain ⟨Z, hZ⟩ : ∃ Z, srcV Src.zero none 0 = Z := ⟨_, rfl⟩
  rw [hZ] at HZ0 SZ OZ HB0
  rw [hZ]
  by_cases hbig : b ≤ 8 * (zs.length : Int)
  · rw [if_pos hbig]
    have hT := Lib.hid (fun (A' : Option Addr) (c' : Nat) => sizedS (Src.tapeOf zs b) (by rfl) A' c')
    have OT := Lib.hid (fun (A' : Option Addr) (c' : Nat) => srcV_ones (Src.tapeOf zs b) A' c')
    have ZT := Lib.hid (fun (A' : Option Addr) (c' : Nat) => srcV_same Src.zero (Src.tapeOf zs b) rfl (by rfl) none A' 0 c')
    have BT := Lib.hid (fun (a : Act) (o : Oper) (x y z : Operand) (W : World) (A' : Option Addr) (c' : Nat) h1 h2 (h3 : a.eval y = .slice A' n c') h4 => build_src1 (a := a) (o := o) (x := x) (y := y) (z := z) W A' c' zs b h1 h2 (by rw [hl]; exact h3) h4)
    rw [hZ] at ZT
    rw [hl] at hbig ⊢
    have HRD := Lib.hid hrd
    have HLZ := Lib.hid hl
    have hn : n ≤ 1000000 := by omega
    clear hZ hR hrd hl hzl
    go_enter Tryz.func12, Tryz.ntmps12
    go_wp2_with (first
      | (with_reducible refine at_any ?_; refine at_dst 4 rfl ?_; refine wpList_alloc_any rfl 30 rfl Z HZ0.out ?_; intro w1 hk1 hs1 hb1)
      | (at_builtin; refine wpList_append_ints _ rfl (.tmp 13) (.tmp 14) 26 rfl w.heap.size 5 i0 _ 1 .u8 Tryz.underlying26 hi hz0 hz1 hzb rfl _ [] rfl (own_empty w1 5 .u8 hb1.size) w.heap.size A n c zs rfl ((HRD.out.below hb1).alloc hb1.size _) (by simp [maxLen]; omega) (by simp; omega) (by have := hb1.size; simp; omega) ?_; intro v2 w2 hown2 hg2 hat2; have hb2 : Below w.heap.size w w2 := (own_empty w1 5 .u8 hb1.size).below_ (hb1.alloc hb1.size _) (by have := hb1.size; simp; omega) hg2; have hk2 : Blk w2 w.heap.size 30 Z := Blk.grown (hk1.out.alloc _) (own_empty w1 5 .u8 hb1.size) (by decide) hg2; simp only [List.nil_append] at hown2; obtain ⟨A2, c2, rfl, hc2, hm2⟩ := hown2.form; rw [HLZ.out] at hown2 hc2 ⊢; clear hg2 hat2)
      | (with_reducible refine at_any ?_; refine at_dst 17 rfl ?_; refine wpList_val rfl (.agg (srcV (Src.tapeOf zs b) A2 c2)) (BT.out _ _ _ _ _ _ A2 c2 rfl rfl rfl rfl) ?_)
      | (with_reducible refine at_any ?_; refine at_store 4 rfl ?_; refine wpList_store_any rfl 30 (.tmp 4) (.tmp 17) rfl w.heap.size rfl 30 Z (srcV (Src.tapeOf zs b) A2 c2) hk2 rfl (ZT.out _ _) (hT.out _ _) (OT.out _ _) ?_; intro w3 hk3 hs3 hb3 ho3)
      | (refine bodyPost_any2 4 5 30 rfl w.heap.size rfl (.int .i64 0) rfl 30 (srcV (Src.tapeOf zs b) A2 c2) hk3.out _ Tryz.underlying30 rfl (hT.out _ _) rfl ?_))
    exact ⟨A2, c2, rfl, ((hown2.rd HLZ.out).other ho3 (hown2.apart hk2 (by decide))).fit, hc2, hm2, hb2.trans (hb3 _ (Nat.le_refl _))⟩
  · rw [if_neg hbig]
    rw [hl] at hbig
    clear hZ hR hrd hl
    go_enter Tryz.func12, Tryz.ntmps12
    go_wp2_with (first
      | (with_reducible refine at_any ?_; refine at_dst 4 rfl ?_; refine wpList_alloc_any rfl 30 rfl Z HZ0.out ?_; intro w1 hk1 hs1 hb1)
      | (with_reducible refine at_any ?_; refine at_dst 12 rfl ?_; refine wpList_val rfl (.agg Z) (HB0.out _ _ _ rfl) ?_)
      | (with_reducible refine at_any ?_; refine at_store 4 rfl ?_; refine wpList_store_any rfl 30 (.tmp 4) (.tmp 12) rfl w.heap.size rfl 30 Z Z hk1.out rfl rfl SZ.out OZ.out ?_; intro w3 hk3 hs3 hb3 ho3)
      | (refine bodyPost_any2 4 5 30 rfl w.heap.size rfl (.int .i64 1) rfl 30 Z hk3.out _ Tryz.underlying30 rfl SZ.out rfl ?_))
    exact hb1.trans (hb3 _ (Nat.le_refl _))
set_option maxHeartbeats 4000000 in
theorem rssame_c (a b : Src) (oka : a.Ok) (okb : b.Ok) (A B : Option Addr) (c d : Nat) (w : World) (hra : Rd .u8 w w.heap.size A a.tape.length a.tape) (hrb : Rd .u8 w w.heap.size B b.tape.length b.tape) : Calls Tryz.prog 8 #[.agg (srcV a A c), .agg (srcV b B d)] w fun e w' => e = .returned (.bool (sameS a b)) ∧ Below w.heap.size w w' := by
  have HA := Lib.hid (fun (W : World) (g : Nat) (h : Blk W g 30 (srcV a A c)) => And.intro ((h.cell 0).trans (srcV_kind a A c)) (And.intro ((h.cell 1).trans (srcV_tape a A c)) (And.intro ((h.cell 2).trans (srcV_bits a A c)) (And.intro ((h.cell 35).trans (srcV_dom a oka.sl A c)) (And.intro ((h.cell 36).trans (srcV_at a oka.sl A c)) (srcV_seed h))))))
  have HB := Lib.hid (fun (W : World) (g : Nat) (h : Blk W g 30 (srcV b B d)) => And.intro ((h.cell 0).trans (srcV_kind b B d)) (And.intro ((h.cell 1).trans (srcV_tape b B d)) (And.intro ((h.cell 2).trans (srcV_bits b B d)) (And.intro ((h.cell 35).trans (srcV_dom b okb.sl B d)) (And.intro ((h.cell 36).trans (srcV_at b okb.sl B d)) (srcV_seed h))))))
  have SA := Lib.hid (show (Tryz.prog.info? 28).map (·.size) = some a.seed.length by rw [oka.sl]; exact size_hash)
  have SB := Lib.hid (show (Tryz.prog.info? 28).map (·.size) = some b.seed.length by rw [okb.sl]; exact size_hash)
  have HRA := Lib.hid hra
  have HRB := Lib.hid hrb
  by_cases h0 : a.kind = b.kind
  · by_cases h1 : a.tape = b.tape
    · by_cases h2 : a.bits = b.bits
      · by_cases h3 : a.seed = b.seed
        · by_cases h4 : a.dom = b.dom
          · by_cases h5 : a.at_ = b.at_
            · have HR : Hid (sameS a b = true) := Lib.hid (by unfold sameS; rw [decide_eq_true h0, decide_eq_true h1, decide_eq_true h2, decide_eq_true h3, decide_eq_true h4, decide_eq_true h5]; simp)
              have t0 : (a.kind == b.kind) = true := by rw [beq_iff_eq]; exact h0
              have t1 : ((strB a.tape).toList == (strB b.tape).toList) = true := by rw [beq_iff_eq, h1]
              have t2 : (a.bits == b.bits) = true := by rw [beq_iff_eq]; exact h2
              have HSE := Lib.hid (fun W => (show (Op.equalIn 10000 28 (.agg (intsA .u8 a.seed)) (.agg (intsA .u8 b.seed))).run Tryz.prog W = .ok true W by rw [eq_hash a.seed b.seed oka.sl okb.sl, decide_eq_true h3]))
              have t4 : (a.dom == b.dom) = true := by rw [beq_iff_eq]; exact h4
              have t5 : (a.at_ == b.at_) = true := by rw [beq_iff_eq]; exact h5
              have t3 := HSE.out
              clear HSE
              obtain ⟨Va, hVa⟩ : ∃ V, srcV a A c = V := ⟨_, rfl⟩
              obtain ⟨Vb, hVb⟩ : ∃ V, srcV b B d = V := ⟨_, rfl⟩
              rw [hVa] at HA
              rw [hVb] at HB
              rw [hVa, hVb]
              clear hVa hVb hra hrb h0 h1 h2 h3 h4 h5
              obtain ⟨a_kind, ha_kind⟩ : ∃ x, a.kind = x := ⟨_, rfl⟩
              obtain ⟨b_kind, hb_kind⟩ : ∃ x, b.kind = x := ⟨_, rfl⟩
              obtain ⟨a_bits, ha_bits⟩ : ∃ x, a.bits = x := ⟨_, rfl⟩
              obtain ⟨b_bits, hb_bits⟩ : ∃ x, b.bits = x := ⟨_, rfl⟩
              obtain ⟨a_dom, ha_dom⟩ : ∃ x, a.dom = x := ⟨_, rfl⟩
              obtain ⟨b_dom, hb_dom⟩ : ∃ x, b.dom = x := ⟨_, rfl⟩
              obtain ⟨a_at_, ha_at_⟩ : ∃ x, a.at_ = x := ⟨_, rfl⟩
              obtain ⟨b_at_, hb_at_⟩ : ∃ x, b.at_ = x := ⟨_, rfl⟩
              rw [ha_kind, ha_bits, ha_dom, ha_at_] at HA
              rw [hb_kind, hb_bits, hb_dom, hb_at_] at HB
              rw [ha_kind, hb_kind] at t0
              rw [ha_bits, hb_bits] at t2
              rw [ha_dom, hb_dom] at t4
              rw [ha_at_, hb_at_] at t5
              clear ha_kind ha_bits ha_dom ha_at_ hb_kind hb_bits hb_dom hb_at_
              go_enter Tryz.func8, Tryz.ntmps8
              go_wp2_with (first
                | (with_reducible refine at_any ?_; refine at_dst 2 rfl ?_; refine wpList_box_any rfl 30 (.tmp 0) rfl Va rfl ?_; intro w1 hk1 hs1 hb1)
                | (with_reducible refine at_any ?_; refine at_dst 3 rfl ?_; refine wpList_box_any rfl 30 (.tmp 1) rfl Vb rfl ?_; intro w2 hk2 hs2 hb2; have ka := Lib.hid (hk1.out.below hb2 hk1.out.lt); have bl := Lib.hid (hb1.trans (hb2.mono hb1.size)); have ca0 := (HA.out _ _ ka.out).1; have ca1 := (HA.out _ _ ka.out).2.1; have ca2 := (HA.out _ _ ka.out).2.2.1; have ca4 := (HA.out _ _ ka.out).2.2.2.1; have ca5 := (HA.out _ _ ka.out).2.2.2.2.1; have cb0 := (HB.out _ _ hk2.out).1; have cb1 := (HB.out _ _ hk2.out).2.1; have cb2 := (HB.out _ _ hk2.out).2.2.1; have cb4 := (HB.out _ _ hk2.out).2.2.2.1; have cb5 := (HB.out _ _ hk2.out).2.2.2.2.1; have xa := str_rd5 (c := c) (HRA.out.below bl.out); have xb := str_rd5 (c := d) (HRB.out.below bl.out))
                | (with_reducible refine at_any ?_; refine at_dst 28 rfl ?_; refine wpList_load_gdo (by kernel_rfl) 28 (.tmp 27) rfl w.heap.size 3 rfl .u8 a.seed (HA.out _ _ ka.out).2.2.2.2.2 _ Tryz.underlying28 rfl SA.out ?_)
                | (with_reducible refine at_any ?_; refine at_dst 30 rfl ?_; refine wpList_load_gdo (by kernel_rfl) 28 (.tmp 29) rfl w1.heap.size 3 rfl .u8 b.seed (HB.out _ _ hk2.out).2.2.2.2.2 _ Tryz.underlying28 rfl SB.out ?_))
              go_ret
              exact ⟨by rw [HR.out]; rfl, bl.out⟩
            · have HR : Hid (sameS a b = false) := Lib.hid (by unfold sameS; rw [decide_eq_true h0, decide_eq_true h1, decide_eq_true h2, decide_eq_true h3, decide_eq_true h4, decide_eq_false h5]; simp)
              have t0 : (a.kind == b.kind) = true := by rw [beq_iff_eq]; exact h0
              have t1 : ((strB a.tape).toList == (strB b.tape).toList) = true := by rw [beq_iff_eq, h1]
              have t2 : (a.bits == b.bits) = true := by rw [beq_iff_eq]; exact h2
              have HSE := Lib.hid (fun W => (show (Op.equalIn 10000 28 (.agg (intsA .u8 a.seed)) (.agg (intsA .u8 b.seed))).run Tryz.prog W = .ok true W by rw [eq_hash a.seed b.seed oka.sl okb.sl, decide_eq_true h3]))
              have t4 : (a.dom == b.dom) = true := by rw [beq_iff_eq]; exact h4
              have t5 : (a.at_ == b.at_) = false := by rw [beq_eq_false_iff_ne]; exact h5
              have t3 := HSE.out
              clear HSE
              obtain ⟨Va, hVa⟩ : ∃ V, srcV a A c = V := ⟨_, rfl⟩
              obtain ⟨Vb, hVb⟩ : ∃ V, srcV b B d = V := ⟨_, rfl⟩
              rw [hVa] at HA
              rw [hVb] at HB
              rw [hVa, hVb]
              clear hVa hVb hra hrb h0 h1 h2 h3 h4 h5
              obtain ⟨a_kind, ha_kind⟩ : ∃ x, a.kind = x := ⟨_, rfl⟩
              obtain ⟨b_kind, hb_kind⟩ : ∃ x, b.kind = x := ⟨_, rfl⟩
              obtain ⟨a_bits, ha_bits⟩ : ∃ x, a.bits = x := ⟨_, rfl⟩
              obtain ⟨b_bits, hb_bits⟩ : ∃ x, b.bits = x := ⟨_, rfl⟩
              obtain ⟨a_dom, ha_dom⟩ : ∃ x, a.dom = x := ⟨_, rfl⟩
              obtain ⟨b_dom, hb_dom⟩ : ∃ x, b.dom = x := ⟨_, rfl⟩
              obtain ⟨a_at_, ha_at_⟩ : ∃ x, a.at_ = x := ⟨_, rfl⟩
              obtain ⟨b_at_, hb_at_⟩ : ∃ x, b.at_ = x := ⟨_, rfl⟩
              rw [ha_kind, ha_bits, ha_dom, ha_at_] at HA
              rw [hb_kind, hb_bits, hb_dom, hb_at_] at HB
              rw [ha_kind, hb_kind] at t0
              rw [ha_bits, hb_bits] at t2
              rw [ha_dom, hb_dom] at t4
              rw [ha_at_, hb_at_] at t5
              clear ha_kind ha_bits ha_dom ha_at_ hb_kind hb_bits hb_dom hb_at_
              go_enter Tryz.func8, Tryz.ntmps8
              go_wp2_with (first
                | (with_reducible refine at_any ?_; refine at_dst 2 rfl ?_; refine wpList_box_any rfl 30 (.tmp 0) rfl Va rfl ?_; intro w1 hk1 hs1 hb1)
                | (with_reducible refine at_any ?_; refine at_dst 3 rfl ?_; refine wpList_box_any rfl 30 (.tmp 1) rfl Vb rfl ?_; intro w2 hk2 hs2 hb2; have ka := Lib.hid (hk1.out.below hb2 hk1.out.lt); have bl := Lib.hid (hb1.trans (hb2.mono hb1.size)); have ca0 := (HA.out _ _ ka.out).1; have ca1 := (HA.out _ _ ka.out).2.1; have ca2 := (HA.out _ _ ka.out).2.2.1; have ca4 := (HA.out _ _ ka.out).2.2.2.1; have ca5 := (HA.out _ _ ka.out).2.2.2.2.1; have cb0 := (HB.out _ _ hk2.out).1; have cb1 := (HB.out _ _ hk2.out).2.1; have cb2 := (HB.out _ _ hk2.out).2.2.1; have cb4 := (HB.out _ _ hk2.out).2.2.2.1; have cb5 := (HB.out _ _ hk2.out).2.2.2.2.1; have xa := str_rd5 (c := c) (HRA.out.below bl.out); have xb := str_rd5 (c := d) (HRB.out.below bl.out))
                | (with_reducible refine at_any ?_; refine at_dst 28 rfl ?_; refine wpList_load_gdo (by kernel_rfl) 28 (.tmp 27) rfl w.heap.size 3 rfl .u8 a.seed (HA.out _ _ ka.out).2.2.2.2.2 _ Tryz.underlying28 rfl SA.out ?_)
                | (with_reducible refine at_any ?_; refine at_dst 30 rfl ?_; refine wpList_load_gdo (by kernel_rfl) 28 (.tmp 29) rfl w1.heap.size 3 rfl .u8 b.seed (HB.out _ _ hk2.out).2.2.2.2.2 _ Tryz.underlying28 rfl SB.out ?_))
              go_ret
              exact ⟨by rw [HR.out]; rfl, bl.out⟩
          · have HR : Hid (sameS a b = false) := Lib.hid (by unfold sameS; rw [decide_eq_true h0, decide_eq_true h1, decide_eq_true h2, decide_eq_true h3, decide_eq_false h4]; simp)
            have t0 : (a.kind == b.kind) = true := by rw [beq_iff_eq]; exact h0
            have t1 : ((strB a.tape).toList == (strB b.tape).toList) = true := by rw [beq_iff_eq, h1]
            have t2 : (a.bits == b.bits) = true := by rw [beq_iff_eq]; exact h2
            have HSE := Lib.hid (fun W => (show (Op.equalIn 10000 28 (.agg (intsA .u8 a.seed)) (.agg (intsA .u8 b.seed))).run Tryz.prog W = .ok true W by rw [eq_hash a.seed b.seed oka.sl okb.sl, decide_eq_true h3]))
            have t4 : (a.dom == b.dom) = false := by rw [beq_eq_false_iff_ne]; exact h4
            have t3 := HSE.out
            clear HSE
            obtain ⟨Va, hVa⟩ : ∃ V, srcV a A c = V := ⟨_, rfl⟩
            obtain ⟨Vb, hVb⟩ : ∃ V, srcV b B d = V := ⟨_, rfl⟩
            rw [hVa] at HA
            rw [hVb] at HB
            rw [hVa, hVb]
            clear hVa hVb hra hrb h0 h1 h2 h3 h4
            obtain ⟨a_kind, ha_kind⟩ : ∃ x, a.kind = x := ⟨_, rfl⟩
            obtain ⟨b_kind, hb_kind⟩ : ∃ x, b.kind = x := ⟨_, rfl⟩
            obtain ⟨a_bits, ha_bits⟩ : ∃ x, a.bits = x := ⟨_, rfl⟩
            obtain ⟨b_bits, hb_bits⟩ : ∃ x, b.bits = x := ⟨_, rfl⟩
            obtain ⟨a_dom, ha_dom⟩ : ∃ x, a.dom = x := ⟨_, rfl⟩
            obtain ⟨b_dom, hb_dom⟩ : ∃ x, b.dom = x := ⟨_, rfl⟩
            obtain ⟨a_at_, ha_at_⟩ : ∃ x, a.at_ = x := ⟨_, rfl⟩
            obtain ⟨b_at_, hb_at_⟩ : ∃ x, b.at_ = x := ⟨_, rfl⟩
            rw [ha_kind, ha_bits, ha_dom, ha_at_] at HA
            rw [hb_kind, hb_bits, hb_dom, hb_at_] at HB
            rw [ha_kind, hb_kind] at t0
            rw [ha_bits, hb_bits] at t2
            rw [ha_dom, hb_dom] at t4
            clear ha_kind ha_bits ha_dom ha_at_ hb_kind hb_bits hb_dom hb_at_
            go_enter Tryz.func8, Tryz.ntmps8
            go_wp2_with (first
              | (with_reducible refine at_any ?_; refine at_dst 2 rfl ?_; refine wpList_box_any rfl 30 (.tmp 0) rfl Va rfl ?_; intro w1 hk1 hs1 hb1)
              | (with_reducible refine at_any ?_; refine at_dst 3 rfl ?_; refine wpList_box_any rfl 30 (.tmp 1) rfl Vb rfl ?_; intro w2 hk2 hs2 hb2; have ka := Lib.hid (hk1.out.below hb2 hk1.out.lt); have bl := Lib.hid (hb1.trans (hb2.mono hb1.size)); have ca0 := (HA.out _ _ ka.out).1; have ca1 := (HA.out _ _ ka.out).2.1; have ca2 := (HA.out _ _ ka.out).2.2.1; have ca4 := (HA.out _ _ ka.out).2.2.2.1; have ca5 := (HA.out _ _ ka.out).2.2.2.2.1; have cb0 := (HB.out _ _ hk2.out).1; have cb1 := (HB.out _ _ hk2.out).2.1; have cb2 := (HB.out _ _ hk2.out).2.2.1; have cb4 := (HB.out _ _ hk2.out).2.2.2.1; have cb5 := (HB.out _ _ hk2.out).2.2.2.2.1; have xa := str_rd5 (c := c) (HRA.out.below bl.out); have xb := str_rd5 (c := d) (HRB.out.below bl.out))
              | (with_reducible refine at_any ?_; refine at_dst 28 rfl ?_; refine wpList_load_gdo (by kernel_rfl) 28 (.tmp 27) rfl w.heap.size 3 rfl .u8 a.seed (HA.out _ _ ka.out).2.2.2.2.2 _ Tryz.underlying28 rfl SA.out ?_)
              | (with_reducible refine at_any ?_; refine at_dst 30 rfl ?_; refine wpList_load_gdo (by kernel_rfl) 28 (.tmp 29) rfl w1.heap.size 3 rfl .u8 b.seed (HB.out _ _ hk2.out).2.2.2.2.2 _ Tryz.underlying28 rfl SB.out ?_))
            go_ret
            exact ⟨by rw [HR.out]; rfl, bl.out⟩
        · have HR : Hid (sameS a b = false) := Lib.hid (by unfold sameS; rw [decide_eq_true h0, decide_eq_true h1, decide_eq_true h2, decide_eq_false h3]; simp)
          have t0 : (a.kind == b.kind) = true := by rw [beq_iff_eq]; exact h0
          have t1 : ((strB a.tape).toList == (strB b.tape).toList) = true := by rw [beq_iff_eq, h1]
          have t2 : (a.bits == b.bits) = true := by rw [beq_iff_eq]; exact h2
          have HSE := Lib.hid (fun W => (show (Op.equalIn 10000 28 (.agg (intsA .u8 a.seed)) (.agg (intsA .u8 b.seed))).run Tryz.prog W = .ok false W by rw [eq_hash a.seed b.seed oka.sl okb.sl, decide_eq_false h3]))
          have t3 := HSE.out
          clear HSE
          obtain ⟨Va, hVa⟩ : ∃ V, srcV a A c = V := ⟨_, rfl⟩
          obtain ⟨Vb, hVb⟩ : ∃ V, srcV b B d = V := ⟨_, rfl⟩
          rw [hVa] at HA
          rw [hVb] at HB
          rw [hVa, hVb]
          clear hVa hVb hra hrb h0 h1 h2 h3
          obtain ⟨a_kind, ha_kind⟩ : ∃ x, a.kind = x := ⟨_, rfl⟩
          obtain ⟨b_kind, hb_kind⟩ : ∃ x, b.kind = x := ⟨_, rfl⟩
          obtain ⟨a_bits, ha_bits⟩ : ∃ x, a.bits = x := ⟨_, rfl⟩
          obtain ⟨b_bits, hb_bits⟩ : ∃ x, b.bits = x := ⟨_, rfl⟩
          obtain ⟨a_dom, ha_dom⟩ : ∃ x, a.dom = x := ⟨_, rfl⟩
          obtain ⟨b_dom, hb_dom⟩ : ∃ x, b.dom = x := ⟨_, rfl⟩
          obtain ⟨a_at_, ha_at_⟩ : ∃ x, a.at_ = x := ⟨_, rfl⟩
          obtain ⟨b_at_, hb_at_⟩ : ∃ x, b.at_ = x := ⟨_, rfl⟩
          rw [ha_kind, ha_bits, ha_dom, ha_at_] at HA
          rw [hb_kind, hb_bits, hb_dom, hb_at_] at HB
          rw [ha_kind, hb_kind] at t0
          rw [ha_bits, hb_bits] at t2
          clear ha_kind ha_bits ha_dom ha_at_ hb_kind hb_bits hb_dom hb_at_
          go_enter Tryz.func8, Tryz.ntmps8
          go_wp2_with (first
            | (with_reducible refine at_any ?_; refine at_dst 2 rfl ?_; refine wpList_box_any rfl 30 (.tmp 0) rfl Va rfl ?_; intro w1 hk1 hs1 hb1)
            | (with_reducible refine at_any ?_; refine at_dst 3 rfl ?_; refine wpList_box_any rfl 30 (.tmp 1) rfl Vb rfl ?_; intro w2 hk2 hs2 hb2; have ka := Lib.hid (hk1.out.below hb2 hk1.out.lt); have bl := Lib.hid (hb1.trans (hb2.mono hb1.size)); have ca0 := (HA.out _ _ ka.out).1; have ca1 := (HA.out _ _ ka.out).2.1; have ca2 := (HA.out _ _ ka.out).2.2.1; have ca4 := (HA.out _ _ ka.out).2.2.2.1; have ca5 := (HA.out _ _ ka.out).2.2.2.2.1; have cb0 := (HB.out _ _ hk2.out).1; have cb1 := (HB.out _ _ hk2.out).2.1; have cb2 := (HB.out _ _ hk2.out).2.2.1; have cb4 := (HB.out _ _ hk2.out).2.2.2.1; have cb5 := (HB.out _ _ hk2.out).2.2.2.2.1; have xa := str_rd5 (c := c) (HRA.out.below bl.out); have xb := str_rd5 (c := d) (HRB.out.below bl.out))
            | (with_reducible refine at_any ?_; refine at_dst 28 rfl ?_; refine wpList_load_gdo (by kernel_rfl) 28 (.tmp 27) rfl w.heap.size 3 rfl .u8 a.seed (HA.out _ _ ka.out).2.2.2.2.2 _ Tryz.underlying28 rfl SA.out ?_)
            | (with_reducible refine at_any ?_; refine at_dst 30 rfl ?_; refine wpList_load_gdo (by kernel_rfl) 28 (.tmp 29) rfl w1.heap.size 3 rfl .u8 b.seed (HB.out _ _ hk2.out).2.2.2.2.2 _ Tryz.underlying28 rfl SB.out ?_))
          go_ret
          exact ⟨by rw [HR.out]; rfl, bl.out⟩
      · have HR : Hid (sameS a b = false) := Lib.hid (by unfold sameS; rw [decide_eq_true h0, decide_eq_true h1, decide_eq_false h2]; simp)
        have t0 : (a.kind == b.kind) = true := by rw [beq_iff_eq]; exact h0
        have t1 : ((strB a.tape).toList == (strB b.tape).toList) = true := by rw [beq_iff_eq, h1]
        have t2 : (a.bits == b.bits) = false := by rw [beq_eq_false_iff_ne]; exact h2
        skip
        obtain ⟨Va, hVa⟩ : ∃ V, srcV a A c = V := ⟨_, rfl⟩
        obtain ⟨Vb, hVb⟩ : ∃ V, srcV b B d = V := ⟨_, rfl⟩
        rw [hVa] at HA
        rw [hVb] at HB
        rw [hVa, hVb]
        clear hVa hVb hra hrb h0 h1 h2
        obtain ⟨a_kind, ha_kind⟩ : ∃ x, a.kind = x := ⟨_, rfl⟩
        obtain ⟨b_kind, hb_kind⟩ : ∃ x, b.kind = x := ⟨_, rfl⟩
        obtain ⟨a_bits, ha_bits⟩ : ∃ x, a.bits = x := ⟨_, rfl⟩
        obtain ⟨b_bits, hb_bits⟩ : ∃ x, b.bits = x := ⟨_, rfl⟩
        obtain ⟨a_dom, ha_dom⟩ : ∃ x, a.dom = x := ⟨_, rfl⟩
        obtain ⟨b_dom, hb_dom⟩ : ∃ x, b.dom = x := ⟨_, rfl⟩
        obtain ⟨a_at_, ha_at_⟩ : ∃ x, a.at_ = x := ⟨_, rfl⟩
        obtain ⟨b_at_, hb_at_⟩ : ∃ x, b.at_ = x := ⟨_, rfl⟩
        rw [ha_kind, ha_bits, ha_dom, ha_at_] at HA
        rw [hb_kind, hb_bits, hb_dom, hb_at_] at HB
        rw [ha_kind, hb_kind] at t0
        rw [ha_bits, hb_bits] at t2
        clear ha_kind ha_bits ha_dom ha_at_ hb_kind hb_bits hb_dom hb_at_
        go_enter Tryz.func8, Tryz.ntmps8
        go_wp2_with (first
          | (with_reducible refine at_any ?_; refine at_dst 2 rfl ?_; refine wpList_box_any rfl 30 (.tmp 0) rfl Va rfl ?_; intro w1 hk1 hs1 hb1)
          | (with_reducible refine at_any ?_; refine at_dst 3 rfl ?_; refine wpList_box_any rfl 30 (.tmp 1) rfl Vb rfl ?_; intro w2 hk2 hs2 hb2; have ka := Lib.hid (hk1.out.below hb2 hk1.out.lt); have bl := Lib.hid (hb1.trans (hb2.mono hb1.size)); have ca0 := (HA.out _ _ ka.out).1; have ca1 := (HA.out _ _ ka.out).2.1; have ca2 := (HA.out _ _ ka.out).2.2.1; have ca4 := (HA.out _ _ ka.out).2.2.2.1; have ca5 := (HA.out _ _ ka.out).2.2.2.2.1; have cb0 := (HB.out _ _ hk2.out).1; have cb1 := (HB.out _ _ hk2.out).2.1; have cb2 := (HB.out _ _ hk2.out).2.2.1; have cb4 := (HB.out _ _ hk2.out).2.2.2.1; have cb5 := (HB.out _ _ hk2.out).2.2.2.2.1; have xa := str_rd5 (c := c) (HRA.out.below bl.out); have xb := str_rd5 (c := d) (HRB.out.below bl.out))
          | (with_reducible refine at_any ?_; refine at_dst 28 rfl ?_; refine wpList_load_gdo (by kernel_rfl) 28 (.tmp 27) rfl w.heap.size 3 rfl .u8 a.seed (HA.out _ _ ka.out).2.2.2.2.2 _ Tryz.underlying28 rfl SA.out ?_)
          | (with_reducible refine at_any ?_; refine at_dst 30 rfl ?_; refine wpList_load_gdo (by kernel_rfl) 28 (.tmp 29) rfl w1.heap.size 3 rfl .u8 b.seed (HB.out _ _ hk2.out).2.2.2.2.2 _ Tryz.underlying28 rfl SB.out ?_))
        go_ret
        exact ⟨by rw [HR.out]; rfl, bl.out⟩
    · have HR : Hid (sameS a b = false) := Lib.hid (by unfold sameS; rw [decide_eq_true h0, decide_eq_false h1]; simp)
      have t0 : (a.kind == b.kind) = true := by rw [beq_iff_eq]; exact h0
      have t1 : ((strB a.tape).toList == (strB b.tape).toList) = false := by rw [beq_eq_false_iff_ne]; exact fun h => h1 (strB_inj oka.ti okb.ti (toL_eq5.1 h))
      skip
      obtain ⟨Va, hVa⟩ : ∃ V, srcV a A c = V := ⟨_, rfl⟩
      obtain ⟨Vb, hVb⟩ : ∃ V, srcV b B d = V := ⟨_, rfl⟩
      rw [hVa] at HA
      rw [hVb] at HB
      rw [hVa, hVb]
      clear hVa hVb hra hrb h0 h1
      obtain ⟨a_kind, ha_kind⟩ : ∃ x, a.kind = x := ⟨_, rfl⟩
      obtain ⟨b_kind, hb_kind⟩ : ∃ x, b.kind = x := ⟨_, rfl⟩
      obtain ⟨a_bits, ha_bits⟩ : ∃ x, a.bits = x := ⟨_, rfl⟩
      obtain ⟨b_bits, hb_bits⟩ : ∃ x, b.bits = x := ⟨_, rfl⟩
      obtain ⟨a_dom, ha_dom⟩ : ∃ x, a.dom = x := ⟨_, rfl⟩
      obtain ⟨b_dom, hb_dom⟩ : ∃ x, b.dom = x := ⟨_, rfl⟩
      obtain ⟨a_at_, ha_at_⟩ : ∃ x, a.at_ = x := ⟨_, rfl⟩
      obtain ⟨b_at_, hb_at_⟩ : ∃ x, b.at_ = x := ⟨_, rfl⟩
      rw [ha_kind, ha_bits, ha_dom, ha_at_] at HA
      rw [hb_kind, hb_bits, hb_dom, hb_at_] at HB
      rw [ha_kind, hb_kind] at t0
      clear ha_kind ha_bits ha_dom ha_at_ hb_kind hb_bits hb_dom hb_at_
      go_enter Tryz.func8, Tryz.ntmps8
      go_wp2_with (first
        | (with_reducible refine at_any ?_; refine at_dst 2 rfl ?_; refine wpList_box_any rfl 30 (.tmp 0) rfl Va rfl ?_; intro w1 hk1 hs1 hb1)
        | (with_reducible refine at_any ?_; refine at_dst 3 rfl ?_; refine wpList_box_any rfl 30 (.tmp 1) rfl Vb rfl ?_; intro w2 hk2 hs2 hb2; have ka := Lib.hid (hk1.out.below hb2 hk1.out.lt); have bl := Lib.hid (hb1.trans (hb2.mono hb1.size)); have ca0 := (HA.out _ _ ka.out).1; have ca1 := (HA.out _ _ ka.out).2.1; have ca2 := (HA.out _ _ ka.out).2.2.1; have ca4 := (HA.out _ _ ka.out).2.2.2.1; have ca5 := (HA.out _ _ ka.out).2.2.2.2.1; have cb0 := (HB.out _ _ hk2.out).1; have cb1 := (HB.out _ _ hk2.out).2.1; have cb2 := (HB.out _ _ hk2.out).2.2.1; have cb4 := (HB.out _ _ hk2.out).2.2.2.1; have cb5 := (HB.out _ _ hk2.out).2.2.2.2.1; have xa := str_rd5 (c := c) (HRA.out.below bl.out); have xb := str_rd5 (c := d) (HRB.out.below bl.out))
        | (with_reducible refine at_any ?_; refine at_dst 28 rfl ?_; refine wpList_load_gdo (by kernel_rfl) 28 (.tmp 27) rfl w.heap.size 3 rfl .u8 a.seed (HA.out _ _ ka.out).2.2.2.2.2 _ Tryz.underlying28 rfl SA.out ?_)
        | (with_reducible refine at_any ?_; refine at_dst 30 rfl ?_; refine wpList_load_gdo (by kernel_rfl) 28 (.tmp 29) rfl w1.heap.size 3 rfl .u8 b.seed (HB.out _ _ hk2.out).2.2.2.2.2 _ Tryz.underlying28 rfl SB.out ?_))
      go_ret
      exact ⟨by rw [HR.out]; rfl, bl.out⟩
  · have HR : Hid (sameS a b = false) := Lib.hid (by unfold sameS; rw [decide_eq_false h0]; simp)
    have t0 : (a.kind == b.kind) = false := by rw [beq_eq_false_iff_ne]; exact h0
    skip
    obtain ⟨Va, hVa⟩ : ∃ V, srcV a A c = V := ⟨_, rfl⟩
    obtain ⟨Vb, hVb⟩ : ∃ V, srcV b B d = V := ⟨_, rfl⟩
    rw [hVa] at HA
    rw [hVb] at HB
    rw [hVa, hVb]
    clear hVa hVb hra hrb h0
    obtain ⟨a_kind, ha_kind⟩ : ∃ x, a.kind = x := ⟨_, rfl⟩
    obtain ⟨b_kind, hb_kind⟩ : ∃ x, b.kind = x := ⟨_, rfl⟩
    obtain ⟨a_bits, ha_bits⟩ : ∃ x, a.bits = x := ⟨_, rfl⟩
    obtain ⟨b_bits, hb_bits⟩ : ∃ x, b.bits = x := ⟨_, rfl⟩
    obtain ⟨a_dom, ha_dom⟩ : ∃ x, a.dom = x := ⟨_, rfl⟩
    obtain ⟨b_dom, hb_dom⟩ : ∃ x, b.dom = x := ⟨_, rfl⟩
    obtain ⟨a_at_, ha_at_⟩ : ∃ x, a.at_ = x := ⟨_, rfl⟩
    obtain ⟨b_at_, hb_at_⟩ : ∃ x, b.at_ = x := ⟨_, rfl⟩
    rw [ha_kind, ha_bits, ha_dom, ha_at_] at HA
    rw [hb_kind, hb_bits, hb_dom, hb_at_] at HB
    rw [ha_kind, hb_kind] at t0
    clear ha_kind ha_bits ha_dom ha_at_ hb_kind hb_bits hb_dom hb_at_
    go_enter Tryz.func8, Tryz.ntmps8
    go_wp2_with (first
      | (with_reducible refine at_any ?_; refine at_dst 2 rfl ?_; refine wpList_box_any rfl 30 (.tmp 0) rfl Va rfl ?_; intro w1 hk1 hs1 hb1)
      | (with_reducible refine at_any ?_; refine at_dst 3 rfl ?_; refine wpList_box_any rfl 30 (.tmp 1) rfl Vb rfl ?_; intro w2 hk2 hs2 hb2; have ka := Lib.hid (hk1.out.below hb2 hk1.out.lt); have bl := Lib.hid (hb1.trans (hb2.mono hb1.size)); have ca0 := (HA.out _ _ ka.out).1; have ca1 := (HA.out _ _ ka.out).2.1; have ca2 := (HA.out _ _ ka.out).2.2.1; have ca4 := (HA.out _ _ ka.out).2.2.2.1; have ca5 := (HA.out _ _ ka.out).2.2.2.2.1; have cb0 := (HB.out _ _ hk2.out).1; have cb1 := (HB.out _ _ hk2.out).2.1; have cb2 := (HB.out _ _ hk2.out).2.2.1; have cb4 := (HB.out _ _ hk2.out).2.2.2.1; have cb5 := (HB.out _ _ hk2.out).2.2.2.2.1; have xa := str_rd5 (c := c) (HRA.out.below bl.out); have xb := str_rd5 (c := d) (HRB.out.below bl.out))
      | (with_reducible refine at_any ?_; refine at_dst 28 rfl ?_; refine wpList_load_gdo (by kernel_rfl) 28 (.tmp 27) rfl w.heap.size 3 rfl .u8 a.seed (HA.out _ _ ka.out).2.2.2.2.2 _ Tryz.underlying28 rfl SA.out ?_)
      | (with_reducible refine at_any ?_; refine at_dst 30 rfl ?_; refine wpList_load_gdo (by kernel_rfl) 28 (.tmp 29) rfl w1.heap.size 3 rfl .u8 b.seed (HB.out _ _ hk2.out).2.2.2.2.2 _ Tryz.underlying28 rfl SB.out ?_))
    go_ret
    exact ⟨by rw [HR.out]; rfl, bl.out⟩
end Go.Proofs.YtomkidgmpbjgeaaGreatDoor
/-
  What walks over calls that draw by a table need of memory.
  Conditions: those that each theorem names.
-/
set_option maxRecDepth 100000
set_option linter.unusedVariables false
set_option linter.unusedSimpArgs false
namespace Go.Proofs.YtomkidgmpbjgeaaGreatDoor
open Go.ChangeShapes Go.WideShapes Go.ChangeAt Go.RowKit
theorem rd_nilP (w : World) (B : Nat) (k : IntKind) (A : Option Addr) : Rd k w B A 0 [] := ⟨rfl, fun h => absurd h (by omega)⟩
theorem run_build_tab0P (w : World) : (Instr.build 25 #[]).run Tryz.prog w = .ok (.agg #[.int .u64 0, .slice none 0 0]) w := by go_simp
theorem build_tab0P {a : Act} {o : Oper} (w : World) (ho : o.op = .build 25 #[]) : (execOp a.eval o).run Tryz.prog w = .ok (.value (.agg #[.int .u64 0, .slice none 0 0])) w := by
  unfold execOp
  simp only [ho, List.map_toArray, List.map_nil]
  change ((Instr.build 25 #[]) >>= fun v => pure (Next.value v)).run Tryz.prog w = _
  simp only [Sem.run_bind, run_build_tab0P, Result.andThen_ok, Sem.run_pure]
theorem tapeOf_okP (zs : List Int) (hl : zs.length ≤ 1000) (hz : ∀ z ∈ zs, 0 ≤ z ∧ z < 256) (b : Int) (b0 : 0 ≤ b) (b1 : b < 18446744073709551616) : (Src.tapeOf zs b).Ok :=
  ⟨(by show (-9223372036854775808 : Int) ≤ 1; omega), (by show (1 : Int) < 9223372036854775808; omega), (by show zs.length ≤ _; omega), hz, b0, b1, rfl, (fun z h => by obtain ⟨_, rfl⟩ := List.mem_replicate.1 h; exact ⟨by omega, by omega⟩), Int.le_refl _, (by show (0 : Int) < 18446744073709551616; omega), Int.le_refl _, (by show (0 : Int) < 18446744073709551616; omega)⟩
theorem led_uP {s : Src} {A : Option Addr} {r : Int × Src × Int} {x e : Int} {X : Src} (hx : r.1 = x) (hX : r.2.1 = X) (he : r.2.2 = e) {w w' : World} {en : Ending} (h : RetLead w s A r en w') :
    ∃ A' c', en = .returned (.tuple #[.int .i64 x, .agg (srcV X A' c'), .int .i64 e]) ∧ Rd .u8 w' w'.heap.size A' s.tape.length s.tape ∧ s.tape.length ≤ c' ∧ c' ≤ maxLen ∧ Sep w A A' ∧ Below w.heap.size w w' := by
  subst hx hX he
  exact h
end Go.Proofs.YtomkidgmpbjgeaaGreatDoor
/-
  What drawlotref09 returns: sums, differences and products below 2^63, or refused; whether two lists are the same.
  Conditions: the numbers lie in their type's range; the slices read as lists.
-/
set_option maxRecDepth 100000
set_option linter.unusedSimpArgs false
namespace Go.Proofs.YtomkidgmpbjgeaaGreatDoor
open Go.ChangeShapes Go.WideShapes Go.ChangeAt Go.RowKit
set_option linter.unusedVariables false
-- arith
theorem r9add_c (a b : Int) (a0 : 0 ≤ a) (a1 : a < 18446744073709551616) (b0 : 0 ≤ b) (b1 : b < 18446744073709551616) (w : World) : Calls Tryz.prog 38 #[.int .u64 a, .int .u64 b] w fun e w' => e = .returned (.tuple #[.int .u64 (addV a b), .bool (addO a b)]) ∧ w = w' := by
  by_cases h : a + b < 9223372036854775808
  · have HV := Lib.hid (addV_ok h)
    have h1 : ¬ 9223372036854775808 ≤ a := by omega
    have h2 : ¬ 9223372036854775808 - a ≤ b := by omega
    go_enter Tryz.func38, Tryz.ntmps38
    go_wp2
    go_ret2
    exact ⟨ret_pair (sym2 HV.out), rfl⟩
  · have HV := Lib.hid (addV_no h)
    by_cases h1 : 9223372036854775808 ≤ a
    · go_enter Tryz.func38, Tryz.ntmps38
      go_wp2
      go_ret2
      exact ⟨ret_pair (sym2 HV.out), rfl⟩
    · have h2 : 9223372036854775808 - a ≤ b := by omega
      go_enter Tryz.func38, Tryz.ntmps38
      go_wp2
      go_ret2
      exact ⟨ret_pair (sym2 HV.out), rfl⟩
theorem r9mul_c (a b : Int) (a0 : 0 ≤ a) (a1 : a < 18446744073709551616) (b0 : 0 ≤ b) (b1 : b < 18446744073709551616) (w : World) : Calls Tryz.prog 23 #[.int .u64 a, .int .u64 b] w fun e w' => e = .returned (.tuple #[.int .u64 (mulV a b), .bool (mulO a b)]) ∧ w = w' := by
  by_cases ha : a = 0
  · subst ha
    have HV := Lib.hid (mulV_ok (a := 0) (b := b) (by rw [Int.zero_mul]; omega))
    go_enter Tryz.func23, Tryz.ntmps23
    go_wp2
    go_ret2
    exact ⟨ret_pair (sym2 ⟨HV.out.1.trans (Int.zero_mul b), HV.out.2⟩), rfl⟩
  · have ta : (a == 0) = false := by rw [beq_eq_false_iff_ne]; exact ha
    by_cases hb : b = 0
    · subst hb
      have HV := Lib.hid (mulV_ok (a := a) (b := 0) (by rw [Int.mul_zero]; omega))
      go_enter Tryz.func23, Tryz.ntmps23
      go_wp2
      go_ret2
      exact ⟨ret_pair (sym2 ⟨HV.out.1.trans (Int.mul_zero a), HV.out.2⟩), rfl⟩
    · have tb : (b == 0) = false := by rw [beq_eq_false_iff_ne]; exact hb
      have hd := lt_div b a (by omega) a0
      have hq0 : 0 ≤ 9223372036854775807 / b := Int.ediv_nonneg (by omega) (by omega)
      have hq1 : 9223372036854775807 / b ≤ 9223372036854775807 := Int.ediv_le_self _ (by omega)
      have ht : (9223372036854775807 : Int).tdiv b = 9223372036854775807 / b := Int.tdiv_eq_ediv_of_nonneg (by omega)
      have hm0 := Int.mul_nonneg a0 b0
      obtain ⟨q, hq⟩ : ∃ q, 9223372036854775807 / b = q := ⟨_, rfl⟩
      obtain ⟨m, hm⟩ : ∃ m, a * b = m := ⟨_, rfl⟩
      rw [hq] at hd hq0 hq1 ht
      rw [hm] at hd hm0
      by_cases hs : m < 9223372036854775808
      · have HV := Lib.hid (mulV_ok (a := a) (b := b) (by rw [hm]; exact hs))
        rw [hm] at HV
        have hqa : ¬ q < a := fun h => hd.1 h hs
        clear hd hq
        go_enter Tryz.func23, Tryz.ntmps23
        go_wp2
        go_ret2
        exact ⟨ret_pair (sym2 HV.out), rfl⟩
      · have HV := Lib.hid (mulV_no (a := a) (b := b) (by rw [hm]; exact hs))
        have hqa : q < a := hd.2 hs
        clear hd hq hm
        go_enter Tryz.func23, Tryz.ntmps23
        go_wp2
        go_ret2
        exact ⟨ret_pair (sym2 HV.out), rfl⟩
-- arith end
set_option maxHeartbeats 2000000 in
theorem r9total_c (zs : List Int) (hz : ∀ z ∈ zs, 0 ≤ z ∧ z < 18446744073709551616) (A : Option Addr) (n c : Nat) (hn : n ≤ maxLen) (w : World) (hrd : Rd .u64 w w.heap.size A n zs) : Calls Tryz.prog 22 #[.slice A n c] w fun e w' => e = .returned (.tuple #[.int .u64 (sumV zs), .bool (sumO zs)]) ∧ w = w' := by
  have HR := Lib.hid hrd
  have HZ := Lib.hid hz
  have hlen := hrd.len
  have hnm : (n : Int) ≤ 9223372036854775807 := by unfold maxLen at hn; omega
  have hle := fun k => sumL_le (l := zs) (fun z h => (hz z h).1) k
  have hst := fun k h => sumL_take (l := zs) (k := k) h
  have htk : zs.take n = zs := by rw [← hlen, List.take_length]
  have HLE := Lib.hid hle
  have HST := Lib.hid hst
  clear hrd hz hn hle hst
  go_enter Tryz.func22, Tryz.ntmps22
  go_wp2
  go_loopw [4, 5] (fun s i wr => ∃ k : Nat, k ≤ n ∧ i = .int .i64 (k : Int) ∧ s = .int .u64 (sumL (zs.take k)) ∧ 0 ≤ sumL (zs.take k) ∧ sumL (zs.take k) < 9223372036854775808 ∧ wr = w) (fun _ i _ => n - (intOf i).toNat)
  case atStart => exact ⟨0, by omega, rfl, rfl, Int.le_refl _, (by show (0 : Int) < 9223372036854775808; omega), by first | rfl | trivial⟩
  case round =>
    obtain ⟨k, hk, rfl, rfl, h0, h1, rfl⟩ := hrel
    by_cases hlt : k < n
    · obtain ⟨b, off, rfl, _, hc⟩ := HR.out.at_ (by omega)
      have hck := hc k hlt
      have hzk := HZ.out _ (getD_in (l := zs) (k := k) (by omega))
      have hsk := HST.out k (by omega)
      have hl1 := HLE.out (k + 1)
      have HSK := Lib.hid hsk
      obtain ⟨z, hzz⟩ : ∃ z, zs.getD k 0 = z := ⟨_, rfl⟩
      obtain ⟨S, hS⟩ : ∃ S, sumL (zs.take k) = S := ⟨_, rfl⟩
      obtain ⟨S1, hS1⟩ : ∃ S, sumL (zs.take (k + 1)) = S := ⟨_, rfl⟩
      rw [hzz, hS] at HSK
      rw [hzz] at hck hzk hsk
      rw [hS] at h0 h1 hsk ⊢
      rw [hS1] at hl1 hsk
      have hadd := fun W => r9add_c S z h0 (by omega) hzk.1 hzk.2 W
      by_cases hs : S + z < 9223372036854775808
      · rw [(addV_ok hs).1, (addV_ok hs).2] at hadd
        have HADD := Lib.hid hadd
        clear hadd hc hzz hS hS1 hsk hl1
        go_wp2_with (first
          | (go_at_call 38; (with_reducible refine (HADD.out _).mono ?_); rintro e _ ⟨rfl, rfl⟩))
        go_roundw
        case rel => exact ⟨k + 1, by omega, by go_num, by rw [HSK.out], by rw [HSK.out]; omega, by rw [HSK.out]; exact hs, by first | rfl | trivial⟩
        case measure => simp [intOf]; omega
      · rw [(addV_no hs).1, (addV_no hs).2] at hadd
        have hno : ¬ sumL zs < 9223372036854775808 := by omega
        have HADD := Lib.hid hadd
        have HNO := Lib.hid (sumV_no hno)
        clear hadd hc hzz hS hS1 hsk hl1 hno
        go_wp2_with (first
          | (go_at_call 38; (with_reducible refine (HADD.out _).mono ?_); rintro e _ ⟨rfl, rfl⟩))
        go_ret2
        exact ⟨ret_pair (sym2 HNO.out), by first | rfl | trivial⟩
    · obtain rfl : k = n := by omega
      rw [htk] at h0 h1 ⊢
      have HOK := Lib.hid (sumV_ok h1)
      go_wp2
      go_ret2
      exact ⟨ret_pair (sym2 HOK.out), by first | rfl | trivial⟩
end Go.Proofs.YtomkidgmpbjgeaaGreatDoor
/-
  What drawlotref14's Build returns: the table of stakes, or why there is none; memory is left as it was.
  Conditions: the stakes lie in their type's range; there are at most 1000.
-/
set_option maxRecDepth 100000
set_option linter.unusedVariables false
set_option linter.unusedSimpArgs false
namespace Go.Proofs.YtomkidgmpbjgeaaGreatDoor
open Go.ChangeShapes Go.WideShapes Go.ChangeAt Go.RowKit
theorem zero_tab : ∀ W, (zeroValue 25).run Tryz.prog W = .ok (.agg #[.int .u64 0, .slice none 0 0]) W := (zero_of_info (n := 2) (by kernel_rfl)).1
theorem size_tabB (u v : Value) : (Tryz.prog.info? 25).map (·.size) = some (#[u, v] : Array Value).size := by kernel_rfl
theorem size_cellB (u v : Value) : (Tryz.prog.info? 58).map (·.size) = some (#[u, v] : Array Value).size := by kernel_rfl
theorem tab_ones (T : Int) (A : Option Addr) (n c : Nat) : (#[.int .u64 T, .slice A n c] : Array Value).all (·.oneCell') = true := by simp [Value.oneCell']
theorem cell_ones (x y : Int) : (#[.int .u64 x, .int .i64 y] : Array Value).all (·.oneCell') = true := by simp [Value.oneCell']
theorem size2T (u v u' v' : Value) : (#[u, v] : Array Value).size = (#[u', v'] : Array Value).size := rfl
theorem size_u64b : (Tryz.prog.info? 22).map (·.size) = some 1 := by kernel_rfl
theorem info_int : (Tryz.prog.info? 3).map (fun i => (i.zero, i.size, i.bytes)) = some (some (.int .i64 0), 1, 8) := by kernel_rfl
theorem info_u64t : (Tryz.prog.info? 22).map (fun i => (i.zero, i.size, i.bytes)) = some (some (.int .u64 0), 1, 8) := by kernel_rfl
theorem info_cell : (Tryz.prog.info? 58).map (fun i => (i.zero, i.size, i.bytes)) = some (some (.agg #[.int .u64 0, .int .i64 0]), 2, 16) := by kernel_rfl
theorem run_build_tab0 (w : World) : (Instr.build 25 #[]).run Tryz.prog w = .ok (.agg #[.int .u64 0, .slice none 0 0]) w := by go_simp
theorem build_tab0 {a : Act} {o : Oper} (w : World) (ho : o.op = .build 25 #[]) : (execOp a.eval o).run Tryz.prog w = .ok (.value (.agg #[.int .u64 0, .slice none 0 0])) w := by
  unfold execOp
  simp only [ho, List.map_toArray, List.map_nil]
  change ((Instr.build 25 #[]) >>= fun v => pure (Next.value v)).run Tryz.prog w = _
  simp only [Sem.run_bind, run_build_tab0, Result.andThen_ok, Sem.run_pure]
theorem run_make_u64 (n : Nat) (hn : n ≤ 100000) (w : World) : (Instr.makeSlice 37 (.int .i64 (n : Int)) (.int .i64 (n : Int))).run Tryz.prog w = .ok (.slice (some ⟨w.heap.size, 0, none⟩) n n) (w.alloc (.cells (intsA .u64 (List.replicate n 0)) 22)) := by
  obtain ⟨i, hi, hz, hs, hb⟩ := info_parts info_u64t
  have hr := run_make (P := Tryz.prog) w 37 22 i _ Tryz.underlying37 hi hz .i64 .i64 n n (by omega) (by omega) (by rw [hb]; omega) (by omega)
  simp only [Int.toNat_natCast, hs, Nat.mul_one] at hr
  rw [hr, show madeCells (Value.int .u64 0).cells n = intsA .u64 (List.replicate n 0) from ?_]
  have h1 := madeCells_same (.int .u64 0) 1 n (by omega)
  simpa [intsA, Value.cells] using h1
theorem made_cells (n : Nat) : madeCells #[Value.int .u64 0, Value.int .i64 0] (n * 2) = cellsA (List.replicate n (0, 0)) := by
  apply Array.ext_getElem?
  intro j
  by_cases hj : j < n * 2
  · have h0 : cellL (List.replicate n ((0 : Int), (0 : Int))) (j / 2) = (0, 0) := by have h7 : j / 2 < n := (by omega); simp [cellL, h7]
    have h := prC_get (List.replicate n ((0 : Int), (0 : Int))) (j / 2) (by rw [List.length_replicate]; omega)
    rw [h0] at h
    have hl : (madeCells #[Value.int .u64 0, Value.int .i64 0] (n * 2))[j]? = some (#[Value.int .u64 0, Value.int .i64 0][j % 2]!) := by
      unfold madeCells
      rw [Array.getElem?_map, Array.getElem?_range, if_pos hj]
      rfl
    rw [hl]
    rcases Nat.mod_two_eq_zero_or_one j with h2 | h2
    · rw [h2]
      have e : j / 2 * 2 = j := by omega
      rw [e] at h
      simpa [cellsA] using h.1.symm
    · rw [h2]
      have e : j / 2 * 2 + 1 = j := by omega
      rw [e] at h
      simpa [cellsA] using h.2.symm
  · rw [Array.getElem?_eq_none (by rw [size_madeCells]; omega), Array.getElem?_eq_none (by rw [cellsA_size, List.length_replicate]; omega)]
theorem run_make_cells (n : Nat) (hn : n ≤ 100000) (w : World) : (Instr.makeSlice 23 (.int .i64 (n : Int)) (.int .i64 (n : Int))).run Tryz.prog w = .ok (.slice (some ⟨w.heap.size, 0, none⟩) n n) (w.alloc (.cells (cellsA (List.replicate n (0, 0))) 58)) := by
  obtain ⟨i, hi, hz, hs, hb⟩ := info_parts info_cell
  have hr := run_make (P := Tryz.prog) w 23 58 i _ Tryz.underlying23 hi hz .i64 .i64 n n (by omega) (by omega) (by rw [hb]; omega) (by omega)
  simp only [Int.toNat_natCast, hs, Value.cells] at hr
  rw [hr, made_cells]
set_option maxHeartbeats 8000000 in
theorem r14build_c (l : List Int) (hz : ∀ z ∈ l, 0 ≤ z ∧ z < 18446744073709551616) (A : Option Addr) (n c : Nat) (hn : n ≤ 1000) (w : World) (hrd : Rd .u64 w w.heap.size A n l) : Calls Tryz.prog 13 #[.slice A n c] w (RetTab w (tbT l) (tbC l).length (tbC l) (tbE l)) := by
  obtain ⟨ti, hti, hz0, hz1, hzb⟩ := info_parts info_int
  have HR := Lib.hid hrd
  have hlen := hrd.len
  have HTO := Lib.hid (fun W h => r9total_c l hz A n c (by simp only [maxLen]; omega) W h)
  have HEMP : Hid (∀ er w', tbE l = er → er ≠ 0 → Below w.heap.size w w' → RetTab w (tbT l) (tbC l).length (tbC l) (tbE l) (.returned (.tuple #[.agg #[.int .u64 0, .slice none 0 0], .int .i64 er])) w') := Lib.hid (fun er w' h h0 hb => by
    obtain ⟨e1, e2⟩ := tb_no (l := l) (by rw [h]; exact h0)
    rw [e1, e2, h]
    exact ⟨none, 0, rfl, RdPr.nil _ _ _ _ _, Nat.le_refl _, by simp [maxLen], hb⟩)
  have hz' : ∀ z ∈ l, 0 ≤ z := fun z h => (hz z h).1
  have hs0 := sumL_nn hz'
  by_cases h0 : n = 0
  · subst h0
    have HE : Hid (tbE l = 10) := Lib.hid (by rw [List.eq_nil_of_length_eq_zero hlen]; rfl)
    clear hrd hz hlen hz' hs0
    go_enter Tryz.func13, Tryz.ntmps13
    go_wp2_with (first
      | (with_reducible refine at_any ?_; refine at_dst 2 rfl ?_; refine wpList_alloc_any rfl 25 rfl #[.int .u64 0, .slice none 0 0] zero_tab ?_; intro w1 hk1 hs1 hb1; have HB1 := Lib.hid hb1)
      | (with_reducible refine at_any ?_; refine at_dst 19 rfl ?_; refine wpList_val rfl (.agg #[.int .u64 0, .slice none 0 0]) (build_tab0 _ rfl) ?_)
      | (with_reducible refine at_any ?_; refine at_store 2 rfl ?_; refine wpList_store_any rfl 25 (.tmp 2) (.tmp 19) rfl w.heap.size rfl 25 #[.int .u64 0, .slice none 0 0] #[.int .u64 0, .slice none 0 0] hk1.out rfl (size2T _ _ _ _) (size_tabB _ _) (tab_ones _ _ _ _) ?_; intro w9 hk9 hs9 hb9 ho9; have HB9 := Lib.hid (HB1.out.trans (hb9 _ (Nat.le_refl _))))
      | (refine bodyPost_any2 2 3 25 rfl w.heap.size rfl (.int .i64 10) rfl 25 #[.int .u64 0, .slice none 0 0] hk9.out _ Tryz.underlying25 rfl (size_tabB _ _) rfl ?_))
    exact HEMP.out 10 _ HE.out (by decide) HB9.out
  by_cases h1 : sumL l < 9223372036854775808
  case neg =>
    obtain ⟨e1, e2⟩ := sumV_no h1
    have HE := Lib.hid (tbE_big (by omega) h1)
    rw [e1, e2] at HTO
    have n0 : 0 < n := by omega
    clear hrd hz hlen hz' hs0 h1 e1 e2
    go_enter Tryz.func13, Tryz.ntmps13
    go_wp2_with (first
      | (with_reducible refine at_any ?_; refine at_dst 2 rfl ?_; refine wpList_alloc_any rfl 25 rfl #[.int .u64 0, .slice none 0 0] zero_tab ?_; intro w1 hk1 hs1 hb1; have HB1 := Lib.hid hb1)
      | (go_at_call 22; (with_reducible refine (HTO.out _ ((HR.out.below HB1.out).mono HB1.out.size)).mono ?_); rintro e _ ⟨rfl, rfl⟩)
      | (with_reducible refine at_any ?_; refine at_dst 27 rfl ?_; refine wpList_val rfl (.agg #[.int .u64 0, .slice none 0 0]) (build_tab0 _ rfl) ?_)
      | (with_reducible refine at_any ?_; refine at_store 2 rfl ?_; refine wpList_store_any rfl 25 (.tmp 2) (.tmp 27) rfl w.heap.size rfl 25 #[.int .u64 0, .slice none 0 0] #[.int .u64 0, .slice none 0 0] hk1.out rfl (size2T _ _ _ _) (size_tabB _ _) (tab_ones _ _ _ _) ?_; intro w9 hk9 hs9 hb9 ho9; have HB9 := Lib.hid (HB1.out.trans (hb9 _ (Nat.le_refl _))))
      | (refine bodyPost_any2 2 3 25 rfl w.heap.size rfl (.int .i64 11) rfl 25 #[.int .u64 0, .slice none 0 0] hk9.out _ Tryz.underlying25 rfl (size_tabB _ _) rfl ?_))
    exact HEMP.out 11 _ HE.out (by decide) HB9.out
  obtain ⟨e1, e2⟩ := sumV_ok h1
  rw [e1, e2] at HTO
  by_cases h2 : sumL l = 0
  · have HE := Lib.hid (tbE_zero (by omega) h1 h2)
    rw [h2] at HTO
    have n0 : 0 < n := by omega
    clear hrd hz hlen hz' hs0 h1 e1 e2 h2
    go_enter Tryz.func13, Tryz.ntmps13
    go_wp2_with (first
      | (with_reducible refine at_any ?_; refine at_dst 2 rfl ?_; refine wpList_alloc_any rfl 25 rfl #[.int .u64 0, .slice none 0 0] zero_tab ?_; intro w1 hk1 hs1 hb1; have HB1 := Lib.hid hb1)
      | (go_at_call 22; (with_reducible refine (HTO.out _ ((HR.out.below HB1.out).mono HB1.out.size)).mono ?_); rintro e _ ⟨rfl, rfl⟩)
      | (with_reducible refine at_any ?_; refine at_dst 30 rfl ?_; refine wpList_val rfl (.agg #[.int .u64 0, .slice none 0 0]) (build_tab0 _ rfl) ?_)
      | (with_reducible refine at_any ?_; refine at_store 2 rfl ?_; refine wpList_store_any rfl 25 (.tmp 2) (.tmp 30) rfl w.heap.size rfl 25 #[.int .u64 0, .slice none 0 0] #[.int .u64 0, .slice none 0 0] hk1.out rfl (size2T _ _ _ _) (size_tabB _ _) (tab_ones _ _ _ _) ?_; intro w9 hk9 hs9 hb9 ho9; have HB9 := Lib.hid (HB1.out.trans (hb9 _ (Nat.le_refl _))))
      | (refine bodyPost_any2 2 3 25 rfl w.heap.size rfl (.int .i64 10) rfl 25 #[.int .u64 0, .slice none 0 0] hk9.out _ Tryz.underlying25 rfl (size_tabB _ _) rfl ?_))
    exact HEMP.out 10 _ HE.out (by decide) HB9.out
  have HM := Lib.hid (fun W => r9mul_c (n : Int) (sumL l) (by omega) (by omega) hs0 (by omega) W)
  have tT : (sumL l == 0) = false := by rw [beq_eq_false_iff_ne]; exact h2
  by_cases h3 : (n : Int) * sumL l < 9223372036854775808
  case neg =>
    obtain ⟨e3, e4⟩ := mulV_no h3
    rw [e3, e4] at HM
    have HE := Lib.hid (tbE_mul (by omega) h1 h2 (by rw [hlen]; exact h3))
    have n0 : 0 < n := by omega
    obtain ⟨T, hT⟩ : ∃ T, sumL l = T := ⟨_, rfl⟩
    rw [hT] at HTO HM hs0 h1 tT
    clear hrd hz hlen hz' e1 e2 e3 e4 h2 h3 hT
    go_enter Tryz.func13, Tryz.ntmps13
    go_wp2_with (first
      | (with_reducible refine at_any ?_; refine at_dst 2 rfl ?_; refine wpList_alloc_any rfl 25 rfl #[.int .u64 0, .slice none 0 0] zero_tab ?_; intro w1 hk1 hs1 hb1; have HB1 := Lib.hid hb1)
      | (go_at_call 22; (with_reducible refine (HTO.out _ ((HR.out.below HB1.out).mono HB1.out.size)).mono ?_); rintro e _ ⟨rfl, rfl⟩)
      | (go_at_call 23; (with_reducible refine (HM.out _).mono ?_); rintro e _ ⟨rfl, rfl⟩)
      | (with_reducible refine at_any ?_; refine at_dst 42 rfl ?_; refine wpList_val rfl (.agg #[.int .u64 0, .slice none 0 0]) (build_tab0 _ rfl) ?_)
      | (with_reducible refine at_any ?_; refine at_store 2 rfl ?_; refine wpList_store_any rfl 25 (.tmp 2) (.tmp 42) rfl w.heap.size rfl 25 #[.int .u64 0, .slice none 0 0] #[.int .u64 0, .slice none 0 0] hk1.out rfl (size2T _ _ _ _) (size_tabB _ _) (tab_ones _ _ _ _) ?_; intro w9 hk9 hs9 hb9 ho9; have HB9 := Lib.hid (HB1.out.trans (hb9 _ (Nat.le_refl _))))
      | (refine bodyPost_any2 2 3 25 rfl w.heap.size rfl (.int .i64 11) rfl 25 #[.int .u64 0, .slice none 0 0] hk9.out _ Tryz.underlying25 rfl (size_tabB _ _) rfl ?_))
    exact HEMP.out 11 _ HE.out (by decide) HB9.out
  · obtain ⟨e3, e4⟩ := mulV_ok h3
    rw [e3, e4] at HM
    have HOK := tbE_ok (l := l) (by omega) h1 h2 (by rw [hlen]; exact h3)
    obtain ⟨E1, EI, E2, EF⟩ := tb_abi hz' HOK
    have hI := ABI.init hz' (by omega) (by rw [hlen]; exact h3)
    have n0 : 0 < n := by omega
    have HZ : Hid (∀ k, k < n → 0 ≤ l.getD k 0 ∧ l.getD k 0 < 18446744073709551616 ∧ 0 ≤ (n : Int) * l.getD k 0 ∧ (n : Int) * l.getD k 0 < 9223372036854775808) := Lib.hid (fun k hk => by
      have g1 := getD_le hz' (i := k) (by omega)
      have g2 := mul_le_of (n := (n : Int)) (by omega) g1.2
      have g3 := Int.mul_nonneg (show (0 : Int) ≤ (n : Int) by omega) g1.1
      exact ⟨g1.1, by omega, g3, by omega⟩)
    obtain ⟨T, hT⟩ : ∃ T, sumL l = T := ⟨_, rfl⟩
    rw [hT] at HTO HM hs0 h1 tT h2 EI E1 E2 EF h3 hI
    have HNEXT : Hid (∀ k, k < n → (((n : Int) * l.getD k 0 < T → ∀ v v' W, BldS w w.heap.size (w.heap.size + 1) (w.heap.size + 1 + 1) ((fillT (hasL l) 0 k).set k ((n : Int) * l.getD k 0)) ((fillT (cellsL T n) (0, 0) k).set k (T, (k : Int))) v v' (smL T (hasL l) k ++ [(k : Int)]) (lgL T (hasL l) k) W → BldS w w.heap.size (w.heap.size + 1) (w.heap.size + 1 + 1) (fillT (hasL l) 0 (k + 1)) (fillT (cellsL T n) (0, 0) (k + 1)) v v' (smL T (hasL l) (k + 1)) (lgL T (hasL l) (k + 1)) W) ∧ (¬ (n : Int) * l.getD k 0 < T → ∀ v v' W, BldS w w.heap.size (w.heap.size + 1) (w.heap.size + 1 + 1) ((fillT (hasL l) 0 k).set k ((n : Int) * l.getD k 0)) ((fillT (cellsL T n) (0, 0) k).set k (T, (k : Int))) v v' (smL T (hasL l) k) (lgL T (hasL l) k ++ [(k : Int)]) W → BldS w w.heap.size (w.heap.size + 1) (w.heap.size + 1 + 1) (fillT (hasL l) 0 (k + 1)) (fillT (cellsL T n) (0, 0) (k + 1)) v v' (smL T (hasL l) (k + 1)) (lgL T (hasL l) (k + 1)) W))) := Lib.hid (fun k hk => by
      have q1 : (fillT (hasL l) 0 k).set k ((n : Int) * l.getD k 0) = fillT (hasL l) 0 (k + 1) := by
        have := fill_next (hasL l) 0 k (by rw [hasL_len]; omega)
        rw [← this]
        congr 1
        have h9 := hasL_at (l := l) (i := k) (by omega)
        rw [hlen] at h9
        rw [← h9, List.getD_eq_getElem?_getD, List.getElem?_eq_getElem (by rw [hasL_len]; omega)]
        rfl
      have q2 : (fillT (cellsL T n) (0, 0) k).set k (T, (k : Int)) = fillT (cellsL T n) (0, 0) (k + 1) := by
        have := fill_next (cellsL T n) (0, 0) k (by rw [cells_len]; omega)
        rw [← this]
        congr 1
        simp [cellsL]
      have h9 := hasL_at (l := l) (i := k) (by omega)
      rw [hlen] at h9
      rw [q1, q2, smL_succ, lgL_succ, h9]
      exact ⟨fun h => by rw [if_pos h, if_pos h]; exact fun _ _ _ h => h, fun h => by rw [if_neg h, if_neg h]; exact fun _ _ _ h => h⟩)
    have HMU := Lib.hid (run_make_u64 n (by omega))
    have HMC := Lib.hid (run_make_cells n (by omega))
    have hmu := HMU.out
    have hmc := HMC.out
    have i2 : (n : Int) ≤ 1000 := by omega
    have i3 : (0 : Int) < (n : Int) := by omega
    have HEI := Lib.hid EI
    have HE1 := Lib.hid E1
    have HE2 := Lib.hid E2
    have HEF := Lib.hid EF
    have HII := Lib.hid hI
    have HOK2 := Lib.hid HOK
    clear hrd hz hz' e1 e2 e3 e4 hT EI E1 E2 EF hI HOK HEMP
    obtain ⟨m, hm⟩ : ∃ m, (n : Int) * T = m := ⟨_, rfl⟩
    rw [hm] at HM h3
    have HM3 := Lib.hid hm
    clear hm
    go_enter Tryz.func13, Tryz.ntmps13
    go_wp2_with (first
      | (with_reducible refine at_any ?_; refine at_dst 2 rfl ?_; refine wpList_alloc_any rfl 25 rfl #[.int .u64 0, .slice none 0 0] zero_tab ?_; intro w1 hk1 hs1 hb1; have HB1 := Lib.hid hb1)
      | (go_at_call 22; (with_reducible refine (HTO.out _ ((HR.out.below HB1.out).mono HB1.out.size)).mono ?_); rintro e _ ⟨rfl, rfl⟩)
      | (go_at_call 23; (with_reducible refine (HM.out _).mono ?_); rintro e _ ⟨rfl, rfl⟩))
    have HST : Hid (BldS w w.heap.size (w.heap.size + 1) (w.heap.size + 1 + 1) (fillT (hasL l) 0 0) (fillT (cellsL T n) (0, 0) 0) (.slice none 0 0) (.slice none 0 0) (smL T (hasL l) 0) (lgL T (hasL l) 0) ((w1.alloc (.cells (intsA .u64 (List.replicate n 0)) 22)).alloc (.cells (cellsA (List.replicate n (0, 0))) 58))) := Lib.hid (by
      have z1 : (w1.alloc (.cells (intsA .u64 (List.replicate n 0)) 22)).heap.size = w.heap.size + 1 + 1 := by rw [← hs1.out]; exact Array.size_push _
      have k1 := Blk.new w1 22 (intsA .u64 (List.replicate n 0))
      have k2 := Blk.new (w1.alloc (.cells (intsA .u64 (List.replicate n 0)) 22)) 58 (cellsA (List.replicate n (0, 0)))
      have b1 := (Below.refl w1.heap.size w1).alloc (Nat.le_refl _) (.cells (intsA .u64 (List.replicate n 0)) 22)
      have b2 := (Below.refl (w1.alloc (.cells (intsA .u64 (List.replicate n 0)) 22)).heap.size (w1.alloc (.cells (intsA .u64 (List.replicate n 0)) 22))).alloc (Nat.le_refl _) (.cells (cellsA (List.replicate n (0, 0))) 58)
      rw [fill_zero, fill_zero, hasL_len, cells_len, hlen]
      rw [hs1.out] at k1
      rw [z1] at k2
      refine ⟨(hk1.out.below b1 hk1.out.lt).below b2 ?_, k1.below b2 k1.lt, k2, own_nil _ _ _, own_nil _ _ _, fun g e => (by simp [Value.ownBlock] at e), HB1.out.trans ((b1.trans (b2.mono b1.size)).mono HB1.out.size), Nat.le_refl _, by omega, by omega⟩
      exact Nat.lt_of_lt_of_le hk1.out.lt b1.size)
    obtain ⟨g2, hg2⟩ : ∃ g, w.heap.size = g := ⟨_, rfl⟩
    obtain ⟨gH, hgH⟩ : ∃ g, w.heap.size + 1 = g := ⟨_, rfl⟩
    have HG2 := Lib.hid hg2
    rw [hs1.out]
    rw [hgH] at HST HNEXT ⊢
    rw [hg2] at HST HNEXT ⊢
    clear hg2 hgH hk1 hs1 hb1 HB1 hmu hmc
    go_loopw [11, 12, 13] (fun vS vL iv wr => ∃ k : Nat, k ≤ n ∧ iv = .int .i64 (k : Int) ∧ BldS w g2 gH (gH + 1) (fillT (hasL l) 0 k) (fillT (cellsL T n) (0, 0) k) vS vL (smL T (hasL l) k) (lgL T (hasL l) k) wr) (fun _ _ iv _ => n - (intOf iv).toNat)
    case atStart => exact ⟨0, by omega, rfl, HST.out⟩
    case round =>
      obtain ⟨k, hk, rfl, hB⟩ := hrel
      have B1 := Lib.hid hB
      by_cases hlt : k < n
      · obtain ⟨b, off, rfl, _, hcc⟩ := (hB.rd HR.out).at_ (by omega)
        have hck := hcc k hlt
        have hx := HZ.out k hlt
        have HTL : Hid ((fillT (cellsL T n) (0, 0) k).length = n) := Lib.hid (by rw [fill_len _ _ _ (by rw [cells_len]; omega), cells_len])
        have HHL : Hid ((fillT (hasL l) 0 k).length = n) := Lib.hid (by rw [fill_len _ _ _ (by rw [hasL_len]; omega), hasL_len, hlen])
        have HSN : Hid ((smL T (hasL l) k).length ≤ 1000) := Lib.hid (by have := sl_len T (hasL l) k; omega)
        have HLN : Hid ((lgL T (hasL l) k).length ≤ 1000) := Lib.hid (by have := sl_len T (hasL l) k; omega)
        have HNX := Lib.hid (HNEXT.out k hlt)
        obtain ⟨x, hxx⟩ : ∃ x, l.getD k 0 = x := ⟨_, rfl⟩
        rw [hxx] at hck hx HNX
        obtain ⟨p, hp⟩ : ∃ p, (n : Int) * x = p := ⟨_, rfl⟩
        rw [hp] at hx HNX
        obtain ⟨x0, x1, p0, p1⟩ := hx
        obtain ⟨H, hH⟩ : ∃ p, fillT (hasL l) 0 k = p := ⟨_, rfl⟩
        obtain ⟨C, hC⟩ : ∃ p, fillT (cellsL T n) (0, 0) k = p := ⟨_, rfl⟩
        rw [hH] at B1 HHL HNX
        rw [hC] at B1 HTL HNX
        have i0 : (0 : Int) ≤ (k : Int) := by omega
        have i1 : (k : Int) < (n : Int) := by omega
        have hw : IntKind.u64.wrap ((n : Int) * x) = p := by rw [hp, IntKind.wrap_u64]; omega
        clear hcc hB hxx hp hH hC
        by_cases hpt : p < T
        · have HNY := Lib.hid (fun v v' W h => HNX.out.1 hpt v v' W h)
          clear HNX
          go_wp2_with (first
            | (with_reducible refine at_any ?_; refine at_store 63 rfl ?_; refine wpList_store_cell rfl 22 (.tmp 63) (.tmp 62) rfl gH k rfl 22 (intsA .u64 H) B1.out.bH (.int .u64 p) rfl (by have := HHL.out; rw [intsA_size, this]; exact hlt) size_u64b rfl rfl ?_; intro w2 hk2 ho2; have B2 := Lib.hid (B1.out.putH hk2.out ho2))
            | (with_reducible refine at_any ?_; refine at_store 69 rfl ?_; refine wpList_store_mid rfl 58 (.tmp 69) (.tmp 68) rfl (gH + 1) (k * 2) rfl 58 (cellsA C) #[.int .u64 T, .int .i64 (k : Int)] B2.out.bC rfl (by have := HTL.out; rw [cellsA_size, this]; simp; omega) (size_cellB _ _) (cell_ones _ _) ?_; intro w3 hk3 ho3; have B3 := Lib.hid (B2.out.putC hk3.out ho3); have hkk := B3.out.atH (k := k) (by have := HHL.out; rw [List.length_set, this]; exact hlt); rw [getD_setT (by have := HHL.out; rw [this]; exact hlt), if_pos rfl] at hkk)
            | (at_builtin; refine wpList_append_ints _ rfl (.tmp 76) (.tmp 78) 56 rfl w.heap.size 3 ti _ 8 .i64 Tryz.underlying56 hti hz0 hz1 hzb rfl _ (smL T (hasL l) k) rfl (B3.out.alloc _).oS (w3.heap.size + 1) (some ⟨w3.heap.size, 0, none⟩) 1 1 [(k : Int)] rfl (rd_one w3 3 .i64 (k : Int)) (by have := HSN.out; simp only [maxLen]; omega) (by have := HSN.out; omega) (B3.out.alloc _).size ?_; intro v4 w4 ho4 hg4 hat4; have B4 := Lib.hid ((B3.out.alloc _).growS hg4 ho4 hat4)))
          go_roundw
          case rel => exact ⟨k + 1, by omega, by go_num, HNY.out _ _ _ B4.out⟩
          case measure => simp [intOf]; omega
        · have HNY := Lib.hid (fun v v' W h => HNX.out.2 (Int.not_lt.1 hpt) v v' W h)
          clear HNX
          go_wp2_with (first
            | (with_reducible refine at_any ?_; refine at_store 63 rfl ?_; refine wpList_store_cell rfl 22 (.tmp 63) (.tmp 62) rfl gH k rfl 22 (intsA .u64 H) B1.out.bH (.int .u64 p) rfl (by have := HHL.out; rw [intsA_size, this]; exact hlt) size_u64b rfl rfl ?_; intro w2 hk2 ho2; have B2 := Lib.hid (B1.out.putH hk2.out ho2))
            | (with_reducible refine at_any ?_; refine at_store 69 rfl ?_; refine wpList_store_mid rfl 58 (.tmp 69) (.tmp 68) rfl (gH + 1) (k * 2) rfl 58 (cellsA C) #[.int .u64 T, .int .i64 (k : Int)] B2.out.bC rfl (by have := HTL.out; rw [cellsA_size, this]; simp; omega) (size_cellB _ _) (cell_ones _ _) ?_; intro w3 hk3 ho3; have B3 := Lib.hid (B2.out.putC hk3.out ho3); have hkk := B3.out.atH (k := k) (by have := HHL.out; rw [List.length_set, this]; exact hlt); rw [getD_setT (by have := HHL.out; rw [this]; exact hlt), if_pos rfl] at hkk)
            | (at_builtin; refine wpList_append_ints _ rfl (.tmp 80) (.tmp 82) 56 rfl w.heap.size 3 ti _ 8 .i64 Tryz.underlying56 hti hz0 hz1 hzb rfl _ (lgL T (hasL l) k) rfl (B3.out.alloc _).oL (w3.heap.size + 1) (some ⟨w3.heap.size, 0, none⟩) 1 1 [(k : Int)] rfl (rd_one w3 3 .i64 (k : Int)) (by have := HLN.out; simp only [maxLen]; omega) (by have := HLN.out; omega) (B3.out.alloc _).size ?_; intro v4 w4 ho4 hg4 hat4; have B4 := Lib.hid ((B3.out.alloc _).growL hg4 ho4 hat4)))
          go_roundw
          case rel => exact ⟨k + 1, by omega, by go_num, HNY.out _ _ _ B4.out⟩
          case measure => simp [intOf]; omega
      · obtain rfl : k = n := by omega
        have HI0 : Hid (BldS w g2 gH (gH + 1) (abInit T l).has (abInit T l).ts u11 u12 (abInit T l).sm (abInit T l).lg wr) := Lib.hid (by
          have h1 := fill_all (hasL l) 0
          have h2 := fill_all (cellsL T k) (0, 0)
          rw [hasL_len, hlen] at h1
          rw [cells_len] at h2
          rw [h1, h2] at hB
          unfold abInit
          rw [hlen]
          exact hB)
        clear hB B1 HNEXT HST
        go_wp2
        go_loopw [11, 12] (fun vS vL wr => ∃ (f : Nat) (s : AB), abRun T f s = abRun T l.length (abInit T l) ∧ s.sm.length + s.lg.length ≤ f ∧ ABI T l s ∧ BldS w g2 gH (gH + 1) s.has s.ts vS vL s.sm s.lg wr) (fun vS vL _ => lenV vS + lenV vL)
        case atStart => exact ⟨l.length, abInit T l, rfl, Nat.le_of_eq (sl_len T (hasL l) l.length), HII.out, HI0.out⟩
        case round =>
          clear HI0
          obtain ⟨f, s, hrun, hf, hI, hB⟩ := hrel
          by_cases hgo : s.sm.length ≠ 0 ∧ s.lg.length ≠ 0
          · obtain ⟨ia, ib, ha, hb, a1, b1, x0, x1, y0, y1, q1, q2, q3, q4⟩ := hI.tops hgo.1 hgo.2
            have hIN := hI.step hgo.1 hgo.2
            have hln := abStep_len (T := T) hgo.1 hgo.2
            obtain ⟨gS, cS, rfl, hcS, hmS, e1⟩ := hB.oS.last hgo.1
            obtain ⟨gL, cL, rfl, hcL, hmL, e2⟩ := hB.oL.last hgo.2
            rw [ha] at e1
            rw [hb] at e2
            obtain ⟨p, hp⟩ : ∃ p, s.sm.length = p + 1 := ⟨s.sm.length - 1, by omega⟩
            obtain ⟨q, hq⟩ : ∃ p, s.lg.length = p + 1 := ⟨s.lg.length - 1, by omega⟩
            rw [hp] at hcS e1 q3 hB hf hln ⊢
            rw [hq] at hcL e2 q4 hB hf hln ⊢
            rw [Nat.add_sub_cancel] at e1 e2 q3 q4
            have hB2 := (hB.cutS (j := p) (by omega)).cutL (j := q) (by omega)
            obtain ⟨f', rfl⟩ : ∃ f', f = f' + 1 := ⟨f - 1, by omega⟩
            rw [abRun_go hgo.1 hgo.2] at hrun
            have HRUN := Lib.hid hrun
            have HIN := Lib.hid hIN
            have HLN2 : Hid ((abStep T s).sm.length + (abStep T s).lg.length ≤ f') := Lib.hid (by omega)
            have c1 := hB.atH (k := ia) (by rw [hI.hn]; exact a1)
            have HHL : Hid (s.has.length = k) := Lib.hid (by rw [hI.hn, hlen])
            have HTL : Hid (s.ts.length = k) := Lib.hid (by rw [hI.tn, hlen])
            obtain ⟨H, hH⟩ : ∃ H, s.has = H := ⟨_, rfl⟩
            obtain ⟨C, hC⟩ : ∃ H, s.ts = H := ⟨_, rfl⟩
            obtain ⟨x, hx⟩ : ∃ x, H.getD ia 0 = x := ⟨_, rfl⟩
            obtain ⟨y, hy⟩ : ∃ x, H.getD ib 0 = x := ⟨_, rfl⟩
            rw [hH] at HHL x0 x1 y0 y1 q1 q2 q3 q4 c1 hB2
            rw [hC] at HTL q2 hB2
            rw [hx] at x0 x1 q1 q2 q3 q4 c1
            rw [hy] at y0 y1 q1 q3 q4
            obtain ⟨z, hz⟩ : ∃ z, y - (T - x) = z := ⟨_, rfl⟩
            rw [hz] at q1 q3 q4
            have HNXT : Hid ((z < T → ∀ v v' W, BldS w g2 gH (gH + 1) (H.set ib z) (C.set ia (x, (ib : Int))) v v' (s.sm.take p ++ [(ib : Int)]) (s.lg.take q) W → BldS w g2 gH (gH + 1) (abStep T s).has (abStep T s).ts v v' (abStep T s).sm (abStep T s).lg W) ∧ (¬ z < T → ∀ v v' W, BldS w g2 gH (gH + 1) (H.set ib z) (C.set ia (x, (ib : Int))) v v' (s.sm.take p) (s.lg.take q ++ [(ib : Int)]) W → BldS w g2 gH (gH + 1) (abStep T s).has (abStep T s).ts v v' (abStep T s).sm (abStep T s).lg W)) := Lib.hid (by
              rw [q1, q2, q3, q4]
              exact ⟨fun h => by rw [if_pos h, if_pos h]; exact fun _ _ _ h => h, fun h => by rw [if_neg h, if_neg h]; exact fun _ _ _ h => h⟩)
            have HSN : Hid ((s.sm.take p).length ≤ 1000) := Lib.hid (by have := hI.nd_len; rw [List.length_take]; omega)
            have HLN : Hid ((s.lg.take q).length ≤ 1000) := Lib.hid (by have := hI.nd_len; rw [List.length_take]; omega)
            have HAN := Lib.hid (show ia < k by omega)
            have HBN := Lib.hid (show ib < k by omega)
            have HVS : Hid ((s.sm.take p).length = p) := Lib.hid (by rw [List.length_take]; omega)
            have HVL : Hid ((s.lg.take q).length = q) := Lib.hid (by rw [List.length_take]; omega)
            have HB2 := Lib.hid (fun M => hB2.drewN M)
            have i4 : (p : Int) < 1000 := by have := HSN.out; have := HVS.out; have := hI.nd_len; omega
            have i5 : (q : Int) < 1000 := by have := hI.nd_len; omega
            have i6 : (ia : Int) < (k : Int) := by omega
            have i7 : (ib : Int) < (k : Int) := by omega
            have z0 : 0 ≤ z := by omega
            have z1 : z < 9223372036854775808 := by omega
            have w1 : IntKind.u64.wrap (T - x) = T - x := by rw [IntKind.wrap_u64]; omega
            have w2 : IntKind.u64.wrap (y - (T - x)) = z := by rw [hz, IntKind.wrap_u64]; omega
            have W1 := Lib.hid w1
            have W2 := Lib.hid w2
            have HYH := Lib.hid hy
            have HXH := Lib.hid hx
            clear hp hq hH hC hx hy hz ha hb hI hIN hrun hf hln q1 q2 q3 q4 hB hB2 hgo a1 b1 w1 w2
            go_wp2
            go_quiet (fail)
            go_wp2
            go_quiet (fail)
            go_wp2_with (first
              | (with_reducible refine at_any ?_; refine at_store 122 rfl ?_; refine wpList_store_mid rfl 58 (.tmp 122) (.tmp 121) rfl (gH + 1) (ia * 2) rfl 58 (cellsA C) #[.int .u64 x, .int .i64 (ib : Int)] (HB2.out _).bC rfl (by have := HTL.out; rw [cellsA_size, this]; simp; omega) (size_cellB _ _) (cell_ones _ _) ?_; intro w3 hk3 ho3; have B3 := Lib.hid ((HB2.out _).putC hk3.out ho3)))
            have HB3 := B3.out.drew
            refine wp_region_held_drew (S := (fun _ => True)) (by kernel_rfl) trivial (fun hH => ?_)
            refine wpAnyH_letter #[false, false, false, false, false, false, false, false, false, false, false, false, false, false, false] (by kernel_rfl) (fun _ _ d _ _ h => by cases d <;> exact h) (fun QL HQ1 HQ2 => ?_)
            refine held_v 0 (some 123) rfl (by kernel_rfl) (by kernel_rfl) (by kernel_rfl) (by kernel_rfl) (fun c a v w h => HQ2.out c a _ v w h) (by kernel_rfl) (.slice (some ⟨gH, 0, none⟩) k k) (fun W h => by kernel_rfl) trivial ?_
            try simp only [Act.put, List.setIfInBounds_toArray, List.set_cons_zero, List.set_cons_succ]
            refine held_v 1 (some 124) rfl (by kernel_rfl) (by kernel_rfl) (by kernel_rfl) (by kernel_rfl) (fun c a v w h => HQ2.out c a _ v w h) (by kernel_rfl) (.int .i64 (ib : Int)) (fun W h => by kernel_rfl) trivial ?_
            try simp only [Act.put, List.setIfInBounds_toArray, List.set_cons_zero, List.set_cons_succ]
            refine held_v 2 (some 125) rfl (by kernel_rfl) (by kernel_rfl) (by kernel_rfl) (by kernel_rfl) (fun c a v w h => HQ2.out c a _ v w h) (by kernel_rfl) (.slice (some ⟨gH, 0, none⟩) k k) (fun W h => by kernel_rfl) trivial ?_
            try simp only [Act.put, List.setIfInBounds_toArray, List.set_cons_zero, List.set_cons_succ]
            refine held_v 3 (some 126) rfl (by kernel_rfl) (by kernel_rfl) (by kernel_rfl) (by kernel_rfl) (fun c a v w h => HQ2.out c a _ v w h) (by kernel_rfl) (.int .i64 (ib : Int)) (fun W h => by kernel_rfl) trivial ?_
            try simp only [Act.put, List.setIfInBounds_toArray, List.set_cons_zero, List.set_cons_succ]
            refine held_v 4 (some 127) rfl (by kernel_rfl) (by kernel_rfl) (by kernel_rfl) (by kernel_rfl) (fun c a v w h => HQ2.out c a _ v w h) (by kernel_rfl) (.pointer (some ⟨gH, ib, none⟩)) (fun W h => by go_simp) trivial ?_
            try simp only [Act.put, List.setIfInBounds_toArray, List.set_cons_zero, List.set_cons_succ]
            refine held_v 6 (some 129) rfl (by kernel_rfl) (by kernel_rfl) (by kernel_rfl) (by kernel_rfl) (fun c a v w h => HQ2.out c a _ v w h) (by kernel_rfl) (.int .u64 T) (fun W h => by kernel_rfl) trivial ?_
            try simp only [Act.put, List.setIfInBounds_toArray, List.set_cons_zero, List.set_cons_succ]
            refine held_v 7 (some 130) rfl (by kernel_rfl) (by kernel_rfl) (by kernel_rfl) (by kernel_rfl) (fun c a v w h => HQ2.out c a _ v w h) (by kernel_rfl) (.slice (some ⟨gH, 0, none⟩) k k) (fun W h => by kernel_rfl) trivial ?_
            try simp only [Act.put, List.setIfInBounds_toArray, List.set_cons_zero, List.set_cons_succ]
            refine held_v 8 (some 131) rfl (by kernel_rfl) (by kernel_rfl) (by kernel_rfl) (by kernel_rfl) (fun c a v w h => HQ2.out c a _ v w h) (by kernel_rfl) (.int .i64 (ia : Int)) (fun W h => by kernel_rfl) trivial ?_
            try simp only [Act.put, List.setIfInBounds_toArray, List.set_cons_zero, List.set_cons_succ]
            refine held_v 9 (some 132) rfl (by kernel_rfl) (by kernel_rfl) (by kernel_rfl) (by kernel_rfl) (fun c a v w h => HQ2.out c a _ v w h) (by kernel_rfl) (.pointer (some ⟨gH, ia, none⟩)) (fun W h => by go_simp) trivial ?_
            try simp only [Act.put, List.setIfInBounds_toArray, List.set_cons_zero, List.set_cons_succ]
            refine wpAnyH_ready (rs := [5, 10]) (by kernel_rfl) (by decide) ?_
            refine AllReadyH.cons rfl (fun K hK => ?_) (AllReadyH.cons rfl (fun K hK => ?_) AllReadyH.nil)
            · refine step_v (some 128) (by kernel_rfl) (by kernel_rfl) (.int .u64 y) (by have p := (HB3).atH (k := ib) (by rw [HHL.out]; exact HBN.out); rw [HYH.out] at p; go_simp) ?_
              refine hK.out _ _ trivial (fun _ => ?_)
              clear hK K
              try simp only [Act.put, List.setIfInBounds_toArray, List.set_cons_zero, List.set_cons_succ]
              refine wpAnyH_ready (rs := [10]) (by kernel_rfl) (by decide) ?_
              refine AllReadyH.cons rfl (fun K hK => ?_) AllReadyH.nil
              refine step_v (some 133) (by kernel_rfl) (by kernel_rfl) (.int .u64 x) (by have p := (HB3).atH (k := ia) (by rw [HHL.out]; exact HAN.out); rw [HXH.out] at p; go_simp) ?_
              refine hK.out _ _ trivial (fun _ => ?_)
              clear hK K
              try simp only [Act.put, List.setIfInBounds_toArray, List.set_cons_zero, List.set_cons_succ]
              refine held_v 11 (some 134) rfl (by kernel_rfl) (by kernel_rfl) (by kernel_rfl) (by kernel_rfl) (fun c a v w h => HQ2.out c a _ v w h) (by kernel_rfl) (.int .u64 (T - x)) (fun W h => by have p := W1.out; go_simp) trivial ?_
              try simp only [Act.put, List.setIfInBounds_toArray, List.set_cons_zero, List.set_cons_succ]
              refine held_v 12 (some 135) rfl (by kernel_rfl) (by kernel_rfl) (by kernel_rfl) (by kernel_rfl) (fun c a v w h => HQ2.out c a _ v w h) (by kernel_rfl) (.int .u64 z) (fun W h => by have p := W2.out; go_simp) trivial ?_
              try simp only [Act.put, List.setIfInBounds_toArray, List.set_cons_zero, List.set_cons_succ]
              refine held_v 13 (some 136) rfl (by kernel_rfl) (by kernel_rfl) (by kernel_rfl) (by kernel_rfl) (fun c a v w h => HQ2.out c a _ v w h) (by kernel_rfl) (.pointer (some ⟨gH, ib, none⟩)) (fun W h => by go_simp) trivial ?_
              try simp only [Act.put, List.setIfInBounds_toArray, List.set_cons_zero, List.set_cons_succ]
              refine wpAnyH_ready (rs := [14]) (by kernel_rfl) (by decide) ?_
              refine AllReadyH.cons rfl (fun K hK => ?_) AllReadyH.nil
              refine step_store_cell none (by kernel_rfl) (by kernel_rfl) 22 (.tmp 136) (.tmp 135) rfl gH ib (by kernel_rfl) 22 _ HB3.bH (.int .u64 z) (by kernel_rfl) (by have := HHL.out; rw [intsA_size, this]; exact HBN.out) size_u64b rfl rfl ?_
              intro w43 hkw43 how43
              have trw43 := HB3.putH hkw43.out how43
              refine hK.out _ _ trivial (fun _ => ?_)
              clear hK K
              try simp only [Act.put, List.setIfInBounds_toArray, List.set_cons_zero, List.set_cons_succ]
              refine wpAnyH_done (by kernel_rfl) ?_ _
              refine HQ1.out _ _ ?_
              clear HQ1 HQ2
              have B5 := Lib.hid trw43
              have c5 := (trw43).atH (k := ib) (by rw [List.length_set, HHL.out]; exact HBN.out)
              rw [getD_setT (by rw [HHL.out]; exact HBN.out), if_pos rfl] at c5
              clear trw43
              by_cases hlt2 : z < T
              · have HNY := Lib.hid (fun v v' W h => HNXT.out.1 hlt2 v v' W h)
                clear HNXT
                go_wp2_with (first
                  | (at_builtin; refine wpList_append_ints _ rfl (.tmp 143) (.tmp 145) 56 rfl w.heap.size 3 ti _ 8 .i64 Tryz.underlying56 hti hz0 hz1 hzb rfl _ (s.sm.take p) rfl (B5.out.alloc _).oS (w43.heap.size + 1) (some ⟨w43.heap.size, 0, none⟩) 1 1 [(ib : Int)] rfl (rd_one w43 3 .i64 (ib : Int)) (by have := HSN.out; simp only [maxLen]; omega) (by have := HSN.out; omega) (B5.out.alloc _).size ?_; intro v6 w6 ho6 hg6 hat6; have B6 := Lib.hid ((B5.out.alloc _).growS hg6 ho6 hat6)))
                go_roundw
                case rel => exact ⟨f', abStep T s, HRUN.out, HLN2.out, HIN.out, HNY.out _ _ _ B6.out⟩
                case measure => have := B6.out.oS.lenV; rw [List.length_append, HVS.out] at this; simp only [List.length_cons, List.length_nil] at this; show lenV _ + q < (p + 1) + (q + 1); rw [this]; omega
              · have HNY := Lib.hid (fun v v' W h => HNXT.out.2 (Int.not_lt.1 hlt2) v v' W h)
                clear HNXT
                go_wp2_with (first
                  | (at_builtin; refine wpList_append_ints _ rfl (.tmp 147) (.tmp 149) 56 rfl w.heap.size 3 ti _ 8 .i64 Tryz.underlying56 hti hz0 hz1 hzb rfl _ (s.lg.take q) rfl (B5.out.alloc _).oL (w43.heap.size + 1) (some ⟨w43.heap.size, 0, none⟩) 1 1 [(ib : Int)] rfl (rd_one w43 3 .i64 (ib : Int)) (by have := HLN.out; simp only [maxLen]; omega) (by have := HLN.out; omega) (B5.out.alloc _).size ?_; intro v6 w6 ho6 hg6 hat6; have B6 := Lib.hid ((B5.out.alloc _).growL hg6 ho6 hat6)))
                go_roundw
                case rel => exact ⟨f', abStep T s, HRUN.out, HLN2.out, HIN.out, HNY.out _ _ _ B6.out⟩
                case measure => have := B6.out.oL.lenV; rw [List.length_append, HVL.out] at this; simp only [List.length_cons, List.length_nil] at this; show p + lenV _ < (p + 1) + (q + 1); rw [this]; omega
            · refine step_v (some 133) (by kernel_rfl) (by kernel_rfl) (.int .u64 x) (by have p := (HB3).atH (k := ia) (by rw [HHL.out]; exact HAN.out); rw [HXH.out] at p; go_simp) ?_
              refine hK.out _ _ trivial (fun _ => ?_)
              clear hK K
              try simp only [Act.put, List.setIfInBounds_toArray, List.set_cons_zero, List.set_cons_succ]
              refine held_v 11 (some 134) rfl (by kernel_rfl) (by kernel_rfl) (by kernel_rfl) (by kernel_rfl) (fun c a v w h => HQ2.out c a _ v w h) (by kernel_rfl) (.int .u64 (T - x)) (fun W h => by have p := W1.out; go_simp) trivial ?_
              try simp only [Act.put, List.setIfInBounds_toArray, List.set_cons_zero, List.set_cons_succ]
              refine wpAnyH_ready (rs := [5]) (by kernel_rfl) (by decide) ?_
              refine AllReadyH.cons rfl (fun K hK => ?_) AllReadyH.nil
              refine step_v (some 128) (by kernel_rfl) (by kernel_rfl) (.int .u64 y) (by have p := (HB3).atH (k := ib) (by rw [HHL.out]; exact HBN.out); rw [HYH.out] at p; go_simp) ?_
              refine hK.out _ _ trivial (fun _ => ?_)
              clear hK K
              try simp only [Act.put, List.setIfInBounds_toArray, List.set_cons_zero, List.set_cons_succ]
              refine held_v 12 (some 135) rfl (by kernel_rfl) (by kernel_rfl) (by kernel_rfl) (by kernel_rfl) (fun c a v w h => HQ2.out c a _ v w h) (by kernel_rfl) (.int .u64 z) (fun W h => by have p := W2.out; go_simp) trivial ?_
              try simp only [Act.put, List.setIfInBounds_toArray, List.set_cons_zero, List.set_cons_succ]
              refine held_v 13 (some 136) rfl (by kernel_rfl) (by kernel_rfl) (by kernel_rfl) (by kernel_rfl) (fun c a v w h => HQ2.out c a _ v w h) (by kernel_rfl) (.pointer (some ⟨gH, ib, none⟩)) (fun W h => by go_simp) trivial ?_
              try simp only [Act.put, List.setIfInBounds_toArray, List.set_cons_zero, List.set_cons_succ]
              refine wpAnyH_ready (rs := [14]) (by kernel_rfl) (by decide) ?_
              refine AllReadyH.cons rfl (fun K hK => ?_) AllReadyH.nil
              refine step_store_cell none (by kernel_rfl) (by kernel_rfl) 22 (.tmp 136) (.tmp 135) rfl gH ib (by kernel_rfl) 22 _ HB3.bH (.int .u64 z) (by kernel_rfl) (by have := HHL.out; rw [intsA_size, this]; exact HBN.out) size_u64b rfl rfl ?_
              intro w46 hkw46 how46
              have trw46 := HB3.putH hkw46.out how46
              refine hK.out _ _ trivial (fun _ => ?_)
              clear hK K
              try simp only [Act.put, List.setIfInBounds_toArray, List.set_cons_zero, List.set_cons_succ]
              refine wpAnyH_done (by kernel_rfl) ?_ _
              refine HQ1.out _ _ ?_
              clear HQ1 HQ2
              have B5 := Lib.hid trw46
              have c5 := (trw46).atH (k := ib) (by rw [List.length_set, HHL.out]; exact HBN.out)
              rw [getD_setT (by rw [HHL.out]; exact HBN.out), if_pos rfl] at c5
              clear trw46
              by_cases hlt2 : z < T
              · have HNY := Lib.hid (fun v v' W h => HNXT.out.1 hlt2 v v' W h)
                clear HNXT
                go_wp2_with (first
                  | (at_builtin; refine wpList_append_ints _ rfl (.tmp 143) (.tmp 145) 56 rfl w.heap.size 3 ti _ 8 .i64 Tryz.underlying56 hti hz0 hz1 hzb rfl _ (s.sm.take p) rfl (B5.out.alloc _).oS (w46.heap.size + 1) (some ⟨w46.heap.size, 0, none⟩) 1 1 [(ib : Int)] rfl (rd_one w46 3 .i64 (ib : Int)) (by have := HSN.out; simp only [maxLen]; omega) (by have := HSN.out; omega) (B5.out.alloc _).size ?_; intro v6 w6 ho6 hg6 hat6; have B6 := Lib.hid ((B5.out.alloc _).growS hg6 ho6 hat6)))
                go_roundw
                case rel => exact ⟨f', abStep T s, HRUN.out, HLN2.out, HIN.out, HNY.out _ _ _ B6.out⟩
                case measure => have := B6.out.oS.lenV; rw [List.length_append, HVS.out] at this; simp only [List.length_cons, List.length_nil] at this; show lenV _ + q < (p + 1) + (q + 1); rw [this]; omega
              · have HNY := Lib.hid (fun v v' W h => HNXT.out.2 (Int.not_lt.1 hlt2) v v' W h)
                clear HNXT
                go_wp2_with (first
                  | (at_builtin; refine wpList_append_ints _ rfl (.tmp 147) (.tmp 149) 56 rfl w.heap.size 3 ti _ 8 .i64 Tryz.underlying56 hti hz0 hz1 hzb rfl _ (s.lg.take q) rfl (B5.out.alloc _).oL (w46.heap.size + 1) (some ⟨w46.heap.size, 0, none⟩) 1 1 [(ib : Int)] rfl (rd_one w46 3 .i64 (ib : Int)) (by have := HLN.out; simp only [maxLen]; omega) (by have := HLN.out; omega) (B5.out.alloc _).size ?_; intro v6 w6 ho6 hg6 hat6; have B6 := Lib.hid ((B5.out.alloc _).growL hg6 ho6 hat6)))
                go_roundw
                case rel => exact ⟨f', abStep T s, HRUN.out, HLN2.out, HIN.out, HNY.out _ _ _ B6.out⟩
                case measure => have := B6.out.oL.lenV; rw [List.length_append, HVL.out] at this; simp only [List.length_cons, List.length_nil] at this; show p + lenV _ < (p + 1) + (q + 1); rw [this]; omega
          · have hfin : s = abRun T l.length (abInit T l) := by rw [← hrun, abRun_stop (by omega)]
            have hts : tbC l = s.ts := by rw [HE2.out, ← hfin]
            have hTL : s.ts.length = k := by rw [hI.tn, hlen]
            obtain ⟨A1, d1, rfl, -, -⟩ := hB.oS.form
            obtain ⟨A2, d2, rfl, -, -⟩ := hB.oL.form
            have B7 := Lib.hid hB
            have HEND : Hid (∀ w', Blk w' (gH + 1) 58 (cellsA s.ts) → Below w.heap.size w w' → RetTab w (tbT l) (tbC l).length (tbC l) (tbE l) (.returned (.tuple #[.agg #[.int .u64 T, .slice (some ⟨gH + 1, 0, none⟩) k k], .int .i64 0])) w') := Lib.hid (fun w' h1 h2 => by
              rw [HE1.out, hts, HOK2.out, hTL]
              have h3 := RdPr.of_blk h1
              rw [hTL] at h3
              exact ⟨some ⟨gH + 1, 0, none⟩, k, rfl, h3, Nat.le_refl _, by simp only [maxLen]; omega, h2⟩)
            have HG2L : Hid (w.heap.size ≤ g2) := Lib.hid hB.le2
            obtain ⟨P, hP⟩ : ∃ P, s.sm.length = P := ⟨_, rfl⟩
            obtain ⟨Q, hQ⟩ : ∃ P, s.lg.length = P := ⟨_, rfl⟩
            rw [hP, hQ] at hgo ⊢
            have hPQ : P = 0 ∨ Q = 0 := by omega
            have hPQ2 := hI.nd_len
            rw [hP, hQ] at hPQ2
            have j0 : (P : Int) ≤ 1000 := by omega
            have j1 : (Q : Int) ≤ 1000 := by omega
            clear hfin hts hTL hrun hf hI hB hP hQ hgo hPQ2
            by_cases hP0 : P = 0
            · subst hP0
              clear hPQ
              go_wp2_with (first
                | (with_reducible refine at_any ?_; refine at_store 2 rfl ?_; refine wpList_store_any rfl 25 (.tmp 2) (.tmp 153) rfl g2 rfl 25 #[.int .u64 0, .slice none 0 0] #[.int .u64 T, .slice (some ⟨gH + 1, 0, none⟩) k k] B7.out.b2 rfl (size2T _ _ _ _) (size_tabB _ _) (tab_ones _ _ _ _) ?_; intro w9 hk9 hs9 hb9 ho9; have HB9 := Lib.hid (B7.out.bel.trans (hb9 _ HG2L.out)); have HC9 := Lib.hid (B7.out.bC.other ho9 (B7.out.bC.ne B7.out.b2 (by decide))))
                | (refine bodyPost_any2 2 3 25 rfl g2 rfl (.int .i64 0) rfl 25 #[.int .u64 T, .slice (some ⟨gH + 1, 0, none⟩) k k] hk9.out _ Tryz.underlying25 rfl (size_tabB _ _) rfl ?_))
              exact HEND.out _ HC9.out HB9.out
            · have hQ0 : Q = 0 := by omega
              subst hQ0
              have j2 : (0 : Int) < (P : Int) := by omega
              clear hPQ hP0
              go_wp2_with (first
                | (with_reducible refine at_any ?_; refine at_store 2 rfl ?_; refine wpList_store_any rfl 25 (.tmp 2) (.tmp 153) rfl g2 rfl 25 #[.int .u64 0, .slice none 0 0] #[.int .u64 T, .slice (some ⟨gH + 1, 0, none⟩) k k] B7.out.b2 rfl (size2T _ _ _ _) (size_tabB _ _) (tab_ones _ _ _ _) ?_; intro w9 hk9 hs9 hb9 ho9; have HB9 := Lib.hid (B7.out.bel.trans (hb9 _ HG2L.out)); have HC9 := Lib.hid (B7.out.bC.other ho9 (B7.out.bC.ne B7.out.b2 (by decide))))
                | (refine bodyPost_any2 2 3 25 rfl g2 rfl (.int .i64 0) rfl 25 #[.int .u64 T, .slice (some ⟨gH + 1, 0, none⟩) k k] hk9.out _ Tryz.underlying25 rfl (size_tabB _ _) rfl ?_))
              exact HEND.out _ HC9.out HB9.out
end Go.Proofs.YtomkidgmpbjgeaaGreatDoor
/-
  The table of the program's constants: what it holds, and that it stays so while the calls of package comp run.
  Conditions: the table reads, when the call begins, as the program's text lays it (the card ties that).
-/
set_option maxRecDepth 100000
namespace Go.Proofs.YtomkidgmpbjgeaaGreatDoor
open Go.ChangeShapes Go.WideShapes Go.ChangeAt Go.RowKit
set_option linter.unusedVariables false
/-- The table holds the constants. -/
def KstC (w : World) : Prop := 0 < w.heap.size ∧ ∀ j, j < 64 → w.cell? ⟨0, j, none⟩ = some (.int .u32 (constL.getD j 0))
theorem KstC.below {w w' : World} (h : KstC w) (hb : Below w.heap.size w w') : KstC w' :=
  ⟨Nat.lt_of_lt_of_le h.1 hb.size, fun j hj => by rw [hb.cell (p := ⟨0, j, none⟩) h.1]; exact h.2 j hj⟩
/-- What is known of the tables: of the program's constants and, in a program that has it, of the library's table behind bits.TrailingZeros. -/
def Kst (w : World) : Prop := KstC w
theorem Kst.of {w : World} (h : KstC w) : Kst w := h
theorem Kst.c {w : World} (h : Kst w) : KstC w := h
theorem Kst.below {w w' : World} (h : Kst w) (hb : Below w.heap.size w w') : Kst w' := KstC.below h hb
theorem Kst.at_ {w : World} (h : Kst w) : ∀ j, j < 64 → w.cell? ⟨0, j, none⟩ = some (.int .u32 (constL.getD j 0)) := h.c.2
theorem Kst.alloc {w : World} (h : Kst w) (o : Obj) : Kst (w.alloc o) := h.below ((Below.refl _ _).alloc (Nat.le_refl _) o)
theorem Kst.drew {w : World} (h : Kst w) : Kst w.drew := h
abbrev laidK : List (String × DataW Unit) := [("drawlot/comp.constants", Rows.laid_drawlot_comp_constants)]
abbrev kindsK : List LaidKind := [.data]
theorem gConsts : Tryz.prog.globalNamed "drawlot/comp.constants" = some 0 := by kernel_rfl
theorem tConsts : (Tryz.prog.globals[0]?).map (·.type) = some 126 := by kernel_rfl
theorem laidD : (Rows.laid_drawlot_comp_constants : DataW Unit) = .agg (constL.map fun z => .lit (.int .u32 z)) := by kernel_rfl
/-- An array of integers in memory, read: its numbers are those of the datum. -/
theorem trod_arr_ints {H : Type} {enc : TypeId × Value → H} {P : Program} {w : World} {base n fuel : Nat} {spare : TypeId → Bool} {held : Bool} {t e : TypeId} {q : IntKind} {cs : Array Value} {ys : List Int} {p : List MemPlace} (ht : P.underlying t = some (.array n e)) (he : P.underlying e = some (.int q)) (hc : P.cellsOf e = 1) (hC : P.cellsOf t = n)
    (hf : DataW.trod enc P w base spare held fuel t cs.toList = some (.agg (ys.map fun z => .lit (.int q z)), p)) : ∀ i, i < n → cs[i]? = some (.int q (ys.getD i 0)) := by
  obtain ⟨xs, m, _, hx, hl, hxl, hat⟩ := DataW.trod_array ht hf
  rw [hC] at hl
  rw [hc] at hat
  have hl' : cs.size = n := by simpa using hl
  have hd := congrArg Prod.fst hx
  simp only [DataW.agg.injEq] at hd
  intro i hi
  have h1 := hat i hi
  have e1 : List.take 1 (List.drop (i * 1) cs.toList) = [cs[i]'(by omega)] := by
    simp only [Nat.mul_one]
    rw [List.drop_eq_getElem_cons (by simpa using (show i < cs.size by omega))]
    simp
  rw [e1] at h1
  have hxi : xs[i]? = some (xs[i]'(by omega)) := List.getElem?_eq_getElem (by omega)
  rw [hxi] at h1
  obtain ⟨a, ea, ex, wa⟩ := DataW.trod_int he h1
  have h2 := congrArg (fun l => l[i]?) hd
  simp only [List.getElem?_map, hxi, Option.map_some, ex] at h2
  have h3 : ys[i]? = some a := by
    cases hy : ys[i]? with
    | none => rw [hy] at h2; cases h2
    | some y => rw [hy] at h2; simp only [Option.map_some, Option.some.injEq, DataW.lit.injEq, Lit.int.injEq, true_and] at h2; rw [h2]
  rw [Array.getElem?_eq_getElem (by omega), List.getD_eq_getElem?_getD, h3]
  simpa using ea
/-- What the condition gives the walks. -/
theorem kst_of_laid {W : World} (h : laidMetH Tryz.prog laidK W) : Kst W := by
  rw [MakeChecks.laidMetH_plain _ _ _ (by kernel_rfl)] at h
  obtain ⟨ps, ⟨g0, t0, cs0, f0, p0, q0, hg0, ht0, hv0, hd0, _⟩, _, _⟩ := h
  obtain rfl := Option.some.inj (gConsts.symm.trans hg0)
  obtain rfl := Option.some.inj (tConsts.symm.trans ht0)
  rw [laidD] at hd0
  have hz := trod_arr_ints Tryz.underlying126 Tryz.underlying89 (by kernel_rfl) (by kernel_rfl) hd0
  have hc : ∀ j, j < 64 → W.cell? ⟨0, j, none⟩ = some (.int .u32 (constL.getD j 0)) := fun j hj => (World.var?_cell hg0 hv0 j).trans (hz j hj)
  have hC : KstC W := by
    refine ⟨?_, hc⟩
    have h0 := hc 0 (by decide)
    by_cases hlt : 0 < W.heap.size
    · exact hlt
    · exfalso
      simp only [World.cell?, Array.getElem?_eq_none (Nat.le_of_not_lt hlt)] at h0
      cases h0
  exact Kst.of hC
/-- The heap that the program's own start leaves meets the condition. -/
theorem door_met (os : Os) (args : Array Value) : laidMetH Tryz.prog laidK ((World.doorLaid Tryz.prog 400 os).forCall (fun _ _ => 0) ⟨#[], args, []⟩).memory :=
  laidMetH_of_parts3 (fuel := 8) (laidMet_of_run' 8 (by kernel_rfl) (by kernel_rfl)) (by kernel_rfl) (by kernel_rfl)
end Go.Proofs.YtomkidgmpbjgeaaGreatDoor
/-
  What the program's package plan returns, and that they leave memory as it was.
  Conditions: the arguments lie in their types' ranges.
-/
set_option maxRecDepth 100000
namespace Go.Proofs.YtomkidgmpbjgeaaGreatDoor
open Go.ChangeShapes Go.WideShapes Go.ChangeAt Go.RowKit
set_option linter.unusedVariables false

theorem pfirst_c (x : Int) (h0 : 0 ≤ x) (h1 : x < 4294967296) (w : World) :
    Calls Tryz.prog 104 #[.int .u32 x] w fun e w' => e = .returned (.int .u32 (mix1 x)) ∧ w = w' := by
  unfold mix1
  go_enter Tryz.func104, Tryz.ntmps104
  go_wp2_with (first
    | (go_at_call 107; (with_reducible refine (rotate_c _ _ (by omega) (by omega) (by omega) (by omega) _).mono ?_); rintro e _ ⟨rfl, rfl⟩)
    | (go_at_call 108; (with_reducible refine (right_c _ _ (by omega) (by omega) (by omega) (by omega) _).mono ?_); rintro e _ ⟨rfl, rfl⟩))
  go_ret
  exact ⟨rfl, rfl⟩
theorem psecond_c (x : Int) (h0 : 0 ≤ x) (h1 : x < 4294967296) (w : World) :
    Calls Tryz.prog 103 #[.int .u32 x] w fun e w' => e = .returned (.int .u32 (mix2 x)) ∧ w = w' := by
  unfold mix2
  go_enter Tryz.func103, Tryz.ntmps103
  go_wp2_with (first
    | (go_at_call 107; (with_reducible refine (rotate_c _ _ (by omega) (by omega) (by omega) (by omega) _).mono ?_); rintro e _ ⟨rfl, rfl⟩)
    | (go_at_call 108; (with_reducible refine (right_c _ _ (by omega) (by omega) (by omega) (by omega) _).mono ?_); rintro e _ ⟨rfl, rfl⟩))
  go_ret
  exact ⟨rfl, rfl⟩

set_option maxHeartbeats 1000000 in
theorem pof_c (b : List Int) (hl : b.length = 64) (hb : ∀ z ∈ b, 0 ≤ z ∧ z < 256) (w : World) :
    Calls Tryz.prog 98 #[.agg (intsA .u8 b)] w fun e w' => e = .returned (.agg (intsA .u32 (planL b))) ∧ Below w.heap.size w w' := by
  go_enter Tryz.func98, Tryz.ntmps98
  go_wp2_with (first
    | (with_reducible refine at_any ?_; refine at_dst 1 rfl ?_; refine wpList_box_ints rfl 116 (.tmp 0) rfl .u8 b rfl ?_; intro w1 hk1 hs1 hb1)
    | (with_reducible refine at_any ?_; refine at_dst 2 rfl ?_; refine wpList_alloc_ints rfl 127 rfl .u32 (List.replicate 64 0) zero_plan ?_; intro w2 hk2 hs2 hb2)
    | (with_reducible refine at_any ?_; refine at_dst 3 rfl ?_; refine wpList_alloc_ints rfl 127 rfl .u32 (List.replicate 64 0) zero_plan ?_; intro w3 hk3 hs3 hb3))
  have HI : In3 w w.heap.size w1.heap.size w2.heap.size 116 127 127 .u8 .u32 .u32 b (List.replicate 64 0) (planF b 0) w3 := by
    rw [planF_zero]
    have q1 := hs1.out
    have q2 := hs2.out
    have q3 := hs3.out
    exact ⟨(hk1.out.below hb2 (by omega)).below hb3 (by omega), hk2.out.below hb3 (by omega), hk3.out, hb1.trans ((hb2.mono (by omega)).trans (hb3.mono (by omega))), by omega, by omega, by omega⟩
  obtain ⟨g1, hg1⟩ : ∃ g, w.heap.size = g := ⟨_, rfl⟩
  obtain ⟨g2, hg2⟩ : ∃ g, w1.heap.size = g := ⟨_, rfl⟩
  obtain ⟨g3, hg3⟩ : ∃ g, w2.heap.size = g := ⟨_, rfl⟩
  have HG2 := Lib.hid (show w.heap.size ≤ g2 by have := hb1.size; omega)
  rw [hg1, hg2, hg3] at HI
  rw [hg1, hg2, hg3]
  clear hk1 hs1 hb1 hk2 hs2 hb2 hk3 hs3 hb3
  go_loopw [7] (fun v wr => ∃ i : Nat, i ≤ 16 ∧ v = .int .i64 i ∧ In3 w g1 g2 g3 116 127 127 .u8 .u32 .u32 b (List.replicate 64 0) (planF b i) wr) (fun v _ => 16 - (intOf v).toNat)
  case atStart => exact ⟨0, by omega, rfl, HI⟩
  case round =>
    clear HI
    obtain ⟨i, hi, rfl, HI⟩ := hrel
    by_cases hlt : i < 16
    · have hpl := planF_len b i (by omega)
      have HW := HI.open_ (i := i) (by omega)
      have hset := fun v hv => planF_set b i (by omega) v hv
      obtain ⟨m, hm⟩ : ∃ m, 4 * i = m := ⟨_, rfl⟩
      obtain ⟨m1, hm1⟩ : ∃ m1, 4 * i + 1 = m1 := ⟨_, rfl⟩
      obtain ⟨m2, hm2⟩ : ∃ m2, 4 * i + 2 = m2 := ⟨_, rfl⟩
      obtain ⟨m3, hm3⟩ : ∃ m3, 4 * i + 3 = m3 := ⟨_, rfl⟩
      have c0 := HW.cell1 (j := m) (by omega)
      have c1 := HW.cell1 (j := m1) (by omega)
      have c2 := HW.cell1 (j := m2) (by omega)
      have c3 := HW.cell1 (j := m3) (by omega)
      have hg : ∀ j, j < 64 → 0 ≤ b.getD j 0 ∧ b.getD j 0 < 256 := by
        intro j hj
        have h : j < b.length := by omega
        simp [h]; exact hb _ (List.getElem_mem h)
      have r0 := hg m (by omega)
      have r1 := hg m1 (by omega)
      have r2 := hg m2 (by omega)
      have r3 := hg m3 (by omega)
      have hv : word4 b i = Wd.get4 (b.getD m 0) (b.getD m1 0) (b.getD m2 0) (b.getD m3 0) := by unfold word4; rw [hm1, hm2, hm3, hm]
      have hsv := hset (word4 b i) (by rw [if_pos hlt])
      have HK : ∀ w', In3W w g1 g2 g3 116 127 127 .u8 .u32 .u32 b (List.replicate 64 0) (planF b i) i w' → w'.cell? ⟨g1, m, none⟩ = some (.int .u8 (b.getD m 0)) ∧ w'.cell? ⟨g1, m1, none⟩ = some (.int .u8 (b.getD m1 0)) ∧ w'.cell? ⟨g1, m2, none⟩ = some (.int .u8 (b.getD m2 0)) ∧ w'.cell? ⟨g1, m3, none⟩ = some (.int .u8 (b.getD m3 0)) ∧ In3W w g1 g2 g3 116 127 127 .u8 .u32 .u32 b (List.replicate 64 0) (planF b i) i w' :=
        fun w' h => ⟨h.cell1 (by omega), h.cell1 (by omega), h.cell1 (by omega), h.cell1 (by omega), h⟩
      have HA : ∀ w', In3W w g1 g2 g3 116 127 127 .u8 .u32 .u32 b (List.replicate 64 0) (planF b i) i w' → (∃ u, w'.cell? ⟨g3, i, none⟩ = some (.int .u32 u)) ∧ w'.frozen? ⟨g3, i, none⟩ = false := fun w' h => h.at_ (by omega)
      obtain ⟨a0, ha0⟩ : ∃ a, b.getD m 0 = a := ⟨_, rfl⟩
      obtain ⟨a1, ha1⟩ : ∃ a, b.getD m1 0 = a := ⟨_, rfl⟩
      obtain ⟨a2, ha2⟩ : ∃ a, b.getD m2 0 = a := ⟨_, rfl⟩
      obtain ⟨a3, ha3⟩ : ∃ a, b.getD m3 0 = a := ⟨_, rfl⟩
      rw [ha0, ha1, ha2, ha3] at HK hv
      rw [ha0] at c0 r0
      rw [ha1] at c1 r1
      rw [ha2] at c2 r2
      rw [ha3] at c3 r3
      rw [hv] at hsv
      have HK' := Lib.hid HK
      have HA' := Lib.hid HA
      have HSV := Lib.hid hsv
      have e0 : IntKind.i64.wrap (4 * (i : Int)) = (m : Int) := by rw [IntWalk.i64_in _ (by omega)]; omega
      have e1 : IntKind.i64.wrap ((m : Int) + 1) = (m1 : Int) := by rw [IntWalk.i64_in _ (by omega)]; omega
      have e2 : IntKind.i64.wrap ((m : Int) + 2) = (m2 : Int) := by rw [IntWalk.i64_in _ (by omega)]; omega
      have e3 : IntKind.i64.wrap ((m : Int) + 3) = (m3 : Int) := by rw [IntWalk.i64_in _ (by omega)]; omega
      have q0 : (0 : Int) ≤ (m : Int) ∧ (m : Int) < 64 := by omega
      have q1 : (0 : Int) ≤ (m1 : Int) ∧ (m1 : Int) < 64 := by omega
      have q2 : (0 : Int) ≤ (m2 : Int) ∧ (m2 : Int) < 64 := by omega
      have q3 : (0 : Int) ≤ (m3 : Int) ∧ (m3 : Int) < 64 := by omega
      have q4 : (0 : Int) ≤ (i : Int) ∧ (i : Int) < 64 := by omega
      obtain ⟨⟨u0, hu0⟩, hf0⟩ := HA _ HW
      clear hset HK HA hg ha0 ha1 ha2 ha3 hm hm1 hm2 hm3 hv hsv hpl HI
      have HWd : In3W w g1 g2 g3 116 127 127 .u8 .u32 .u32 b (List.replicate 64 0) (planF b i) i wr.drew := by obtain ⟨u, hu⟩ := HW; exact ⟨u, hu.drew⟩
      go_wp2
      go_region_held3 (fun w' => w'.cell? ⟨g1, m, none⟩ = some (.int .u8 a0) ∧ w'.cell? ⟨g1, m1, none⟩ = some (.int .u8 a1) ∧ w'.cell? ⟨g1, m2, none⟩ = some (.int .u8 a2) ∧ w'.cell? ⟨g1, m3, none⟩ = some (.int .u8 a3) ∧ In3W w g1 g2 g3 116 127 127 .u8 .u32 .u32 b (List.replicate 64 0) (planF b i) i w')
        (first | assumption | exact HK'.out _ HWd | (go_split_ands; exact HK'.out _ HW5) | (go_split_ands; exact HK'.out _ (HW5.again _)))
        (first
          | (go_at_call 102; (with_reducible refine (get32_c a0 a1 a2 a3 r0.1 r0.2 r1.1 r1.2 r2.1 r2.2 r3.1 r3.2 _).mono ?_); rintro e w5 ⟨rfl, hb5, _⟩; have HW5 := HWd.below hb5; obtain ⟨⟨u5, hu5⟩, hf5⟩ := HA'.out _ HW5))
      all_goals
        go_wp2
        go_roundw
        case rel => exact ⟨i + 1, by omega, by go_num, by rw [← HSV.out]; exact HW5.set_ _⟩
        case measure => simp [intOf]; omega
    · rw [show ((i : Nat) : Int) = 16 by omega]
      obtain rfl : i = 16 := by omega
      clear hi hlt
      go_wp2
      go_loopw [6] (fun v wr => ∃ i : Nat, 16 ≤ i ∧ i ≤ 64 ∧ v = .int .i64 i ∧ In3 w g1 g2 g3 116 127 127 .u8 .u32 .u32 b (List.replicate 64 0) (planF b i) wr) (fun v _ => 64 - (intOf v).toNat)
      case atStart => exact ⟨16, by omega, by omega, rfl, HI⟩
      case round =>
        clear HI
        obtain ⟨i, hi16, hi, rfl, HI⟩ := hrel
        by_cases hlt : i < 64
        · have hpl := planF_len b i (by omega)
          have HW := HI.open_ (i := i) (by omega)
          have hin := planTo_in b hb i
          have hg : ∀ j, j < i → (planF b i).getD j 0 = (planTo b i).getD j 0 ∧ 0 ≤ (planTo b i).getD j 0 ∧ (planTo b i).getD j 0 < 4294967296 := by
            intro j hj
            have h : j < (planTo b i).length := by rw [planTo_len]; exact hj
            refine ⟨planF_at b i j hj, ?_⟩
            simp [h]; exact hin _ (List.getElem_mem h)
          obtain ⟨m2, hm2⟩ : ∃ m, i - 2 = m := ⟨_, rfl⟩
          obtain ⟨m7, hm7⟩ : ∃ m, i - 7 = m := ⟨_, rfl⟩
          obtain ⟨m15, hm15⟩ : ∃ m, i - 15 = m := ⟨_, rfl⟩
          obtain ⟨m16, hm16⟩ : ∃ m, i - 16 = m := ⟨_, rfl⟩
          have hsv := planF_set b i hlt (nextW (planTo b i) i) (by rw [if_neg (by omega)])
          have hv : nextW (planTo b i) i = (mix2 ((planTo b i).getD m2 0) + (planTo b i).getD m7 0 + mix1 ((planTo b i).getD m15 0) + (planTo b i).getD m16 0) % 4294967296 := by unfold nextW; rw [hm2, hm7, hm15, hm16]
          have HK : ∀ w', In3W w g1 g2 g3 116 127 127 .u8 .u32 .u32 b (List.replicate 64 0) (planF b i) i w' → w'.cell? ⟨g3, m2, none⟩ = some (.int .u32 ((planF b i).getD m2 0)) ∧ w'.cell? ⟨g3, m7, none⟩ = some (.int .u32 ((planF b i).getD m7 0)) ∧ w'.cell? ⟨g3, m15, none⟩ = some (.int .u32 ((planF b i).getD m15 0)) ∧ w'.cell? ⟨g3, m16, none⟩ = some (.int .u32 ((planF b i).getD m16 0)) ∧ In3W w g1 g2 g3 116 127 127 .u8 .u32 .u32 b (List.replicate 64 0) (planF b i) i w' :=
            fun w' h => ⟨h.cell3 (by omega) (by omega), h.cell3 (by omega) (by omega), h.cell3 (by omega) (by omega), h.cell3 (by omega) (by omega), h⟩
          obtain ⟨⟨u0, hu0⟩, hf0⟩ := HW.at_ (by omega)
          rw [(hg m2 (by omega)).1, (hg m7 (by omega)).1, (hg m15 (by omega)).1, (hg m16 (by omega)).1] at HK
          have r2 := (hg m2 (by omega)).2
          have r7 := (hg m7 (by omega)).2
          have r15 := (hg m15 (by omega)).2
          have r16 := (hg m16 (by omega)).2
          obtain ⟨x2, hx2⟩ : ∃ a, (planTo b i).getD m2 0 = a := ⟨_, rfl⟩
          obtain ⟨x7, hx7⟩ : ∃ a, (planTo b i).getD m7 0 = a := ⟨_, rfl⟩
          obtain ⟨x15, hx15⟩ : ∃ a, (planTo b i).getD m15 0 = a := ⟨_, rfl⟩
          obtain ⟨x16, hx16⟩ : ∃ a, (planTo b i).getD m16 0 = a := ⟨_, rfl⟩
          rw [hx2, hx7, hx15, hx16] at HK hv
          rw [hx2] at r2
          rw [hx7] at r7
          rw [hx15] at r15
          rw [hx16] at r16
          obtain ⟨c0, c1, c2, c3, _⟩ := HK _ HW
          obtain ⟨y2, hy2⟩ : ∃ a, mix2 x2 = a := ⟨_, rfl⟩
          obtain ⟨y15, hy15⟩ : ∃ a, mix1 x15 = a := ⟨_, rfl⟩
          have k2 := mix2_in x2
          have k15 := mix1_in x15
          rw [hy2, hy15] at hv
          rw [hy2] at k2
          rw [hy15] at k15
          obtain ⟨t1, ht1⟩ : ∃ t, (y2 + x7) % 4294967296 = t := ⟨_, rfl⟩
          obtain ⟨t2, ht2⟩ : ∃ t, (t1 + y15) % 4294967296 = t := ⟨_, rfl⟩
          obtain ⟨t3, ht3⟩ : ∃ t, (t2 + x16) % 4294967296 = t := ⟨_, rfl⟩
          have hv3 : nextW (planTo b i) i = t3 := by rw [hv]; omega
          rw [hv3] at hsv
          have f1 : IntKind.u32.wrap (y2 + x7) = t1 := by rw [IntKind.wrap_u32]; exact ht1
          have f2 : IntKind.u32.wrap (t1 + y15) = t2 := by rw [IntKind.wrap_u32]; exact ht2
          have f3 : IntKind.u32.wrap (t2 + x16) = t3 := by rw [IntKind.wrap_u32]; exact ht3
          have HK' := Lib.hid HK
          have HSV := Lib.hid hsv
          have e2 : IntKind.i64.wrap ((i : Int) - 2) = (m2 : Int) := by rw [IntWalk.i64_in _ (by omega)]; omega
          have e7 : IntKind.i64.wrap ((i : Int) - 7) = (m7 : Int) := by rw [IntWalk.i64_in _ (by omega)]; omega
          have e15 : IntKind.i64.wrap ((i : Int) - 15) = (m15 : Int) := by rw [IntWalk.i64_in _ (by omega)]; omega
          have e16 : IntKind.i64.wrap ((i : Int) - 16) = (m16 : Int) := by rw [IntWalk.i64_in _ (by omega)]; omega
          have q0 : (0 : Int) ≤ (m2 : Int) ∧ (m2 : Int) < 64 := by omega
          have q1 : (0 : Int) ≤ (m7 : Int) ∧ (m7 : Int) < 64 := by omega
          have q2 : (0 : Int) ≤ (m15 : Int) ∧ (m15 : Int) < 64 := by omega
          have q3 : (0 : Int) ≤ (m16 : Int) ∧ (m16 : Int) < 64 := by omega
          have q4 : (0 : Int) ≤ (i : Int) ∧ (i : Int) < 64 := by omega
          have H2 := Lib.hid hy2
          have H15 := Lib.hid hy15
          clear HK hg hin hx2 hx7 hx15 hx16 hm2 hm7 hm15 hm16 hv hv3 hsv hpl HI ht1 ht2 ht3 hy2 hy15
          have HWd : In3W w g1 g2 g3 116 127 127 .u8 .u32 .u32 b (List.replicate 64 0) (planF b i) i wr.drew := by obtain ⟨u, hu⟩ := HW; exact ⟨u, hu.drew⟩
          go_wp2
          go_region_held3 (fun w' => w'.cell? ⟨g3, m2, none⟩ = some (.int .u32 x2) ∧ w'.cell? ⟨g3, m7, none⟩ = some (.int .u32 x7) ∧ w'.cell? ⟨g3, m15, none⟩ = some (.int .u32 x15) ∧ w'.cell? ⟨g3, m16, none⟩ = some (.int .u32 x16) ∧ In3W w g1 g2 g3 116 127 127 .u8 .u32 .u32 b (List.replicate 64 0) (planF b i) i w')
            (first | assumption | exact HK'.out _ HWd | (go_split_ands; exact HK'.out _ (HWd.again _)))
            (first
              | (go_at_call 103; (with_reducible refine (psecond_c x2 r2.1 r2.2 _).mono ?_); rw [H2.out]; rintro e w5 ⟨rfl, rfl⟩)
              | (go_at_call 104; (with_reducible refine (pfirst_c x15 r15.1 r15.2 _).mono ?_); rw [H15.out]; rintro e w5 ⟨rfl, rfl⟩))
          all_goals
            go_wp2
            go_roundw
            case rel => exact ⟨i + 1, by omega, by omega, by go_num, by rw [← HSV.out]; exact (HW.set_ _).drew⟩
            case measure => simp [intOf]; omega
        · rw [show ((i : Nat) : Int) = 64 by omega]
          obtain rfl : i = 64 := by omega
          rw [planF_full] at HI
          obtain ⟨h1, h2, h3, h4, h5, h6, h7⟩ := HI
          have hpl : (planL b).length = 64 := planTo_len b 64
          have HPL := Lib.hid hpl
          have H3 := Lib.hid h3
          have H2 := Lib.hid h2
          have hg2 : w.heap.size ≤ g2 := HG2.out
          clear hpl h1 h2 h3
          go_wp2_with (first
            | (with_reducible refine at_any ?_; refine at_dst 59 rfl ?_; refine wpList_load_ints rfl 127 (.tmp 3) rfl g3 rfl 127 .u32 (planL b) H3.out _ Tryz.underlying127 rfl (by rw [HPL.out]; exact size_plan) ?_)
            | (with_reducible refine at_any ?_; refine at_store 2 rfl ?_; refine wpList_store_ints rfl 127 (.tmp 2) (.tmp 59) rfl g2 rfl 127 .u32 (List.replicate 64 0) (planL b) H2.out rfl (by rw [HPL.out]; simp) (by rw [HPL.out]; exact size_plan) ?_; intro w9 hk9 hs9 hb9 ho9)
            | (refine bodyPost_cell 2 127 rfl g2 rfl 127 .u32 (planL b) hk9.out _ Tryz.underlying127 rfl (by rw [HPL.out]; exact size_plan) rfl ?_))
          rw [← hg1]
          exact h4.trans (hb9 _ hg2)
end Go.Proofs.YtomkidgmpbjgeaaGreatDoor
/-
  What the program's package comp returns, and that it leaves memory as it was.
  Conditions: the arguments lie in their types' ranges; of Constant and Take: the table of constants holds what the program's text lays.
-/
set_option maxRecDepth 100000
set_option linter.unusedSimpArgs false
namespace Go.Proofs.YtomkidgmpbjgeaaGreatDoor
open Go.ChangeShapes Go.WideShapes Go.ChangeAt Go.RowKit
set_option linter.unusedVariables false
theorem cturned_c (x a b c : Int) (h0 : 0 ≤ x) (h1 : x < 4294967296) (a0 : 0 ≤ a) (a1 : a < 32) (b0 : 0 ≤ b) (b1 : b < 32) (c0 : 0 ≤ c) (c1 : c < 32) (w : World) :
    Calls Tryz.prog 109 #[.int .u32 x, .int .i64 a, .int .i64 b, .int .i64 c] w fun e w' => e = .returned (.int .u32 (turn3 x a b c)) ∧ w = w' := by
  unfold turn3
  go_enter Tryz.func109, Tryz.ntmps109
  go_wp2_with (go_at_call 107; (with_reducible refine (rotate_c _ _ (by omega) (by omega) (by omega) (by omega) _).mono ?_); rintro e _ ⟨rfl, rfl⟩)
  go_ret
  exact ⟨rfl, rfl⟩
theorem not_u32 (e : Int) (h0 : 0 ≤ e) (h1 : e < 4294967296) : bits .xor .u32 IntKind.u32.max e = 4294967295 - e := by
  obtain ⟨n, rfl⟩ := Int.eq_ofNat_of_zero_le h0
  have hn : n < 2 ^ 32 := by omega
  have e1 : (4294967295 : Nat) ^^^ n = 4294967295 - n := by
    have h := congrArg BitVec.toNat (BitVec.allOnes_xor (x := BitVec.ofNat 32 n))
    rw [BitVec.toNat_xor, BitVec.toNat_allOnes, BitVec.toNat_not, BitVec.toNat_ofNat, Nat.mod_eq_of_lt hn] at h
    exact h
  have e2 : IntKind.u32.max = ((4294967295 : Nat) : Int) := by decide
  rw [e2, u32_xor_nat _ _ (by omega) (by omega), e1]
  omega
theorem cchoice_c (e f g : Int) (e0 : 0 ≤ e) (e1 : e < 4294967296) (f0 : 0 ≤ f) (f1 : f < 4294967296) (g0 : 0 ≤ g) (g1 : g < 4294967296) (w : World) :
    Calls Tryz.prog 110 #[.int .u32 e, .int .u32 f, .int .u32 g] w fun r w' => r = .returned (.int .u32 (chW e f g)) ∧ w = w' := by
  unfold chW
  have hn := not_u32 e e0 e1
  rw [← hn]
  clear hn
  go_enter Tryz.func110, Tryz.ntmps110
  go_wp2
  go_ret
  exact ⟨rfl, rfl⟩
theorem cmajority_c (a b c : Int) (a0 : 0 ≤ a) (a1 : a < 4294967296) (b0 : 0 ≤ b) (b1 : b < 4294967296) (c0 : 0 ≤ c) (c1 : c < 4294967296) (w : World) :
    Calls Tryz.prog 111 #[.int .u32 a, .int .u32 b, .int .u32 c] w fun r w' => r = .returned (.int .u32 (majW a b c)) ∧ w = w' := by
  unfold majW
  go_enter Tryz.func111, Tryz.ntmps111
  go_wp2
  go_ret
  exact ⟨rfl, rfl⟩
def lowW (e f g : Int) : Int := (turn3 e 6 11 25 + chW e f g) % 4294967296
def uppW (a b c : Int) : Int := (turn3 a 2 13 22 + majW a b c) % 4294967296
theorem clower_c (e f g : Int) (e0 : 0 ≤ e) (e1 : e < 4294967296) (f0 : 0 ≤ f) (f1 : f < 4294967296) (g0 : 0 ≤ g) (g1 : g < 4294967296) (w : World) :
    Calls Tryz.prog 105 #[.int .u32 e, .int .u32 f, .int .u32 g] w fun r w' => r = .returned (.int .u32 (lowW e f g)) ∧ w = w' := by
  obtain ⟨v, hv⟩ : ∃ v, lowW e f g = v := ⟨_, rfl⟩
  rw [hv]
  unfold lowW at hv
  have c1 := fun W => cturned_c e 6 11 25 e0 e1 (by omega) (by omega) (by omega) (by omega) (by omega) (by omega) W
  have c2 := fun W => cchoice_c e f g e0 e1 f0 f1 g0 g1 W
  obtain ⟨y1, hy1⟩ : ∃ y, turn3 e 6 11 25 = y := ⟨_, rfl⟩
  obtain ⟨y2, hy2⟩ : ∃ y, chW e f g = y := ⟨_, rfl⟩
  rw [hy1] at c1 hv
  rw [hy2] at c2 hv
  have f9 : IntKind.u32.wrap (y1 + y2) = v := by rw [IntKind.wrap_u32]; exact hv
  have C1 := Lib.hid c1
  have C2 := Lib.hid c2
  clear hy1 hy2 hv c1 c2
  go_enter Tryz.func105, Tryz.ntmps105
  go_wp2_with (first
    | (go_at_call 109; (with_reducible refine (C1.out _).mono ?_); rintro r _ ⟨rfl, rfl⟩)
    | (go_at_call 110; (with_reducible refine (C2.out _).mono ?_); rintro r _ ⟨rfl, rfl⟩))
  go_ret
  exact ⟨rfl, rfl⟩
theorem cupper_c (e f g : Int) (e0 : 0 ≤ e) (e1 : e < 4294967296) (f0 : 0 ≤ f) (f1 : f < 4294967296) (g0 : 0 ≤ g) (g1 : g < 4294967296) (w : World) :
    Calls Tryz.prog 106 #[.int .u32 e, .int .u32 f, .int .u32 g] w fun r w' => r = .returned (.int .u32 (uppW e f g)) ∧ w = w' := by
  obtain ⟨v, hv⟩ : ∃ v, uppW e f g = v := ⟨_, rfl⟩
  rw [hv]
  unfold uppW at hv
  have c1 := fun W => cturned_c e 2 13 22 e0 e1 (by omega) (by omega) (by omega) (by omega) (by omega) (by omega) W
  have c2 := fun W => cmajority_c e f g e0 e1 f0 f1 g0 g1 W
  obtain ⟨y1, hy1⟩ : ∃ y, turn3 e 2 13 22 = y := ⟨_, rfl⟩
  obtain ⟨y2, hy2⟩ : ∃ y, majW e f g = y := ⟨_, rfl⟩
  rw [hy1] at c1 hv
  rw [hy2] at c2 hv
  have f9 : IntKind.u32.wrap (y1 + y2) = v := by rw [IntKind.wrap_u32]; exact hv
  have C1 := Lib.hid c1
  have C2 := Lib.hid c2
  clear hy1 hy2 hv c1 c2
  go_enter Tryz.func106, Tryz.ntmps106
  go_wp2_with (first
    | (go_at_call 109; (with_reducible refine (C1.out _).mono ?_); rintro r _ ⟨rfl, rfl⟩)
    | (go_at_call 111; (with_reducible refine (C2.out _).mono ?_); rintro r _ ⟨rfl, rfl⟩))
  go_ret
  exact ⟨rfl, rfl⟩
theorem cstart_c (w : World) : Calls Tryz.prog 80 #[] w fun e w' => e = .returned (.agg (intsA .u32 startL)) ∧ Below w.heap.size w w' := by
  have HL := Lib.hid (show Z8.length = startL.length from rfl)
  have HZ := Lib.hid (show (Tryz.prog.info? 105).map (·.size) = some startL.length from size_state)
  go_enter Tryz.func80, Tryz.ntmps80
  go_wp2_with (first
    | (with_reducible refine at_any ?_; refine at_dst 0 rfl ?_; refine wpList_alloc_ints rfl 105 rfl .u32 Z8 zero_state ?_; intro w2 hk2 hs2 hb2)
    | (with_reducible refine at_any ?_; refine at_store 0 rfl ?_; refine wpList_store_ints rfl 105 (.tmp 0) (.tmp 1) rfl w.heap.size rfl 105 .u32 Z8 startL hk2.out (by kernel_rfl) HL.out HZ.out ?_; intro w9 hk9 hs9 hb9 ho9)
    | (refine bodyPost_cell 0 105 rfl w.heap.size rfl 105 .u32 startL hk9.out _ Tryz.underlying105 rfl HZ.out rfl ?_))
  exact hb2.trans (hb9 _ (Nat.le_refl _))
theorem cconst_c (i : Int) (i0 : -9223372036854775808 ≤ i) (i1 : i ≤ 9223372036854775807) (w : World) (hk : Kst w) :
    Calls Tryz.prog 100 #[.int .i64 i] w fun e w' => e = .returned (.int .u32 (constN i)) ∧ w = w' := by
  unfold constN
  by_cases h : 0 ≤ i ∧ i ≤ 63
  · rw [if_pos h]
    obtain ⟨h0, h1⟩ := h
    have hc := hk.at_ i.toNat (by omega)
    obtain ⟨C, hC⟩ : ∃ C, constL.getD i.toNat 0 = C := ⟨_, rfl⟩
    rw [hC] at hc
    rw [hC]
    have f1 : IntKind.u64.wrap i = i := by rw [IntKind.wrap_u64]; omega
    have f2 : i < 64 := by omega
    clear hC hk
    go_enter Tryz.func100, Tryz.ntmps100
    go_wp2
    go_ret
    exact ⟨rfl, rfl⟩
  · rw [if_neg h]
    obtain ⟨u, hu⟩ : ∃ u, IntKind.u64.wrap i = u := ⟨_, rfl⟩
    have f2 : 64 ≤ u := by rw [IntKind.wrap_u64] at hu; omega
    clear h hk
    go_enter Tryz.func100, Tryz.ntmps100
    go_wp2
    go_ret
    exact ⟨rfl, rfl⟩
set_option maxHeartbeats 1000000 in
theorem cround_c (s : List Int) (W K : Int) (hl : s.length = 8) (hs : WIn s) (W0 : 0 ≤ W) (W1 : W < 4294967296) (K0 : 0 ≤ K) (K1 : K < 4294967296) (w : World) :
    Calls Tryz.prog 99 #[.agg (intsA .u32 s), .int .u32 W, .int .u32 K] w fun e w' => e = .returned (.agg (intsA .u32 (roundL s W K))) ∧ Below w.heap.size w w' := by
  have hr0 := hs.at_ 0
  have hr1 := hs.at_ 1
  have hr2 := hs.at_ 2
  have hr3 := hs.at_ 3
  have hr4 := hs.at_ 4
  have hr5 := hs.at_ 5
  have hr6 := hs.at_ 6
  have hr7 := hs.at_ 7
  obtain ⟨a, b, c, d, e, f, p, q, rfl⟩ : ∃ a b c d e f p q, s = [a, b, c, d, e, f, p, q] := ⟨_, _, _, _, _, _, _, _, list8 s hl⟩
  simp only [List.getD_cons_zero, List.getD_cons_succ] at hr0 hr1 hr2 hr3 hr4 hr5 hr6 hr7
  have c1 := fun W => clower_c e f p hr4.1 hr4.2 hr5.1 hr5.2 hr6.1 hr6.2 W
  have c2 := fun W => cupper_c a b c hr0.1 hr0.2 hr1.1 hr1.2 hr2.1 hr2.2 W
  obtain ⟨y1, hy1⟩ : ∃ y, lowW e f p = y := ⟨_, rfl⟩
  obtain ⟨u1, hy2⟩ : ∃ y, uppW a b c = y := ⟨_, rfl⟩
  rw [hy1] at c1
  rw [hy2] at c2
  unfold lowW at hy1
  unfold uppW at hy2
  obtain ⟨t1, ht1⟩ : ∃ t, (q + y1) % 4294967296 = t := ⟨_, rfl⟩
  obtain ⟨t2, ht2⟩ : ∃ t, (t1 + K) % 4294967296 = t := ⟨_, rfl⟩
  obtain ⟨t4, ht4⟩ : ∃ t, (t2 + W) % 4294967296 = t := ⟨_, rfl⟩
  have hres : roundL [a, b, c, d, e, f, p, q] W K = [(t4 + u1) % 4294967296, a, b, c, (d + t4) % 4294967296, e, f, p] := by
    have e1 : (q + turn3 e 6 11 25 + chW e f p + K + W) % 4294967296 = t4 := by omega
    simp only [roundL, List.getD_cons_zero, List.getD_cons_succ]
    rw [e1, hy2]
  rw [hres]
  obtain ⟨v0, hv0⟩ : ∃ t, (t4 + u1) % 4294967296 = t := ⟨_, rfl⟩
  obtain ⟨v4, hv4⟩ : ∃ t, (d + t4) % 4294967296 = t := ⟨_, rfl⟩
  rw [hv0, hv4]
  have f1 : IntKind.u32.wrap (q + y1) = t1 := by rw [IntKind.wrap_u32]; exact ht1
  have f2 : IntKind.u32.wrap (t1 + K) = t2 := by rw [IntKind.wrap_u32]; exact ht2
  have f4 : IntKind.u32.wrap (t2 + W) = t4 := by rw [IntKind.wrap_u32]; exact ht4
  have f6 : IntKind.u32.wrap (t4 + u1) = v0 := by rw [IntKind.wrap_u32]; exact hv0
  have f7 : IntKind.u32.wrap (d + t4) = v4 := by rw [IntKind.wrap_u32]; exact hv4
  have C1 := Lib.hid c1
  have C2 := Lib.hid c2
  clear hy1 hy2 ht1 ht2 ht4 hv0 hv4 hres hs hl c1 c2
  go_enter Tryz.func99, Tryz.ntmps99
  go_wp2_with (first
    | (with_reducible refine at_any ?_; refine at_dst 3 rfl ?_; refine wpList_box_ints rfl 105 (.tmp 0) rfl .u32 _ rfl ?_; intro w1 hk1 hs1 hb1)
    | (with_reducible refine at_any ?_; refine at_dst 6 rfl ?_; refine wpList_alloc_ints rfl 105 rfl .u32 Z8 zero_state ?_; intro w2 hk2 hs2 hb2))
  have HS : St2 w w.heap.size w1.heap.size [a, b, c, d, e, f, p, q] Z8 w2 := by
    have q1 := hs1.out
    exact ⟨hk1.out.below hb2 (by omega), hk2.out, hb1.trans (hb2.mono (by omega)), by omega, by omega⟩
  obtain ⟨g, hg⟩ : ∃ g, w.heap.size = g := ⟨_, rfl⟩
  obtain ⟨r, hr⟩ : ∃ g, w1.heap.size = g := ⟨_, rfl⟩
  have HW := Lib.hid hg
  rw [hg, hr] at HS
  rw [hg, hr]
  clear hk1 hs1 hb1 hk2 hs2 hb2 hg hr
  have HSd := HS.drew
  go_region_held3 (fun w' => w'.cell? ⟨g, 0, none⟩ = some (.int .u32 a) ∧ w'.cell? ⟨g, 1, none⟩ = some (.int .u32 b) ∧ w'.cell? ⟨g, 2, none⟩ = some (.int .u32 c) ∧ w'.cell? ⟨g, 3, none⟩ = some (.int .u32 d) ∧ w'.cell? ⟨g, 4, none⟩ = some (.int .u32 e) ∧ w'.cell? ⟨g, 5, none⟩ = some (.int .u32 f) ∧ w'.cell? ⟨g, 6, none⟩ = some (.int .u32 p) ∧ w'.cell? ⟨g, 7, none⟩ = some (.int .u32 q) ∧ St2 w g r [a, b, c, d, e, f, p, q] Z8 w')
    (first | assumption | exact HSd.cells)
    (fail)
  have HS6 := Lib.hid HSd.snd
  go_wp2_with (first
    | (go_at_call 105; (with_reducible refine (C1.out _).mono ?_); rintro e _ ⟨rfl, rfl⟩)
    | (go_at_call 106; (with_reducible refine (C2.out _).mono ?_); rintro e _ ⟨rfl, rfl⟩)
    | (with_reducible refine at_any ?_; refine at_store 6 rfl ?_; refine wpList_store_ints rfl 105 (.tmp 6) (.tmp 59) rfl r rfl 105 .u32 Z8 [v0, a, b, c, v4, e, f, p] HS6.out (by kernel_rfl) (Z8_len8 _ _ _ _ _ _ _ _) (size_state8 _ _ _ _ _ _ _ _) ?_; intro w9 hk9 hs9 hb9 ho9)
    | (refine bodyPost_cell 6 105 rfl r rfl 105 .u32 [v0, a, b, c, v4, e, f, p] hk9.out _ Tryz.underlying105 rfl (size_state8 _ _ _ _ _ _ _ _) rfl ?_))
  exact HSd.bel.trans (hb9 _ HSd.out)
end Go.Proofs.YtomkidgmpbjgeaaGreatDoor

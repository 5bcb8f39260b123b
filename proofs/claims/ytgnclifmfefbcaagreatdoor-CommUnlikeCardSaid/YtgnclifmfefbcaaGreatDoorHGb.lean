/-
  Texts of this claim, joined (what the claim does not need is left out): LedM, ComP, CntP, LedP, UniQ, ComQ, NatP, NatM, NatR, ComM, ComL, ComT, GrtR, StrmA, RefM, RefN, RefNd, RefO, LedR, ScnR, RefCo, RefY, RefQ, RefR, RefS, ComG, TzK, CompK, NedA, PlanA, CompA, CompT, ShaN, TapM, ShaJ, ShaG, PadR.
-/
import Derived.Test.YtgnclifmfefbcaaGreatDoorHGa
import Derived.Test.YtgnclifmfefbcaaGreatDoorRows
import Derived.Deep.QuietTactic
import Derived.BigQuiet
import Derived.Lib.LaidTab
import Derived.Lib.TrailingZeros
import Derived.ProofKit
import Derived.LaidMore
import Derived.OpenShut
import Derived.Stop.Joined
import Derived.Deep.RegionHeld3
import Derived.Deep.RegionLaw
import Derived.KernelRfl
set_option maxRecDepth 100000
set_option linter.unusedVariables false
set_option linter.unusedSimpArgs false
set_option linter.unusedSectionVars false
namespace Go.Proofs.YtgnclifmfefbcaaGreatDoor
section
open Go.ChangeShapes Go.WideShapes Go.ChangeAt Go.RowKit
def ledGo (l : List Int) (r : Int × Src × Int) : Int × Src × Int := if r.2.2 = 0 then (ownV l r.1, r.2.1, 0) else (0, r.2.1, r.2.2)
def ledT (l : List Int) (s : Src) (a : Int) : Int × Src × Int := if sumL l = 0 then (0, s, 10) else ledGo l (drawR s (sumL l) a)
def ledR (l : List Int) (s : Src) (a : Int) : Int × Src × Int := if sumL l < 9223372036854775808 then ledT l s a else (0, s, 11)
theorem led_big {l : List Int} (s : Src) (a : Int) (h : ¬ sumL l < 9223372036854775808) : ledR l s a = (0, s, 11) := if_neg h
theorem led_ok {l : List Int} (s : Src) (a : Int) (h : sumL l < 9223372036854775808) : ledR l s a = ledT l s a := if_pos h
theorem ledT_zero {l : List Int} (s : Src) (a : Int) (h : sumL l = 0) : ledT l s a = (0, s, 10) := if_pos h
theorem ledT_go {l : List Int} (s : Src) (a : Int) (h : sumL l ≠ 0) : ledT l s a = ledGo l (drawR s (sumL l) a) := if_neg h
theorem ledT_in (l : List Int) (s : Src) (a : Int) (ok : s.Ok) : (ledT l s a).2.1.Ok ∧ (ledT l s a).2.1.tape = s.tape := by
  unfold ledT ledGo
  split
  · exact ⟨ok, rfl⟩
  · split
    · exact ⟨drawT_ok s _ a ok, drawT_tape s _ a⟩
    · exact ⟨drawT_ok s _ a ok, drawT_tape s _ a⟩
theorem ledT_ok {l : List Int} (hz : ∀ z ∈ l, 0 ≤ z) (s : Src) (a : Int) (h : (ledT l s a).2.2 = 0) : ∃ k, k < l.length ∧ (ledT l s a).1 = (k : Int) ∧ 0 < l.getD k 0 ∧ s.at_ ≤ (ledT l s a).2.1.at_ := by
  unfold ledT ledGo at h ⊢
  by_cases h1 : sumL l = 0
  · rw [if_pos h1] at h
    exact absurd h (show ¬ ((10 : Int) = 0) by decide)
  · rw [if_neg h1] at h ⊢
    by_cases h2 : (drawR s (sumL l) a).2.2 = 0
    · rw [if_pos h2]
      have hx := draw_in s (sumL l) a
      unfold drawR at h2 hx ⊢
      by_cases hb : drawB s (sumL l) a = true
      · rw [if_pos hb] at h2 hx ⊢
        obtain ⟨e1, j, _, e2, _⟩ := drawGo_first _ _ _ _ h2
        obtain ⟨k, f1, f2, _, f4, f5⟩ := own_at hz hx.1 e1
        have := preL_next (l := l) (n := k) f1
        refine ⟨k, f1, f2, by omega, ?_⟩
        rw [e2]
        show s.at_ ≤ s.at_ + _
        omega
      · rw [if_neg hb] at h2
        exact absurd h2 (by show ¬ ((1 : Int) = 0); decide)
    · rw [if_neg h2] at h
      exact absurd h h2
end
section
def comGo (a : Int) : Nat → List Int → Src → List Int × Src × Int
  | 0, _, s => ([], s, 0)
  | c + 1, l, s =>
    if (ledR l s a).2.2 = 0 then
      (if (comGo a c (l.set (ledR l s a).1.toNat 0) (ledR l s a).2.1).2.2 = 0 then ((ledR l s a).1 :: (comGo a c (l.set (ledR l s a).1.toNat 0) (ledR l s a).2.1).1, (comGo a c (l.set (ledR l s a).1.toNat 0) (ledR l s a).2.1).2.1, 0)
        else ([], (comGo a c (l.set (ledR l s a).1.toNat 0) (ledR l s a).2.1).2.1, (comGo a c (l.set (ledR l s a).1.toNat 0) (ledR l s a).2.1).2.2))
    else ([], (ledR l s a).2.1, (ledR l s a).2.2)
def comB (c : Int) (s : Src) (a : Int) : Bool := rightS s && decide (0 ≤ c ∧ c ≤ 256 ∧ 1 ≤ a ∧ a ≤ 64)
def comR (l : List Int) (c : Int) (s : Src) (a : Int) : List Int × Src × Int := if comB c s a = true then (if (posL l : Int) < c then ([], s, 12) else comGo a c.toNat l s) else ([], s, 1)
def comL (l : List Int) (c : Int) (s : Src) (a : Int) : List Int × Src × Int := if sumL l < 9223372036854775808 then comR l c s a else ([], s, 11)
section
variable {a : Int} {c : Nat} {l : List Int} {s : Src}
theorem comGo_zero : comGo a 0 l s = ([], s, 0) := rfl
theorem comGo_no (h : (ledR l s a).2.2 ≠ 0) : comGo a (c + 1) l s = ([], (ledR l s a).2.1, (ledR l s a).2.2) := by rw [comGo, if_neg h]
theorem comGo_on (h : (ledR l s a).2.2 = 0) (h2 : (comGo a c (l.set (ledR l s a).1.toNat 0) (ledR l s a).2.1).2.2 = 0) : comGo a (c + 1) l s = ((ledR l s a).1 :: (comGo a c (l.set (ledR l s a).1.toNat 0) (ledR l s a).2.1).1, (comGo a c (l.set (ledR l s a).1.toNat 0) (ledR l s a).2.1).2.1, 0) := by rw [comGo, if_pos h, if_pos h2]
theorem comGo_off (h : (ledR l s a).2.2 = 0) (h2 : (comGo a c (l.set (ledR l s a).1.toNat 0) (ledR l s a).2.1).2.2 ≠ 0) : comGo a (c + 1) l s = ([], (comGo a c (l.set (ledR l s a).1.toNat 0) (ledR l s a).2.1).2.1, (comGo a c (l.set (ledR l s a).1.toNat 0) (ledR l s a).2.1).2.2) := by rw [comGo, if_pos h, if_neg h2]
end
theorem comGo_err (a : Int) : ∀ (c : Nat) (l : List Int) (s : Src), (comGo a c l s).2.2 ≠ 0 → (comGo a c l s).1 = []
  | 0, l, s, h => absurd rfl h
  | c + 1, l, s, h => by
    by_cases h1 : (ledR l s a).2.2 = 0
    · by_cases h2 : (comGo a c (l.set (ledR l s a).1.toNat 0) (ledR l s a).2.1).2.2 = 0
      · rw [comGo_on h1 h2] at h
        exact absurd rfl h
      · rw [comGo_off h1 h2]
    · rw [comGo_no h1]
theorem comGo_len (a : Int) : ∀ (c : Nat) (l : List Int) (s : Src), (comGo a c l s).2.2 = 0 → (comGo a c l s).1.length = c
  | 0, l, s, _ => rfl
  | c + 1, l, s, h => by
    by_cases h1 : (ledR l s a).2.2 = 0
    · by_cases h2 : (comGo a c (l.set (ledR l s a).1.toNat 0) (ledR l s a).2.1).2.2 = 0
      · rw [comGo_on h1 h2, List.length_cons, comGo_len a c _ _ h2]
      · rw [comGo_off h1 h2] at h
        exact absurd h h2
    · rw [comGo_no h1] at h
      exact absurd h h1
theorem ledR_sum {l : List Int} {s : Src} {a : Int} (h : (ledR l s a).2.2 = 0) : sumL l < 9223372036854775808 := by
  by_cases h1 : sumL l < 9223372036854775808
  · exact h1
  · rw [led_big s a h1] at h
    exact absurd h (by show ¬ (11 : Int) = 0; decide)
theorem ledR_ok {l : List Int} (hz : ∀ z ∈ l, 0 ≤ z) {s : Src} {a : Int} (h : (ledR l s a).2.2 = 0) : ∃ k, k < l.length ∧ (ledR l s a).1 = (k : Int) ∧ 0 < l.getD k 0 ∧ s.at_ ≤ (ledR l s a).2.1.at_ := by
  have hs := ledR_sum h
  rw [led_ok s a hs] at h ⊢
  exact ledT_ok hz s a h
theorem set_nn {l : List Int} (hz : ∀ z ∈ l, 0 ≤ z) (k : Nat) : ∀ z ∈ l.set k 0, 0 ≤ z := fun z h => by
  rcases List.mem_or_eq_of_mem_set h with h | h
  · exact hz z h
  · rw [h]; exact Int.le_refl _
theorem set_getDc {l : List Int} {k j : Nat} (hk : k < l.length) : (l.set k 0).getD j 0 = if j = k then 0 else l.getD j 0 := by
  by_cases h : j = k
  · subst h
    rw [if_pos rfl, List.getD_eq_getElem?_getD, List.getElem?_set_self hk]
    rfl
  · rw [if_neg h, List.getD_eq_getElem?_getD, List.getElem?_set_ne (fun e => h e.symm), ← List.getD_eq_getElem?_getD]
theorem comGo_in (a : Int) : ∀ (c : Nat) (l : List Int) (s : Src), (∀ z ∈ l, 0 ≤ z) → (comGo a c l s).2.2 = 0 → (∀ o ∈ (comGo a c l s).1, ∃ k : Nat, k < l.length ∧ o = (k : Int) ∧ 0 < l.getD k 0) ∧ (comGo a c l s).1.Nodup ∧ s.at_ ≤ (comGo a c l s).2.1.at_
  | 0, l, s, _, _ => ⟨fun o h => (by cases h), List.nodup_nil, Int.le_refl _⟩
  | c + 1, l, s, hz, h => by
    by_cases h1 : (ledR l s a).2.2 = 0
    · by_cases h2 : (comGo a c (l.set (ledR l s a).1.toNat 0) (ledR l s a).2.1).2.2 = 0
      · obtain ⟨k, e1, e2, e3, e4⟩ := ledR_ok hz h1
        have ek : (ledR l s a).1.toNat = k := by rw [e2, Int.toNat_natCast]
        rw [comGo_on h1 h2]
        rw [ek] at h2 ⊢
        obtain ⟨f1, f2, f3⟩ := comGo_in a c (l.set k 0) (ledR l s a).2.1 (set_nn hz k) h2
        have hold : ∀ o ∈ (comGo a c (l.set k 0) (ledR l s a).2.1).1, ∃ j : Nat, j < l.length ∧ o = (j : Int) ∧ 0 < l.getD j 0 ∧ j ≠ k := fun o ho => by
          obtain ⟨j, g1, g2, g3⟩ := f1 o ho
          rw [List.length_set] at g1
          rw [set_getDc e1] at g3
          by_cases hj : j = k
          · rw [if_pos hj] at g3
            exact absurd g3 (by omega)
          · rw [if_neg hj] at g3
            exact ⟨j, g1, g2, g3, hj⟩
        refine ⟨fun o ho => ?_, ?_, ?_⟩
        · rcases List.mem_cons.1 ho with rfl | ho
          · exact ⟨k, e1, e2, e3⟩
          · obtain ⟨j, g1, g2, g3, _⟩ := hold o ho
            exact ⟨j, g1, g2, g3⟩
        · refine List.nodup_cons.2 ⟨fun ho => ?_, f2⟩
          obtain ⟨j, _, g2, _, g4⟩ := hold _ ho
          rw [e2] at g2
          omega
        · show s.at_ ≤ (comGo a c (l.set k 0) (ledR l s a).2.1).2.1.at_
          omega
      · rw [comGo_off h1 h2] at h
        exact absurd h h2
    · rw [comGo_no h1] at h
      exact absurd h h1
theorem comGo_src (a : Int) : ∀ (c : Nat) (l : List Int) (s : Src), s.Ok → (comGo a c l s).2.1.Ok ∧ (comGo a c l s).2.1.tape = s.tape
  | 0, l, s, ok => ⟨ok, rfl⟩
  | c + 1, l, s, ok => by
    have hL : (ledR l s a).2.1.Ok ∧ (ledR l s a).2.1.tape = s.tape := by
      unfold ledR
      split
      · exact ledT_in l s a ok
      · exact ⟨ok, rfl⟩
    by_cases h1 : (ledR l s a).2.2 = 0
    · have ih := comGo_src a c (l.set (ledR l s a).1.toNat 0) (ledR l s a).2.1 hL.1
      by_cases h2 : (comGo a c (l.set (ledR l s a).1.toNat 0) (ledR l s a).2.1).2.2 = 0
      · rw [comGo_on h1 h2]
        exact ⟨ih.1, ih.2.trans hL.2⟩
      · rw [comGo_off h1 h2]
        exact ⟨ih.1, ih.2.trans hL.2⟩
    · rw [comGo_no h1]
      exact hL
theorem comGo_pos (a : Int) : ∀ (c : Nat) (l : List Int) (s : Src), (∀ z ∈ l, 0 ≤ z) → (comGo a c l s).2.2 = 0 → c ≤ posL l
  | 0, l, s, _, _ => Nat.zero_le _
  | c + 1, l, s, hz, h => by
    by_cases h1 : (ledR l s a).2.2 = 0
    · by_cases h2 : (comGo a c (l.set (ledR l s a).1.toNat 0) (ledR l s a).2.1).2.2 = 0
      · obtain ⟨k, e1, e2, e3, e4⟩ := ledR_ok hz h1
        have ek : (ledR l s a).1.toNat = k := by rw [e2, Int.toNat_natCast]
        rw [ek] at h2
        have ih := comGo_pos a c (l.set k 0) (ledR l s a).2.1 (set_nn hz k) h2
        have := posL_set (l := l) (k := k) e1 e3
        omega
      · rw [comGo_off h1 h2] at h
        exact absurd h h2
    · rw [comGo_no h1] at h
      exact absurd h h1
theorem comGo_pre (a : Int) : ∀ (c : Nat) (l : List Int) (s : Src), (∀ z ∈ l, 0 ≤ z) → (comGo a (c + 1) l s).2.2 = 0 → (comGo a c l s).2.2 = 0 ∧ (comGo a c l s).1 = (comGo a (c + 1) l s).1.take c ∧ (comGo a c l s).2.1.at_ ≤ (comGo a (c + 1) l s).2.1.at_
  | 0, l, s, hz, h => by
    have := (comGo_in a 1 l s hz h).2.2
    exact ⟨rfl, by rw [comGo_zero, List.take_zero], this⟩
  | c + 1, l, s, hz, h => by
    by_cases h1 : (ledR l s a).2.2 = 0
    · by_cases h2 : (comGo a (c + 1) (l.set (ledR l s a).1.toNat 0) (ledR l s a).2.1).2.2 = 0
      · obtain ⟨i1, i2, i3⟩ := comGo_pre a c _ _ (set_nn hz _) h2
        rw [comGo_on h1 h2, comGo_on h1 i1]
        refine ⟨rfl, ?_, i3⟩
        show _ :: _ = (_ :: _).take (c + 1)
        rw [List.take_succ_cons, i2]
      · rw [comGo_off h1 h2] at h
        exact absurd h h2
    · rw [comGo_no h1] at h
      exact absurd h h1
end
section
def sumB (f : Nat → Nat) : Nat → Nat
  | 0 => 0
  | n + 1 => sumB f n + f n
theorem sumB_congr {f g : Nat → Nat} : ∀ n, (∀ v, v < n → f v = g v) → sumB f n = sumB g n
  | 0, _ => rfl
  | n + 1, h => by rw [sumB, sumB, sumB_congr n (fun v hv => h v (by omega)), h n (by omega)]
theorem sumB_zero : ∀ n, sumB (fun _ => 0) n = 0
  | 0 => rfl
  | n + 1 => by rw [sumB, sumB_zero n]
def modK (d : Int) (l : List Int) : List Int := l.map (· % d)
theorem modK_len (d : Int) (l : List Int) : (modK d l).length = l.length := by simp [modK]
theorem modK_at {d : Int} {l : List Int} {i : Nat} (h : i < l.length) : (modK d l).getD i 0 = l.getD i 0 % d := by simp [modK, List.getD_eq_getElem?_getD, h]
theorem modK_in {d : Int} (hd : 0 < d) {l : List Int} : ∀ z ∈ modK d l, 0 ≤ z ∧ z < d := by
  intro z h
  obtain ⟨y, _, rfl⟩ := List.mem_map.1 h
  exact ⟨Int.emod_nonneg _ (by omega), Int.emod_lt_of_pos _ hd⟩
theorem modK_take {d : Int} {l : List Int} {i : Nat} (h : i < l.length) : (modK d l).take (i + 1) = (modK d l).take i ++ [l.getD i 0 % d] := by
  rw [List.take_succ_eq_append_getElem (by rw [modK_len]; exact h)]
  congr 2
  have := modK_at (d := d) h
  rw [List.getD_eq_getElem?_getD, List.getElem?_eq_getElem (by rw [modK_len]; exact h)] at this
  exact this
end
section
def ownP (l : List Int) (i : Nat) (v : Nat) : Bool := decide (ownV l (v : Int) = (i : Int))
theorem own_count {l : List Int} (hz : ∀ z ∈ l, 0 ≤ z) {i : Nat} (hi : i < l.length) : ∀ t : Nat, (t : Int) ≤ sumL l → ((sumB (fun v => if ownP l i v = true then 1 else 0) t : Nat) : Int) = (owndL l (t : Int)).getD i 0
  | 0, _ => by
    rw [show ((0 : Nat) : Int) = 0 from rfl, owndL_zero hz, List.getD_eq_getElem?_getD, List.getElem?_replicate, if_pos hi]
    rfl
  | t + 1, h => by
    have ih := own_count hz hi t (by push_cast at h; omega)
    obtain ⟨o, e1, e2, e3, e4, e5⟩ := own_at (l := l) (t := (t : Int)) hz (by omega) (by push_cast at h; omega)
    have hn := owndL_next hz e1 e4 e5
    rw [sumB, show ((t + 1 : Nat) : Int) = (t : Int) + 1 by push_cast; rfl, ← hn]
    push_cast
    rw [ih]
    by_cases ho : o = i
    · subst ho
      rw [show ownP l o t = true from decide_eq_true e2, List.getD_eq_getElem?_getD, List.getD_eq_getElem?_getD, List.getElem?_set_self (by rw [owndL_len]; exact e1)]
      simp
    · rw [show ownP l i t = false from decide_eq_false (fun h => ho (by rw [e2] at h; omega)), List.getD_eq_getElem?_getD, List.getD_eq_getElem?_getD, List.getElem?_set_ne ho]
      simp
theorem own_all {l : List Int} (hz : ∀ z ∈ l, 0 ≤ z) {i b : Nat} (hi : i < l.length) (hb : sumL l = (b : Int)) : ((sumB (fun v => if ownP l i v = true then 1 else 0) b : Nat) : Int) = l.getD i 0 := by
  rw [own_count hz hi b (by omega), ← hb, owndL_all hz]
end
section
def bitB (x bits i q : Nat) : Int := if q < i then ((x / 2 ^ (bits - 1 - q) % 2 : Nat) : Int) else 0
def byteB (x bits i j : Nat) : Int := 128 * bitB x bits i (8 * j) + 64 * bitB x bits i (8 * j + 1) + 32 * bitB x bits i (8 * j + 2) + 16 * bitB x bits i (8 * j + 3) + 8 * bitB x bits i (8 * j + 4) + 4 * bitB x bits i (8 * j + 5) + 2 * bitB x bits i (8 * j + 6) + bitB x bits i (8 * j + 7)
def bytesB (x bits i : Nat) : List Int := (List.range ((i + 7) / 8)).map (byteB x bits i)
def bytesC (x bits i : Nat) : List Int := (List.range (i / 8 + 1)).map (byteB x bits i)
theorem bitB_in (x bits i q : Nat) : 0 ≤ bitB x bits i q ∧ bitB x bits i q < 2 := by unfold bitB; split <;> omega
theorem bitB_out (x bits i q : Nat) (h : i ≤ q) : bitB x bits i q = 0 := by unfold bitB; rw [if_neg (by omega)]
theorem bitB_old (x bits i q : Nat) (h : q ≠ i) : bitB x bits (i + 1) q = bitB x bits i q := by
  unfold bitB
  by_cases h1 : q < i
  · rw [if_pos h1, if_pos (by omega)]
  · rw [if_neg h1, if_neg (by omega)]
theorem byteB_in (x bits i j : Nat) : 0 ≤ byteB x bits i j ∧ byteB x bits i j < 256 := by
  have h0 := bitB_in x bits i (8 * j)
  have h1 := bitB_in x bits i (8 * j + 1)
  have h2 := bitB_in x bits i (8 * j + 2)
  have h3 := bitB_in x bits i (8 * j + 3)
  have h4 := bitB_in x bits i (8 * j + 4)
  have h5 := bitB_in x bits i (8 * j + 5)
  have h6 := bitB_in x bits i (8 * j + 6)
  have h7 := bitB_in x bits i (8 * j + 7)
  unfold byteB
  omega
theorem byteB_other (x bits i j : Nat) (h : j ≠ i / 8) : byteB x bits (i + 1) j = byteB x bits i j := by
  unfold byteB
  rw [bitB_old _ _ _ _ (by omega), bitB_old _ _ _ _ (by omega), bitB_old _ _ _ _ (by omega), bitB_old _ _ _ _ (by omega), bitB_old _ _ _ _ (by omega), bitB_old _ _ _ _ (by omega), bitB_old _ _ _ _ (by omega), bitB_old _ _ _ _ (by omega)]
theorem eight (r : Nat) (h : r < 8) : r = 0 ∨ r = 1 ∨ r = 2 ∨ r = 3 ∨ r = 4 ∨ r = 5 ∨ r = 6 ∨ r = 7 := by omega
theorem byteB_next (x bits i : Nat) : byteB x bits (i + 1) (i / 8) = byteB x bits i (i / 8) + bitB x bits (i + 1) i * 2 ^ (7 - i % 8) ∧ byteB x bits i (i / 8) + 2 ^ (7 - i % 8) < 256 := by
  obtain ⟨a, r, hr, rfl⟩ : ∃ a r, r < 8 ∧ i = 8 * a + r := ⟨i / 8, i % 8, by omega, by omega⟩
  rw [show (8 * a + r) / 8 = a by omega, show (8 * a + r) % 8 = r by omega]
  have ho := fun q (h : q ≠ 8 * a + r) => bitB_old x bits (8 * a + r) q h
  have hz := fun q (h : 8 * a + r ≤ q) => bitB_out x bits (8 * a + r) q h
  have hi := fun q => bitB_in x bits (8 * a + r) q
  have hn := bitB_in x bits (8 * a + r + 1) (8 * a + r)
  have i0 := hi (8 * a)
  have i1 := hi (8 * a + 1)
  have i2 := hi (8 * a + 2)
  have i3 := hi (8 * a + 3)
  have i4 := hi (8 * a + 4)
  have i5 := hi (8 * a + 5)
  have i6 := hi (8 * a + 6)
  have i7 := hi (8 * a + 7)
  unfold byteB
  rcases eight r hr with rfl | rfl | rfl | rfl | rfl | rfl | rfl | rfl
  · rw [ho (8 * a + 1) (by omega), ho (8 * a + 2) (by omega), ho (8 * a + 3) (by omega), ho (8 * a + 4) (by omega), ho (8 * a + 5) (by omega), ho (8 * a + 6) (by omega), ho (8 * a + 7) (by omega)]
    have z0 := hz (8 * a) (by omega)
    have z1 := hz (8 * a + 1) (by omega)
    have z2 := hz (8 * a + 2) (by omega)
    have z3 := hz (8 * a + 3) (by omega)
    have z4 := hz (8 * a + 4) (by omega)
    have z5 := hz (8 * a + 5) (by omega)
    have z6 := hz (8 * a + 6) (by omega)
    have z7 := hz (8 * a + 7) (by omega)
    simp only [Nat.add_zero] at *
    omega
  · rw [ho (8 * a) (by omega), ho (8 * a + 2) (by omega), ho (8 * a + 3) (by omega), ho (8 * a + 4) (by omega), ho (8 * a + 5) (by omega), ho (8 * a + 6) (by omega), ho (8 * a + 7) (by omega)]
    have z1 := hz (8 * a + 1) (by omega)
    have z2 := hz (8 * a + 2) (by omega)
    have z3 := hz (8 * a + 3) (by omega)
    have z4 := hz (8 * a + 4) (by omega)
    have z5 := hz (8 * a + 5) (by omega)
    have z6 := hz (8 * a + 6) (by omega)
    have z7 := hz (8 * a + 7) (by omega)
    omega
  · rw [ho (8 * a) (by omega), ho (8 * a + 1) (by omega), ho (8 * a + 3) (by omega), ho (8 * a + 4) (by omega), ho (8 * a + 5) (by omega), ho (8 * a + 6) (by omega), ho (8 * a + 7) (by omega)]
    have z2 := hz (8 * a + 2) (by omega)
    have z3 := hz (8 * a + 3) (by omega)
    have z4 := hz (8 * a + 4) (by omega)
    have z5 := hz (8 * a + 5) (by omega)
    have z6 := hz (8 * a + 6) (by omega)
    have z7 := hz (8 * a + 7) (by omega)
    omega
  · rw [ho (8 * a) (by omega), ho (8 * a + 1) (by omega), ho (8 * a + 2) (by omega), ho (8 * a + 4) (by omega), ho (8 * a + 5) (by omega), ho (8 * a + 6) (by omega), ho (8 * a + 7) (by omega)]
    have z3 := hz (8 * a + 3) (by omega)
    have z4 := hz (8 * a + 4) (by omega)
    have z5 := hz (8 * a + 5) (by omega)
    have z6 := hz (8 * a + 6) (by omega)
    have z7 := hz (8 * a + 7) (by omega)
    omega
  · rw [ho (8 * a) (by omega), ho (8 * a + 1) (by omega), ho (8 * a + 2) (by omega), ho (8 * a + 3) (by omega), ho (8 * a + 5) (by omega), ho (8 * a + 6) (by omega), ho (8 * a + 7) (by omega)]
    have z4 := hz (8 * a + 4) (by omega)
    have z5 := hz (8 * a + 5) (by omega)
    have z6 := hz (8 * a + 6) (by omega)
    have z7 := hz (8 * a + 7) (by omega)
    omega
  · rw [ho (8 * a) (by omega), ho (8 * a + 1) (by omega), ho (8 * a + 2) (by omega), ho (8 * a + 3) (by omega), ho (8 * a + 4) (by omega), ho (8 * a + 6) (by omega), ho (8 * a + 7) (by omega)]
    have z5 := hz (8 * a + 5) (by omega)
    have z6 := hz (8 * a + 6) (by omega)
    have z7 := hz (8 * a + 7) (by omega)
    omega
  · rw [ho (8 * a) (by omega), ho (8 * a + 1) (by omega), ho (8 * a + 2) (by omega), ho (8 * a + 3) (by omega), ho (8 * a + 4) (by omega), ho (8 * a + 5) (by omega), ho (8 * a + 7) (by omega)]
    have z6 := hz (8 * a + 6) (by omega)
    have z7 := hz (8 * a + 7) (by omega)
    omega
  · rw [ho (8 * a) (by omega), ho (8 * a + 1) (by omega), ho (8 * a + 2) (by omega), ho (8 * a + 3) (by omega), ho (8 * a + 4) (by omega), ho (8 * a + 5) (by omega), ho (8 * a + 6) (by omega)]
    have z7 := hz (8 * a + 7) (by omega)
    omega
theorem byteB_bit (x bits i q : Nat) : byteB x bits i (q / 8) / 2 ^ (7 - q % 8) % 2 = bitB x bits i q := by
  obtain ⟨a, r, hr, rfl⟩ : ∃ a r, r < 8 ∧ q = 8 * a + r := ⟨q / 8, q % 8, by omega, by omega⟩
  rw [show (8 * a + r) / 8 = a by omega, show (8 * a + r) % 8 = r by omega]
  have hi := fun q => bitB_in x bits i q
  have i0 := hi (8 * a)
  have i1 := hi (8 * a + 1)
  have i2 := hi (8 * a + 2)
  have i3 := hi (8 * a + 3)
  have i4 := hi (8 * a + 4)
  have i5 := hi (8 * a + 5)
  have i6 := hi (8 * a + 6)
  have i7 := hi (8 * a + 7)
  unfold byteB
  rcases eight r hr with rfl | rfl | rfl | rfl | rfl | rfl | rfl | rfl
  all_goals
    try rw [show (2 : Int) ^ (7 - 0) = 128 from rfl]
    try rw [show (2 : Int) ^ (7 - 1) = 64 from rfl]
    try rw [show (2 : Int) ^ (7 - 2) = 32 from rfl]
    try rw [show (2 : Int) ^ (7 - 3) = 16 from rfl]
    try rw [show (2 : Int) ^ (7 - 4) = 8 from rfl]
    try rw [show (2 : Int) ^ (7 - 5) = 4 from rfl]
    try rw [show (2 : Int) ^ (7 - 6) = 2 from rfl]
    try rw [show (2 : Int) ^ (7 - 7) = 1 from rfl]
    try rw [show 8 * a + 0 = 8 * a from rfl]
    omega
theorem bytesB_len (x bits i : Nat) : (bytesB x bits i).length = (i + 7) / 8 := by unfold bytesB; rw [List.length_map, List.length_range]
theorem bytesC_len (x bits i : Nat) : (bytesC x bits i).length = i / 8 + 1 := by unfold bytesC; rw [List.length_map, List.length_range]
theorem bytesB_in (x bits i : Nat) : ∀ z ∈ bytesB x bits i, 0 ≤ z ∧ z < 256 := by
  intro z hz
  obtain ⟨j, _, rfl⟩ := List.mem_map.1 hz
  exact byteB_in x bits i j
theorem bytesB_at (x bits i j : Nat) (h : j < (i + 7) / 8) : (bytesB x bits i).getD j 0 = byteB x bits i j := by
  unfold bytesB
  rw [List.getD_eq_getElem?_getD, List.getElem?_map, List.getElem?_range h]
  rfl
theorem bytesC_at (x bits i : Nat) : (bytesC x bits i).getD (i / 8) 0 = byteB x bits i (i / 8) := by
  unfold bytesC
  rw [List.getD_eq_getElem?_getD, List.getElem?_map, List.getElem?_range (by omega)]
  rfl
theorem bytesB_get (x bits i j : Nat) (h : j < (bytesB x bits i).length) : (bytesB x bits i)[j] = byteB x bits i j := by simp [bytesB]
theorem bytesC_get (x bits i j : Nat) (h : j < (bytesC x bits i).length) : (bytesC x bits i)[j] = byteB x bits i j := by simp [bytesC]
theorem bytesC_new (x bits i : Nat) (h : i % 8 = 0) : bytesB x bits i ++ [0] = bytesC x bits i := by
  unfold bytesB bytesC
  rw [List.range_succ, List.map_append, show (i + 7) / 8 = i / 8 by omega]
  congr 1
  show [0] = [byteB x bits i (i / 8)]
  unfold byteB
  rw [bitB_out _ _ _ _ (by omega), bitB_out _ _ _ _ (by omega), bitB_out _ _ _ _ (by omega), bitB_out _ _ _ _ (by omega), bitB_out _ _ _ _ (by omega), bitB_out _ _ _ _ (by omega), bitB_out _ _ _ _ (by omega), bitB_out _ _ _ _ (by omega)]
  rfl
theorem bytesC_old (x bits i : Nat) (h : i % 8 ≠ 0) : bytesB x bits i = bytesC x bits i := by
  unfold bytesB bytesC
  rw [show (i + 7) / 8 = i / 8 + 1 by omega]
theorem bytesB_next (x bits i : Nat) : bytesB x bits (i + 1) = (bytesC x bits i).set (i / 8) (byteB x bits (i + 1) (i / 8)) := by
  apply List.ext_getElem
  · rw [bytesB_len, List.length_set, bytesC_len]; omega
  · intro j h1 h2
    rw [List.getElem_set, bytesB_get]
    split
    · rename_i h; rw [← h]
    · rename_i h; rw [bytesC_get]; exact byteB_other x bits i j (fun h3 => h h3.symm)
theorem bytesB_zero (x bits i : Nat) (h : bitB x bits (i + 1) i = 0) : bytesB x bits (i + 1) = bytesC x bits i := by
  rw [bytesB_next, (byteB_next x bits i).1, h, Int.zero_mul, Int.add_zero]
  apply List.ext_getElem
  · rw [List.length_set]
  · intro j h1 h2
    rw [List.getElem_set]
    split
    · rename_i h3; subst h3; rw [bytesC_get]
    · rfl
theorem bytesB_one (x bits i : Nat) (h : bitB x bits (i + 1) i = 1) : bytesB x bits (i + 1) = (bytesC x bits i).set (i / 8) (byteB x bits i (i / 8) + 2 ^ (7 - i % 8)) := by
  rw [bytesB_next, (byteB_next x bits i).1, h, Int.one_mul]
theorem bitB_at (x bits i : Nat) : bitB x bits (i + 1) i = ((x / 2 ^ (bits - 1 - i) % 2 : Nat) : Int) := by unfold bitB; rw [if_pos (by omega)]
def numT (x bits : Nat) : Src := ⟨1, bytesB x bits bits, bits, List.replicate 32 0, 0, 0⟩
theorem numT_ok (x bits : Nat) (h : bits ≤ 1000) : (numT x bits).Ok := ⟨(by show (-9223372036854775808 : Int) ≤ 1; omega), (by show (1 : Int) < 9223372036854775808; omega), by show (bytesB x bits bits).length ≤ _; rw [bytesB_len]; omega, bytesB_in x bits bits, by show (0 : Int) ≤ (bits : Int); omega, by show (bits : Int) < _; omega, rfl, fun z hz => by rw [List.eq_of_mem_replicate hz]; omega, Int.le_refl _, (by show (0 : Int) < 18446744073709551616; omega), Int.le_refl _, (by show (0 : Int) < 18446744073709551616; omega)⟩
theorem numT_bit (x bits n : Nat) (h : n < bits) (p : Int) : bitS ((numT x bits).to p) (n : Int) = ((x / 2 ^ (bits - 1 - n) % 2 : Nat) : Int) := by
  rw [bitS_to]
  unfold bitS
  rw [if_neg (by show ¬ (1 : Int) = 2; omega)]
  show (bytesB x bits bits).getD ((n : Int) / 8).toNat 0 / 2 ^ (7 - (n : Int) % 8).toNat % 2 = _
  rw [show ((n : Int) / 8).toNat = n / 8 by omega, show (7 - (n : Int) % 8).toNat = 7 - n % 8 by omega, bytesB_at _ _ _ _ (by omega), byteB_bit]
  unfold bitB
  rw [if_pos h]
theorem numT_num (x bits a : Nat) (p : Int) : ∀ k, a + k ≤ bits → numS ((numT x bits).to p) (a : Int) k = ((x / 2 ^ (bits - a - k) % 2 ^ k : Nat) : Int)
  | 0, _ => by rw [Nat.pow_zero, Nat.mod_one]; rfl
  | k + 1, h => by
    rw [numS_succ, numT_num x bits a p k (by omega), show (a : Int) + (k : Int) = ((a + k : Nat) : Int) by omega, numT_bit x bits (a + k) (by omega)]
    rw [show bits - 1 - (a + k) = bits - a - (k + 1) by omega, show bits - a - k = bits - a - (k + 1) + 1 by omega, Nat.pow_succ 2 (bits - a - (k + 1)), ← Nat.div_div_eq_div_mul]
    generalize x / 2 ^ (bits - a - (k + 1)) = y
    rw [Nat.pow_succ 2 k, Nat.mul_comm (2 ^ k) 2, Nat.mod_mul]
    generalize y / 2 % 2 ^ k = z
    omega
theorem numT_take (x bits a k : Nat) (h : a + k ≤ bits) (hk : k ≤ 64) : takeE ((numT x bits).to (a : Int)) k = 0 ∧ takeV ((numT x bits).to (a : Int)) k = ((x / 2 ^ (bits - a - k) % 2 ^ k : Nat) : Int) := by
  have hr : rightS ((numT x bits).to (a : Int)) = true := by
    unfold rightS
    rw [if_pos (show ((numT x bits).to (a : Int)).kind = 1 from rfl)]
    show (decide ((bits : Int) ≤ 8 * ((bytesB x bits bits).length : Int)) && decide ((a : Int) ≤ (bits : Int))) = true
    rw [bytesB_len, decide_eq_true (by omega), decide_eq_true (by omega)]
    rfl
  have hl : leftS ((numT x bits).to (a : Int)) = (bits : Int) - a := by
    unfold leftS
    rw [if_pos hr, if_pos (show ((numT x bits).to (a : Int)).kind = 1 from rfl)]
    rfl
  have he : takeE ((numT x bits).to (a : Int)) k = 0 := takeE_ok.2 ⟨hr, by omega, by omega, by rw [hl]; omega⟩
  refine ⟨he, ?_⟩
  unfold takeV
  rw [if_pos he, Int.toNat_natCast]
  exact numT_num x bits a _ k h
end
section
theorem cnt_blocks {P : Nat → Bool} {R : Nat} (F : Nat → Nat → Bool) : ∀ H, (∀ h y, h < H → y < R → P (h * R + y) = F h y) → cnt P (H * R) = sumB (fun h => cnt (F h) R) H
  | 0, _ => by rw [Nat.zero_mul]; rfl
  | H + 1, hF => by
    rw [Nat.add_mul, Nat.one_mul, cnt_add, cnt_blocks F H (fun h y h1 h2 => hF h y (by omega) h2), sumB]
    congr 1
    exact cnt_congr R (fun y hy => hF H y (by omega) hy)
theorem sumB_parts (own : Nat → Bool) (n C D : Nat) : ∀ H, sumB (fun h => if h < n then (if own h = true then C else 0) else D) H = sumB (fun v => if own v = true then 1 else 0) (min H n) * C + (H - n) * D
  | 0 => by simp [sumB]
  | H + 1 => by
    rw [sumB, sumB_parts own n C D H]
    by_cases h : H < n
    · rw [if_pos h, Nat.min_eq_left (by omega), Nat.min_eq_left (by omega), show H - n = 0 by omega, show H + 1 - n = 0 by omega, sumB, Nat.add_mul]
      split
      · omega
      · omega
    · rw [if_neg h, Nat.min_eq_right (by omega), Nat.min_eq_right (by omega), show H + 1 - n = H - n + 1 by omega, Nat.add_mul, Nat.one_mul]
      omega
def attD (k n : Nat) (own : Nat → Bool) (g : Nat → Nat → Bool) : Nat → Nat → Nat → Bool
  | 0, _, _ => false
  | a + 1, r, y => if k ≤ r then (if y / 2 ^ (r - k) < n then own (y / 2 ^ (r - k)) && g (r - k) (y % 2 ^ (r - k)) else attD k n own g a (r - k) (y % 2 ^ (r - k))) else false
def wayD (k st lost : Nat) (g : Nat → Nat) : Nat → Nat → Nat
  | 0, _ => 0
  | a + 1, r => if k ≤ r then st * g (r - k) + lost * wayD k st lost g a (r - k) else 0
theorem attD_cnt {k n : Nat} {own : Nat → Bool} {g : Nat → Nat → Bool} (hn : n ≤ 2 ^ k) : ∀ a r, cnt (attD k n own g a r) (2 ^ r) = wayD k (sumB (fun v => if own v = true then 1 else 0) n) (2 ^ k - n) (fun r => cnt (g r) (2 ^ r)) a r
  | 0, r => cnt_none _
  | a + 1, r => by
    rw [wayD]
    by_cases hk : k ≤ r
    · rw [if_pos hk, ← attD_cnt hn a (r - k)]
      have hR : 2 ^ r = 2 ^ k * 2 ^ (r - k) := by rw [← Nat.pow_add]; congr 1; omega
      rw [hR, cnt_blocks (R := 2 ^ (r - k)) (fun h y => if h < n then own h && g (r - k) y else attD k n own g a (r - k) y) (2 ^ k) (fun h y h1 h2 => by
        obtain ⟨e1, e2⟩ := div_rem h (2 ^ (r - k)) y h2
        rw [attD, if_pos hk, e1, e2])]
      have hb : ∀ h, cnt (fun y => if h < n then own h && g (r - k) y else attD k n own g a (r - k) y) (2 ^ (r - k)) = if h < n then (if own h = true then cnt (g (r - k)) (2 ^ (r - k)) else 0) else cnt (attD k n own g a (r - k)) (2 ^ (r - k)) := fun h => by
        by_cases h1 : h < n
        · simp only [if_pos h1]
          by_cases h2 : own h = true
          · rw [if_pos h2]
            exact cnt_congr _ (fun y _ => by rw [h2, Bool.true_and])
          · rw [if_neg h2, cnt_congr (Q := fun _ => false) _ (fun y _ => by
              have h3 : own h = false := by cases hh : own h with
                | true => exact absurd hh h2
                | false => rfl
              rw [h3, Bool.false_and]), cnt_none]
        · simp only [if_neg h1]
      rw [sumB_congr (2 ^ k) (fun h _ => hb h), sumB_parts, Nat.min_eq_right hn]
    · rw [if_neg hk, cnt_congr (Q := fun _ => false) _ (fun y _ => by rw [attD, if_neg hk]), cnt_none]
def memB (l : List Int) (i : Int) : Prop := 0 ≤ i ∧ i < (l.length : Int) ∧ 0 < l.getD i.toNat 0
instance (l : List Int) (i : Int) : Decidable (memB l i) := inferInstanceAs (Decidable (_ ∧ _ ∧ _))
def comH (m : Nat) : List Int → List Int → Nat → Nat → Bool
  | [], _, _, _ => true
  | i :: M, l, r, y => decide (memB l i) && attD (needN (sumL l)) (sumL l).toNat (ownP l i.toNat) (comH m M (l.set i.toNat 0)) m r y
def wayN (m : Nat) : List Int → List Int → Nat → Nat
  | [], _, r => 2 ^ r
  | i :: M, l, r => if memB l i then wayD (needN (sumL l)) (l.getD i.toNat 0).toNat (2 ^ needN (sumL l) - (sumL l).toNat) (wayN m M (l.set i.toNat 0)) m r else 0
theorem need_pow {n : Int} (h : 1 ≤ n) (h2 : n < 9223372036854775808) : needN n ≤ 63 ∧ n.toNat ≤ 2 ^ needN n := by
  by_cases h1 : n = 1
  · subst h1; exact ⟨by decide, by decide⟩
  · have e : needN n = (n - 1).toNat.log2 + 1 := by
      unfold needN Wd.bitsL
      rw [if_neg (by omega), if_neg (by omega)]
    obtain ⟨x, hx⟩ : ∃ x, (n - 1).toNat = x := ⟨_, rfl⟩
    rw [hx] at e
    have h3 := Nat.log2_self_le (n := x) (by omega)
    have h4 := Nat.lt_log2_self (n := x)
    rw [e]
    refine ⟨?_, by omega⟩
    rcases Nat.lt_or_ge x.log2 63 with h5 | h5
    · omega
    · have h6 : 9223372036854775808 ≤ 2 ^ x.log2 := Nat.le_trans (by decide) (Nat.pow_le_pow_right (n := 2) (by omega) h5)
      omega
theorem sum_ge {l : List Int} (hz : ∀ z ∈ l, 0 ≤ z) {k : Nat} (hk : k < l.length) : l.getD k 0 ≤ sumL l := by
  have h1 := preL_next hk
  have h2 := preL_nn hz k
  have h3 := preL_le hz (k + 1)
  omega
theorem sum_set {l : List Int} (hz : ∀ z ∈ l, 0 ≤ z) (k : Nat) : sumL (l.set k 0) ≤ sumL l := by
  by_cases hk : k < l.length
  · have h := preL_set (l := l) 0 hk l.length
    have e1 : preL (l.set k 0) l.length = sumL (l.set k 0) := by
      have := preL_all (l.set k 0)
      rwa [List.length_set] at this
    rw [e1, preL_all, if_pos hk] at h
    have := hz _ (getD_in hk)
    omega
  · rw [List.set_eq_of_length_le (by omega)]
    exact Int.le_refl _
theorem comH_cnt (m : Nat) : ∀ (M l : List Int) (r : Nat), (∀ z ∈ l, 0 ≤ z) → sumL l < 9223372036854775808 → cnt (comH m M l r) (2 ^ r) = wayN m M l r
  | [], l, r, _, _ => cnt_all _
  | i :: M, l, r, hz, hs => by
    rw [wayN]
    by_cases hm : memB l i
    · rw [if_pos hm]
      obtain ⟨h0, h1, h2⟩ := hm
      have hk : i.toNat < l.length := by omega
      have hge := sum_ge hz hk
      obtain ⟨hn1, hn2⟩ := need_pow (n := sumL l) (by omega) hs
      have hown := own_all hz hk (b := (sumL l).toNat) (by omega)
      have hst : sumB (fun v => if ownP l i.toNat v = true then 1 else 0) (sumL l).toNat = (l.getD i.toNat 0).toNat := by omega
      have hg : (fun r => cnt (comH m M (l.set i.toNat 0) r) (2 ^ r)) = wayN m M (l.set i.toNat 0) := funext fun r => comH_cnt m M (l.set i.toNat 0) r (set_nn hz _) (by have := sum_set hz i.toNat; omega)
      have hc := attD_cnt (own := ownP l i.toNat) (g := comH m M (l.set i.toNat 0)) hn2 m r
      rw [hst, hg] at hc
      rw [← hc]
      exact cnt_congr _ (fun y _ => by rw [comH, decide_eq_true (show memB l i from ⟨h0, h1, h2⟩), Bool.true_and])
    · rw [if_neg hm, cnt_congr (Q := fun _ => false) _ (fun y _ => by rw [comH, decide_eq_false hm, Bool.false_and]), cnt_none]
end
section
def Lim (l : List Int) : Prop := ∀ z ∈ l, 0 ≤ z ∧ z < 4294967296
def valL : List Int → Nat
  | [] => 0
  | x :: l => x.toNat + 4294967296 * valL l
def trimL : List Int → List Int
  | [] => []
  | x :: l => if trimL l = [] ∧ x = 0 then [] else x :: trimL l
def natL (n : Nat) : List Int := if h : n = 0 then [] else ((n % 4294967296 : Nat) : Int) :: natL (n / 4294967296)
  termination_by n
  decreasing_by exact Nat.div_lt_self (by omega) (by omega)
theorem natL_zero : natL 0 = [] := by rw [natL]; rfl
theorem natL_pos {n : Nat} (h : n ≠ 0) : natL n = ((n % 4294967296 : Nat) : Int) :: natL (n / 4294967296) := by rw [natL, dif_neg h]
theorem Lim.nil : Lim [] := fun z h => by cases h
theorem Lim.cons {x : Int} {l : List Int} (h : 0 ≤ x ∧ x < 4294967296) (hl : Lim l) : Lim (x :: l) := fun z hz => by
  rcases List.mem_cons.1 hz with rfl | hz
  · exact h
  · exact hl z hz
theorem Lim.hd {x : Int} {l : List Int} (h : Lim (x :: l)) : 0 ≤ x ∧ x < 4294967296 := h x (by simp)
theorem Lim.tl {x : Int} {l : List Int} (h : Lim (x :: l)) : Lim l := fun z hz => h z (by simp [hz])
theorem Lim.app {l m : List Int} (hl : Lim l) (hm : Lim m) : Lim (l ++ m) := fun z hz => by
  rcases List.mem_append.1 hz with h | h
  · exact hl z h
  · exact hm z h
theorem Lim.take {l : List Int} (h : Lim l) (k : Nat) : Lim (l.take k) := fun z hz => h z (List.mem_of_mem_take hz)
theorem Lim.drop {l : List Int} (h : Lim l) (k : Nat) : Lim (l.drop k) := fun z hz => h z (List.mem_of_mem_drop hz)
theorem Lim.getD {l : List Int} (h : Lim l) (k : Nat) : 0 ≤ l.getD k 0 ∧ l.getD k 0 < 4294967296 := by
  rw [List.getD_eq_getElem?_getD]
  by_cases hk : k < l.length
  · rw [List.getElem?_eq_getElem hk]; exact h _ (List.getElem_mem hk)
  · rw [List.getElem?_eq_none (by omega)]; exact ⟨Int.le_refl _, by show (0 : Int) < 4294967296; omega⟩
theorem Lim.set {l : List Int} (h : Lim l) (k : Nat) {x : Int} (hx : 0 ≤ x ∧ x < 4294967296) : Lim (l.set k x) := fun z hz => by
  rcases List.mem_or_eq_of_mem_set hz with h1 | rfl
  · exact h z h1
  · exact hx
theorem Lim.rep (n : Nat) : Lim (List.replicate n 0) := fun z hz => by rw [List.eq_of_mem_replicate hz]; omega
theorem natL_lim (n : Nat) : Lim (natL n) := by
  induction n using Nat.strongRecOn with
  | ind n ih =>
    by_cases h : n = 0
    · subst h; rw [natL_zero]; exact Lim.nil
    · rw [natL_pos h]
      exact Lim.cons (by omega) (ih _ (Nat.div_lt_self (by omega) (by omega)))
theorem natL_val (n : Nat) : valL (natL n) = n := by
  induction n using Nat.strongRecOn with
  | ind n ih =>
    by_cases h : n = 0
    · subst h; rw [natL_zero]; rfl
    · rw [natL_pos h, valL, ih _ (Nat.div_lt_self (by omega) (by omega)), Int.toNat_natCast]
      omega
theorem natL_ne {n : Nat} (h : n ≠ 0) : natL n ≠ [] := by rw [natL_pos h]; simp
theorem natL_nil {n : Nat} (h : natL n = []) : n = 0 := Decidable.byContradiction fun hn => natL_ne hn h
theorem trimL_natL (n : Nat) : trimL (natL n) = natL n := by
  induction n using Nat.strongRecOn with
  | ind n ih =>
    by_cases h : n = 0
    · subst h; rw [natL_zero]; rfl
    · rw [natL_pos h, trimL, ih _ (Nat.div_lt_self (by omega) (by omega)), if_neg]
      rintro ⟨h1, h2⟩
      have := natL_nil h1
      omega
theorem trimL_eq {l : List Int} (h : Lim l) : trimL l = natL (valL l) := by
  induction l with
  | nil => rw [valL, natL_zero]; rfl
  | cons x l ih =>
    have hx := h.hd
    rw [trimL, ih h.tl]
    by_cases hz : valL (x :: l) = 0
    · have h1 : valL l = 0 := by rw [valL] at hz; omega
      have h2 : x = 0 := by rw [valL] at hz; omega
      rw [hz, h1, natL_zero, if_pos ⟨rfl, h2⟩]
    · rw [natL_pos hz]
      have e1 : valL (x :: l) % 4294967296 = x.toNat := by rw [valL]; omega
      have e2 : valL (x :: l) / 4294967296 = valL l := by rw [valL]; omega
      rw [e1, e2, Int.toNat_of_nonneg hx.1, if_neg]
      rintro ⟨h1, h2⟩
      have h3 := natL_nil h1
      apply hz
      rw [valL, h3, h2]
      rfl
theorem valL_app (l m : List Int) : valL (l ++ m) = valL l + 4294967296 ^ l.length * valL m := by
  induction l with
  | nil => simp [valL]
  | cons x l ih =>
    rw [List.cons_append, valL, valL, ih, List.length_cons, Nat.pow_succ, Nat.mul_add, Nat.mul_comm (4294967296 ^ l.length) 4294967296, Nat.mul_assoc]
    omega
theorem valL_lt {l : List Int} (h : Lim l) : valL l < 4294967296 ^ l.length := by
  induction l with
  | nil => exact Nat.one_pos
  | cons x l ih =>
    have h1 := ih h.tl
    have h2 := h.hd
    rw [valL, List.length_cons, Nat.pow_succ, Nat.mul_comm]
    generalize 4294967296 ^ l.length = p at *
    omega
theorem valL_rep (n : Nat) : valL (List.replicate n 0) = 0 := by
  induction n with
  | zero => rfl
  | succ n ih => rw [List.replicate_succ, valL, ih]; rfl
theorem valL_take_drop (l : List Int) (k : Nat) (hk : k ≤ l.length) : valL l = valL (l.take k) + 4294967296 ^ k * valL (l.drop k) := by
  conv => lhs; rw [← List.take_append_drop k l, valL_app]
  rw [List.length_take, Nat.min_eq_left hk]
theorem valL_drop_getD (l : List Int) (k : Nat) : valL (l.drop k) = (l.getD k 0).toNat + 4294967296 * valL (l.drop (k + 1)) := by
  by_cases hk : k < l.length
  · rw [List.drop_eq_getElem_cons hk, valL, List.getD_eq_getElem?_getD, List.getElem?_eq_getElem hk]
    rfl
  · rw [List.drop_eq_nil_of_le (by omega), List.drop_eq_nil_of_le (by omega), List.getD_eq_getElem?_getD, List.getElem?_eq_none (by omega)]
    rfl
theorem valL_take_succ (l : List Int) (k : Nat) (hk : k < l.length) : valL (l.take (k + 1)) = valL (l.take k) + 4294967296 ^ k * (l.getD k 0).toNat := by
  rw [List.take_add_one, valL_app, List.getElem?_eq_getElem hk, List.length_take, Nat.min_eq_left (by omega), List.getD_eq_getElem?_getD, List.getElem?_eq_getElem hk]
  show _ + _ * ((l[k]).toNat + 4294967296 * 0) = _ + _ * (l[k]).toNat
  rw [Nat.mul_zero, Nat.add_zero]
theorem valL_set (l : List Int) (k : Nat) (x : Int) (hk : k < l.length) : valL (l.set k x) + 4294967296 ^ k * (l.getD k 0).toNat = valL l + 4294967296 ^ k * x.toNat := by
  induction l generalizing k with
  | nil => cases hk
  | cons y l ih =>
    cases k with
    | zero =>
      show x.toNat + 4294967296 * valL l + 1 * y.toNat = y.toNat + 4294967296 * valL l + 1 * x.toNat
      omega
    | succ k =>
      have h := ih k (by simpa using hk)
      show y.toNat + 4294967296 * valL (l.set k x) + 4294967296 ^ (k + 1) * (l.getD k 0).toNat = y.toNat + 4294967296 * valL l + 4294967296 ^ (k + 1) * x.toNat
      rw [Nat.pow_succ, Nat.mul_comm (4294967296 ^ k) 4294967296, Nat.mul_assoc, Nat.mul_assoc]
      generalize 4294967296 ^ k * (l.getD k 0).toNat = p at *
      generalize 4294967296 ^ k * x.toNat = q at *
      omega
def lastOk (l : List Int) : Bool := match l.getLast? with
  | none => true
  | some x => x != 0
def rightN (l : List Int) : Bool := decide (l.length ≤ 256) && lastOk l
theorem lastOk_can {l : List Int} : lastOk l = true ↔ trimL l = l := by
  induction l with
  | nil => exact ⟨fun _ => rfl, fun _ => rfl⟩
  | cons x l ih =>
    cases l with
    | nil =>
      show (x != 0) = true ↔ (if ([] : List Int) = [] ∧ x = 0 then [] else [x]) = [x]
      by_cases hx : x = 0
      · simp [hx]
      · simp [hx]
    | cons y l =>
      have e : lastOk (x :: y :: l) = lastOk (y :: l) := by simp [lastOk, List.getLast?_cons_cons]
      rw [e, ih, show trimL (x :: y :: l) = (if trimL (y :: l) = [] ∧ x = 0 then [] else x :: trimL (y :: l)) from rfl]
      constructor
      · intro h; rw [h, if_neg (by rintro ⟨h1, _⟩; cases h1)]
      · intro h
        split at h
        · cases h
        · injection h
theorem can_eq {l : List Int} (h : Lim l) (hc : lastOk l = true) : l = natL (valL l) := by rw [← trimL_eq h, lastOk_can.1 hc]
theorem natL_ok (n : Nat) : lastOk (natL n) = true := lastOk_can.2 (trimL_natL n)
theorem natL_len (n k : Nat) : (natL n).length ≤ k ↔ n < 4294967296 ^ k := by
  induction k generalizing n with
  | zero =>
    rw [Nat.pow_zero]
    by_cases h : n = 0
    · subst h; rw [natL_zero]; simp
    · have := natL_ne h
      have h2 : (natL n).length ≠ 0 := fun h3 => this (List.eq_nil_of_length_eq_zero h3)
      constructor
      · omega
      · omega
  | succ k ih =>
    by_cases h : n = 0
    · subst h
      rw [natL_zero]
      exact ⟨fun _ => Nat.pow_pos (by omega), fun _ => by simp⟩
    · rw [natL_pos h, List.length_cons, Nat.pow_succ, Nat.succ_le_succ_iff, ih, Nat.div_lt_iff_lt_mul (by omega)]
theorem trimL_len (l : List Int) : (trimL l).length ≤ l.length := by
  induction l with
  | nil => exact Nat.le_refl _
  | cons x l ih =>
    rw [trimL]
    split
    · simp
    · simp [ih]
theorem trimL_take (l : List Int) : trimL l = l.take (trimL l).length := by
  induction l with
  | nil => rfl
  | cons x l ih =>
    rw [trimL]
    split
    · rfl
    · rw [List.length_cons, List.take_succ_cons, ← ih]
theorem trimL_snoc_zero (l : List Int) : trimL (l ++ [0]) = trimL l := by
  induction l with
  | nil => rfl
  | cons x l ih => rw [List.cons_append, trimL, ih, trimL]
end
section
open Go.ChangeShapes Go.WideShapes Go.ChangeAt Go.RowKit
theorem info_u32d : (Tryz.prog.info? 62).map (fun i => (i.zero, i.size, i.bytes)) = some (some (.int .u32 0), 1, 4) := by kernel_rfl
def RetN (w : World) (zs : List Int) (e : Ending) (w' : World) : Prop := ∃ A c, e = .returned (.slice A zs.length c) ∧ zs.length ≤ c ∧ c ≤ maxLen ∧ Rd .u32 w' w'.heap.size A zs.length zs ∧ Below w.heap.size w w'
theorem ret_boolN {p q : Bool} (h : p = q) : Ending.returned (.bool p) = .returned (.bool q) := by rw [h]
theorem ret_slice {A : Option Addr} {n m c : Nat} (h : n = m) : Ending.returned (.slice A n c) = .returned (.slice A m c) := by rw [h]
theorem ret_sliceE {A : Option Addr} {n m c : Nat} {e : Int} (h : n = m) : Ending.returned (.tuple #[.slice A n c, .int .i64 e]) = .returned (.tuple #[.slice A m c, .int .i64 e]) := by rw [h]
theorem rd_two32 (w : World) (e : TypeId) (x y : Int) : Rd .u32 (w.alloc (.cells #[.int .u32 x, .int .u32 y] e)) (w.alloc (.cells #[.int .u32 x, .int .u32 y] e)).heap.size (some ⟨w.heap.size, 0, none⟩) 2 [x, y] := by
  refine ⟨rfl, fun _ => ⟨w.heap.size, 0, rfl, (Blk.new w e #[.int .u32 x, .int .u32 y]).lt, fun j hj => ?_⟩⟩
  have : j = 0 ∨ j = 1 := by omega
  rcases this with rfl | rfl
  · rw [(Blk.new w e #[.int .u32 x, .int .u32 y]).cell]; rfl
  · rw [(Blk.new w e #[.int .u32 x, .int .u32 y]).cell]; rfl
theorem rd_trim {w : World} {B n : Nat} {A : Option Addr} {zs : List Int} (h : Rd .u32 w B A n zs) : Rd .u32 w B A (trimL zs).length (trimL zs) := by
  have h1 := h.upto (j := (trimL zs).length) (by rw [← h.len]; exact trimL_len zs)
  rwa [← trimL_take] at h1
theorem rightN_big {l : List Int} (h : 256 < l.length) : rightN l = false := by unfold rightN; rw [decide_eq_false (by omega)]; rfl
theorem lastOk_at {l : List Int} {m : Nat} (h : l.length = m + 1) : lastOk l = (l.getD m 0 != 0) := by
  have e : l.getLast? = some (l.getD m 0) := by
    rw [List.getLast?_eq_getElem?, h, Nat.add_sub_cancel, List.getD_eq_getElem?_getD, List.getElem?_eq_getElem (by omega)]
    rfl
  unfold lastOk
  rw [e]
theorem rightN_at {l : List Int} {m : Nat} (h : l.length = m + 1) (hm : m + 1 ≤ 256) : rightN l = (l.getD m 0 != 0) := by
  unfold rightN
  rw [decide_eq_true (by omega), Bool.true_and, lastOk_at h]
theorem trimL_zero {l : List Int} {k : Nat} (h : k < l.length) (hz : l.getD k 0 = 0) : trimL (l.take k) = trimL (l.take (k + 1)) := by
  rw [List.take_add_one, List.getElem?_eq_getElem h]
  rw [List.getD_eq_getElem?_getD, List.getElem?_eq_getElem h] at hz
  have hz2 : l[k] = 0 := hz
  show _ = trimL (l.take k ++ [l[k]])
  rw [hz2, trimL_snoc_zero]
theorem trimL_stop {l : List Int} {k : Nat} (h : k < l.length) (hz : l.getD k 0 ≠ 0) : (trimL (l.take (k + 1))).length = k + 1 := by
  have hl : (l.take (k + 1)).length = k + 1 := by rw [List.length_take]; omega
  have e : (l.take (k + 1)).getD k 0 = l.getD k 0 := by
    rw [List.getD_eq_getElem?_getD, List.getD_eq_getElem?_getD, List.getElem?_take, if_pos (by omega)]
  have h1 : lastOk (l.take (k + 1)) = true := by
    rw [lastOk_at hl, e]
    simpa [bne] using hz
  rw [lastOk_can.1 h1, hl]
theorem carry_step (P p q r x y X Y : Nat) (h : p + 4294967296 * q = x + y + r) : P * p + P * 4294967296 * (q + X + Y) = P * (r + (x + 4294967296 * X) + (y + 4294967296 * Y)) := by
  rw [Nat.mul_assoc, ← Nat.mul_add]
  congr 1
  omega
theorem mul_step (P p q r o x y Y Vo Vn T : Nat) (h : p + 4294967296 * q = o + x * y + r) (hs : Vn + P * o = Vo + P * p) (hv : Vo + P * (r + x * (y + 4294967296 * Y)) = T) : Vn + P * 4294967296 * (q + x * Y) = T := by
  have h1 : P * (p + 4294967296 * q) = P * (o + x * y + r) := by rw [h]
  have h2 : P * (r + x * (y + 4294967296 * Y)) = P * r + P * (x * y) + P * (4294967296 * (x * Y)) := by
    rw [← Nat.mul_add, ← Nat.mul_add]
    congr 1
    rw [Nat.mul_add, Nat.mul_left_comm x 4294967296 Y]
    omega
  have h3 : P * 4294967296 * (q + x * Y) = P * (4294967296 * q) + P * (4294967296 * (x * Y)) := by rw [Nat.mul_assoc, ← Nat.mul_add, Nat.mul_add]
  rw [Nat.mul_add, Nat.mul_add, Nat.mul_add] at h1
  rw [h2] at hv
  rw [h3]
  generalize P * (4294967296 * (x * Y)) = a1 at *
  generalize P * (4294967296 * q) = a2 at *
  generalize P * (x * y) = a3 at *
  generalize P * p = a4 at *
  generalize P * o = a5 at *
  generalize P * r = a6 at *
  omega
theorem limb_zero {l : List Int} (h : Lim l) {j : Nat} (hv : valL l < 4294967296 ^ j) : l.getD j 0 = 0 := by
  by_cases hj : j < l.length
  · have h1 := valL_take_drop l j (by omega)
    rw [valL_drop_getD l j] at h1
    have h2 := h.getD j
    have h3 : (l.getD j 0).toNat = 0 := by
      rcases Nat.eq_zero_or_pos (l.getD j 0).toNat with h4 | h4
      · exact h4
      · have h5 := Nat.le_mul_of_pos_right (4294967296 ^ j) (show 0 < (l.getD j 0).toNat + 4294967296 * valL (l.drop (j + 1)) by omega)
        omega
    omega
  · rw [List.getD_eq_getElem?_getD, List.getElem?_eq_none (by omega)]; rfl
theorem mul_bound {x y : Nat} (hx : x < 4294967296) (hy : y < 4294967296) : x * y ≤ 18446744065119617025 := Nat.mul_le_mul (show x ≤ 4294967295 by omega) (show y ≤ 4294967295 by omega)
theorem intsA_set32 (zs : List Int) (j : Nat) (z : Int) : (intsA .u32 zs).setIfInBounds j (.int .u32 z) = intsA .u32 (zs.set j z) := by simp [intsA, List.map_set]
theorem size_u32s : (Tryz.prog.info? 62).map (·.size) = some 1 := by kernel_rfl
def NatS (w : World) (g : Nat) (out : List Int) (w' : World) : Prop := Blk w' g 62 (intsA .u32 out) ∧ w.heap.size ≤ g ∧ Below w.heap.size w w'
theorem NatS.blk {w w' : World} {g : Nat} {out : List Int} (h : NatS w g out w') : Blk w' g 62 (intsA .u32 out) := h.1
theorem NatS.bel {w w' : World} {g : Nat} {out : List Int} (h : NatS w g out w') : Below w.heap.size w w' := h.2.2
theorem NatS.drew {w w' : World} {g : Nat} {out : List Int} (h : NatS w g out w') : NatS w g out w'.drew := ⟨h.1, h.2.1, h.2.2.trans ((Below.refl _ _).drew)⟩
theorem NatS.drewN {w w' : World} {g : Nat} {out : List Int} (h : NatS w g out w') (n : Nat) : NatS w g out (w'.drewN n) := ⟨h.1, h.2.1, below_drewN h.2.2 n⟩
theorem NatS.below {w w' w'' : World} {g : Nat} {out : List Int} (h : NatS w g out w') (hb : Below w'.heap.size w' w'') : NatS w g out w'' := ⟨h.1.below hb h.1.lt, h.2.1, h.2.2.trans (hb.mono h.2.2.size)⟩
theorem NatS.set {w w' w'' : World} {g j : Nat} {out : List Int} {z : Int} (h : NatS w g out w') (hk : Blk w'' g 62 ((intsA .u32 out).setIfInBounds j (.int .u32 z))) (ho : Only g w' w'') : NatS w g (out.set j z) w'' := ⟨by rw [← intsA_set32]; exact hk, h.2.1, h.2.2.trans (ho.below h.2.1 h.2.2.size)⟩
theorem NatS.rd {w w' : World} {g : Nat} {out : List Int} (h : NatS w g out w') : Rd .u32 w' w'.heap.size (some ⟨g, 0, none⟩) out.length out := ⟨rfl, fun _ => ⟨g, 0, rfl, h.1.lt, fun j hj => by rw [h.1.cell, Nat.zero_add, intsA_at _ _ _ hj]⟩⟩
theorem NatS.at_ {w w' : World} {g : Nat} {out : List Int} (h : NatS w g out w') {j : Nat} (hj : j < out.length) : w'.cell? ⟨g, j, none⟩ = some (.int .u32 (out.getD j 0)) := by rw [h.1.cell, intsA_at _ _ _ hj]
theorem nat_lt {out : List Int} {j : Nat} (hj : j < out.length) : j < (intsA .u32 out).size := by rw [intsA_size]; exact hj
end
section
open Go.ChangeShapes Go.WideShapes Go.ChangeAt Go.RowKit
structure NRow where
  A : Option Addr
  n : Nat
  c : Nat
  zs : List Int
def NRow.val (r : NRow) : Value := .slice r.A r.n r.c
def RdNs (w : World) (B : Nat) (A : Option Addr) (n : Nat) (rs : List NRow) : Prop :=
  rs.length = n ∧ (0 < n → ∃ b off, A = some ⟨b, off, none⟩ ∧ b < B ∧ ∀ (j : Nat) (r : NRow), rs[j]? = some r → w.cell? ⟨b, off + j, none⟩ = some r.val) ∧ ∀ r ∈ rs, Rd .u32 w B r.A r.n r.zs ∧ r.n ≤ r.c ∧ r.c ≤ maxLen ∧ Lim r.zs
theorem RdNs.below {w w' : World} {B n : Nat} {A : Option Addr} {rs : List NRow} (h : RdNs w B A n rs) (hb : Below B w w') : RdNs w' B A n rs :=
  ⟨h.1, fun hn => by
    obtain ⟨b, off, e, hlt, hc⟩ := h.2.1 hn
    exact ⟨b, off, e, hlt, fun j r hj => (hb.cell (p := ⟨b, off + j, none⟩) hlt).trans (hc j r hj)⟩, fun r hr => ⟨(h.2.2 r hr).1.below hb, (h.2.2 r hr).2⟩⟩
theorem RdNs.mono {w : World} {B B' n : Nat} {A : Option Addr} {rs : List NRow} (h : RdNs w B A n rs) (hB : B ≤ B') : RdNs w B' A n rs :=
  ⟨h.1, fun hn => by
    obtain ⟨b, off, e, hlt, hc⟩ := h.2.1 hn
    exact ⟨b, off, e, by omega, hc⟩, fun r hr => ⟨(h.2.2 r hr).1.mono hB, (h.2.2 r hr).2⟩⟩
theorem RdNs.to {w w' : World} {n : Nat} {A : Option Addr} {rs : List NRow} (h : RdNs w w.heap.size A n rs) (hb : Below w.heap.size w w') : RdNs w' w'.heap.size A n rs := (h.below hb).mono hb.size
theorem RdNs.row {w : World} {B n : Nat} {A : Option Addr} {rs : List NRow} (h : RdNs w B A n rs) {j : Nat} (hj : j < n) : ∃ r b off, rs[j]? = some r ∧ A = some ⟨b, off, none⟩ ∧ w.cell? ⟨b, off + j, none⟩ = some (.slice r.A r.n r.c) ∧ Rd .u32 w B r.A r.n r.zs ∧ r.n ≤ r.c ∧ r.c ≤ maxLen ∧ Lim r.zs ∧ rs.drop j = r :: rs.drop (j + 1) := by
  have hl : j < rs.length := by rw [h.1]; exact hj
  obtain ⟨b, off, e, _, hc⟩ := h.2.1 (by omega)
  have hr := h.2.2 _ (List.getElem_mem hl)
  exact ⟨rs[j], b, off, List.getElem?_eq_getElem hl, e, hc j _ (List.getElem?_eq_getElem hl), hr.1, hr.2.1, hr.2.2.1, hr.2.2.2, List.drop_eq_getElem_cons hl⟩
def allN (rs : List NRow) : Bool := rs.all fun r => rightN r.zs
def addGo : Nat → List NRow → Int × List Int
  | s, [] => (0, natL s)
  | s, r :: l => if 256 < (natL (s + valL r.zs)).length then (11, []) else addGo (s + valL r.zs) l
def mulGo : Nat → List NRow → Int × List Int
  | s, [] => (0, natL s)
  | s, r :: l => if 256 < (natL (s * valL r.zs)).length then (11, []) else mulGo (s * valL r.zs) l
def addR (rs : List NRow) : Int × List Int := if allN rs = true then addGo 0 rs else (1, [])
def mulR (rs : List NRow) : Int × List Int := if allN rs = true then mulGo 1 rs else (1, [])
theorem allN_zs {rs rs' : List NRow} (h : rs.map (·.zs) = rs'.map (·.zs)) : allN rs = allN rs' := by
  unfold allN
  have e : ∀ l : List NRow, (l.all fun r => rightN r.zs) = (l.map (·.zs)).all rightN := fun l => by rw [List.all_map]; rfl
  rw [e, e, h]
theorem mulGo_zs {rs rs' : List NRow} (h : rs.map (·.zs) = rs'.map (·.zs)) (s : Nat) : mulGo s rs = mulGo s rs' := by
  induction rs generalizing rs' s with
  | nil => cases rs' with
    | nil => rfl
    | cons r l => cases h
  | cons r l ih => cases rs' with
    | nil => cases h
    | cons r' l' =>
      rw [List.map_cons, List.map_cons] at h
      injection h with h1 h2
      rw [mulGo, mulGo, h1, ih h2]
theorem mulR_zs {rs rs' : List NRow} (h : rs.map (·.zs) = rs'.map (·.zs)) : mulR rs = mulR rs' := by unfold mulR; rw [allN_zs h, mulGo_zs h]
theorem rightN_len {l : List Int} (h : rightN l = true) : l.length ≤ 256 := by
  unfold rightN at h
  rw [Bool.and_eq_true] at h
  exact of_decide_eq_true h.1
theorem rightN_can {l : List Int} (hl : Lim l) (h : rightN l = true) : l = natL (valL l) := by
  unfold rightN at h
  rw [Bool.and_eq_true] at h
  exact can_eq hl h.2
theorem rightN_natL {n : Nat} (h : (natL n).length ≤ 256) : rightN (natL n) = true := by unfold rightN; rw [decide_eq_true h, natL_ok]; rfl
def RetNE (w : World) (r : Int × List Int) (e : Ending) (w' : World) : Prop := ∃ A c, e = .returned (.tuple #[.slice A r.2.length c, .int .i64 r.1]) ∧ r.2.length ≤ c ∧ c ≤ maxLen ∧ Rd .u32 w' w'.heap.size A r.2.length r.2 ∧ Below w.heap.size w w'
theorem RetNE.nil {w w' : World} (e : Int) (hb : Below w.heap.size w w') : RetNE w (e, []) (.returned (.tuple #[.slice none 0 0, .int .i64 e])) w' := ⟨none, 0, rfl, Nat.le_refl _, by simp [maxLen], Rd.none_, hb⟩
def twoR (k : Int) : Int × List Int := if 0 ≤ k ∧ k ≤ 8191 then (0, natL (2 ^ k.toNat)) else (1, [])
theorem two_limbs (k : Nat) : List.replicate (k / 32) 0 ++ [((2 ^ (k % 32) : Nat) : Int)] = natL (2 ^ k) := by
  have hp : 2 ^ (k % 32) ≤ 2 ^ 31 := Nat.pow_le_pow_right (by omega) (by omega)
  have hp0 : 0 < 2 ^ (k % 32) := Nat.pow_pos (by omega)
  have hl : Lim (List.replicate (k / 32) 0 ++ [((2 ^ (k % 32) : Nat) : Int)]) := (Lim.rep _).app (Lim.cons ⟨by omega, by omega⟩ Lim.nil)
  have hv : valL (List.replicate (k / 32) 0 ++ [((2 ^ (k % 32) : Nat) : Int)]) = 2 ^ k := by
    rw [valL_app, valL_rep, List.length_replicate, Nat.zero_add, show (4294967296 : Nat) = 2 ^ 32 from rfl, ← Nat.pow_mul]
    show 2 ^ (32 * (k / 32)) * (((2 ^ (k % 32) : Nat) : Int).toNat + 4294967296 * 0) = 2 ^ k
    rw [Nat.mul_zero, Nat.add_zero, Int.toNat_natCast, ← Nat.pow_add]
    congr 1
    omega
  have ho : lastOk (List.replicate (k / 32) 0 ++ [((2 ^ (k % 32) : Nat) : Int)]) = true := by
    unfold lastOk
    rw [List.getLast?_append]
    show (((2 ^ (k % 32) : Nat) : Int) != 0) = true
    rw [bne_iff_ne]
    omega
  rw [can_eq hl ho, hv]
def rowOf (zs : List Int) : NRow := ⟨none, 0, 0, zs⟩
def powR (zs : List Int) (k : Int) : Int × List Int := if rightN zs = true ∧ 0 ≤ k ∧ k ≤ 64 then mulR (List.replicate k.toNat (rowOf zs)) else (1, [])
theorem rep_set (q : Nat) (x : Int) : (List.replicate (q + 1) 0).set q x = List.replicate q 0 ++ [x] := by
  rw [List.replicate_succ', List.set_append_right _ _ (by simp)]
  simp
theorem allN_step {rs : List NRow} {r : NRow} {k : Nat} (h : rs.drop k = r :: rs.drop (k + 1)) : allN (rs.drop k) = (rightN r.zs && allN (rs.drop (k + 1))) := by rw [h]; rfl
theorem allN_mem {rs : List NRow} (h : allN rs = true) {r : NRow} (hr : r ∈ rs) : rightN r.zs = true := List.all_eq_true.1 h r hr
theorem addGo_step {rs : List NRow} {r : NRow} {k s : Nat} (h : rs.drop k = r :: rs.drop (k + 1)) : addGo s (rs.drop k) = if 256 < (natL (s + valL r.zs)).length then (11, []) else addGo (s + valL r.zs) (rs.drop (k + 1)) := by rw [h]; rfl
theorem mulGo_step {rs : List NRow} {r : NRow} {k s : Nat} (h : rs.drop k = r :: rs.drop (k + 1)) : mulGo s (rs.drop k) = if 256 < (natL (s * valL r.zs)).length then (11, []) else mulGo (s * valL r.zs) (rs.drop (k + 1)) := by rw [h]; rfl
theorem drop_end {rs : List NRow} {n : Nat} (h : rs.length = n) : rs.drop n = [] := List.drop_eq_nil_of_le (by omega)
theorem natL_one : natL 1 = [1] := by rw [natL_pos (by omega)]; show [((1 % 4294967296 : Nat) : Int)] ++ natL (1 / 4294967296) = [1]; rw [show 1 / 4294967296 = 0 from rfl, natL_zero]; rfl
theorem info_nat : (Tryz.prog.info? 49).map (fun i => (i.zero, i.size, i.bytes)) = some (some (.slice none 0 0), 1, 24) := by kernel_rfl
theorem pow_two_le {i : Nat} (h : i ≤ 31) : 2 ^ i ≤ 2147483648 := Nat.pow_le_pow_right (n := 2) (by omega) h
theorem powR_zs {zs : List Int} {k : Nat} {rs : List NRow} (hr : rightN zs = true) (hk : k ≤ 64) (h : rs.map (·.zs) = List.replicate k zs) : mulR rs = powR zs (k : Int) := by
  unfold powR
  rw [if_pos ⟨hr, by omega, by omega⟩, Int.toNat_natCast]
  exact mulR_zs (by rw [h, List.map_replicate]; rfl)
theorem ext_getDN {l m : List Int} (h : l.length = m.length) (h2 : ∀ j, j < l.length → l.getD j 0 = m.getD j 0) : l = m := by
  apply List.ext_getElem h
  intro j h3 h4
  have h5 := h2 j h3
  simpa [List.getD_eq_getElem?_getD, List.getElem?_eq_getElem h3, List.getElem?_eq_getElem h4] using h5
end
section
open Go.ChangeShapes Go.WideShapes Go.ChangeAt Go.RowKit
def Frs (w : World) (A : Option Addr) : Prop := ∀ b off, A = some ⟨b, off, none⟩ → w.heap.size ≤ b
theorem Frs.none (w : World) : Frs w none := fun b off h => by cases h
theorem Frs.of_own {w w' : World} {e : TypeId} {k : IntKind} {A : Option Addr} {n c : Nat} {zs : List Int} (h : OwnI w' w.heap.size e k (.slice A n c) zs) : Frs w A := fun b off hA => by subst hA; exact h.block_ge b rfl
theorem Frs.apt {w : World} {A : Option Addr} {n g : Nat} (h : Frs w A) (hg : g < w.heap.size) : Apt n A g := fun b off _ hA => by have := h b off hA; omega
theorem Frs.from {w w' : World} {A : Option Addr} (h : Frs w' A) (hs : w.heap.size ≤ w'.heap.size) : Frs w A := fun b off hA => Nat.le_trans hs (h b off hA)
def RetComm (w : World) (s : Src) (A : Option Addr) (r : List Int × Src × Int) (e : Ending) (w' : World) : Prop :=
  ∃ A' c' AM cM, e = .returned (.tuple #[.slice AM r.1.length cM, .agg (srcV r.2.1 A' c'), .int .i64 r.2.2]) ∧ Rd .i64 w' w'.heap.size AM r.1.length r.1 ∧ r.1.length ≤ cM ∧ cM ≤ maxLen ∧ Frs w AM ∧ Rd .u8 w' w'.heap.size A' s.tape.length s.tape ∧ s.tape.length ≤ c' ∧ c' ≤ maxLen ∧ Sep w A A' ∧ Below w.heap.size w w'
def wayOk (M l : List Int) (bits m : Int) : Bool := decide (M.length ≤ 16 ∧ 0 ≤ bits ∧ bits ≤ 256 ∧ 1 ≤ m ∧ m ≤ 8)
def wayR (M : List Int) (bits m : Int) (l : List Int) : Int × List Int := if wayOk M l bits m = true then (if sumL l < 9223372036854775808 then (0, natL (wayN m.toNat M l bits.toNat)) else (11, [])) else (1, [])
end
section
open Go.ChangeShapes Go.WideShapes Go.ChangeAt Go.RowKit
section
variable {ops : Array Oper} {rest : List Oper} {o : Oper} {a : Act} {w : World} {Q : Exit → Act → World → Prop}
theorem run_build_int_2 (x y : Int) (w : World) : (Instr.buildSlice 31 2 #[(0, .int .i64 x), (1, .int .i64 y)]).run Tryz.prog w = .ok (.slice (some ⟨w.heap.size, 0, none⟩) 2 2) (w.alloc (.cells #[.int .i64 x, .int .i64 y] 3)) := by
  go_simp
theorem wpList_build2i (hw : Region.wanted o (yielded ops a.tmps) = true) (p q : Operand) (ho : o.op = .buildSlice 31 2 #[(0, p), (1, q)]) (x y : Int) (hp : a.eval p = .int .i64 x) (hq : a.eval q = .int .i64 y)
    (h : ∀ g w', Rd .i64 w' w'.heap.size (some ⟨g, 0, none⟩) 2 [x, y] → Below w.heap.size w w' → wpList Tryz.prog ops Q rest (a.put o.dst (.slice (some ⟨g, 0, none⟩) 2 2)) w') : wpList Tryz.prog ops Q (o :: rest) a w := by
  refine wpList_run_gd hw (.slice (some ⟨w.heap.size, 0, none⟩) 2 2) (w.alloc (.cells #[.int .i64 x, .int .i64 y] 3)) ?_ (h _ _ (rd_alloc w _ .i64 [x, y]) ((Below.refl _ _).alloc (Nat.le_refl _) _))
  have hr1 := run_build_int_2 x y w
  unfold execOp
  simp only [ho, List.map_toArray, List.map_cons, List.map_nil, hp, hq]
  change ((Instr.buildSlice 31 2 #[(0, .int .i64 x), (1, .int .i64 y)]) >>= fun v => pure (Next.value v)).run Tryz.prog w = _
  simp only [Sem.run_bind, hr1, Result.andThen_ok, Sem.run_pure]
end
theorem Fx.lit2i {l : List Fact} {w : World} (h : Fx l w) (x y : Int) : Fx (.rdb .i64 (w.alloc (.cells #[.int .i64 x, .int .i64 y] 3)).heap.size (some ⟨w.heap.size, 0, none⟩) 2 [x, y] :: l) (w.alloc (.cells #[.int .i64 x, .int .i64 y] 3)) :=
  Fx.addR h ((Below.refl _ _).alloc (Nat.le_refl _) _) (rd_alloc w _ .i64 [x, y])
theorem Fx.lit1n {l : List Fact} {w : World} (h : Fx l w) (x : Int) : Fx (.rdb .u32 (w.alloc (.cells #[.int .u32 x] 62)).heap.size (some ⟨w.heap.size, 0, none⟩) 1 [x] :: l) (w.alloc (.cells #[.int .u32 x] 62)) :=
  Fx.addR h ((Below.refl _ _).alloc (Nat.le_refl _) _) (rd_alloc w _ .u32 [x])
theorem com_uP {w w' : World} {s X : Src} {A : Option Addr} {M : List Int} {e : Int} {n : Nat} {E : Ending} (hn : M.length = n) (h : RetComm w s A (M, X, e) E w') :
    ∃ A' c' AM cM, E = .returned (.tuple #[.slice AM n cM, .agg (srcV X A' c'), .int .i64 e]) ∧ Rd .i64 w' w'.heap.size AM n M ∧ n ≤ cM ∧ cM ≤ maxLen ∧ Frs w AM ∧ Rd .u8 w' w'.heap.size A' s.tape.length s.tape ∧ s.tape.length ≤ c' ∧ c' ≤ maxLen ∧ Sep w A A' ∧ Below w.heap.size w w' := by
  subst hn
  exact h
theorem mem_cells {b o n : Nat} {M : List Int} {k : IntKind} : ∀ W : World, Rd k W W.heap.size (some ⟨b, o, none⟩) n M → ∀ j, j < n → W.cell? ⟨b, o + j, none⟩ = some (.int k (M.getD j 0)) := fun W h j hj => by
  obtain ⟨g, off, e1, _, e2⟩ := h.at_ (by omega)
  injection e1 with e1
  injection e1 with e1 e3
  subst e1 e3
  exact e2 j hj
theorem info_intdL : (Tryz.prog.info? 3).map (fun i => (i.zero, i.size, i.bytes)) = some (some (.int .i64 0), 1, 8) := by kernel_rfl
theorem wpList_own_copy8i {ops : Array Oper} {rest : List Oper} {o : Oper} {a : Act} {Q : Exit → Act → World → Prop} (W0 : World) (hgd : o.guard = none) (s x : Operand)
    (ho : o.op = .call { callee := .builtin .append, args := #[s, x], argTypes := #[31, 31] })
    (hs : a.eval s = .slice (some ⟨W0.heap.size, 0, none⟩) 0 0) (A : Option Addr) (m c : Nat) (ys : List Int) (hx : a.eval x = .slice A m c) (hr : Rd .i64 W0 W0.heap.size A m ys) (hm : m ≤ 100000000)
    (h : ∀ A7 c7 w', Below W0.heap.size W0 w' → Rd .i64 w' w'.heap.size A7 ys.length ys → Hid (ys.length ≤ c7) → Hid (c7 ≤ maxLen) → wpList Tryz.prog ops Q rest (a.put o.dst (.slice A7 ys.length c7)) w') : wpList Tryz.prog ops Q (o :: rest) a (W0.alloc (.cells #[] 3)) := by
  obtain ⟨ti, hti, hz0, hz1, hzb⟩ := info_parts info_intdL
  have hw : W0.heap.size ≤ (W0.alloc (.cells #[] 3)).heap.size := ((Below.refl _ _).alloc (Nat.le_refl _) (.cells #[] 3)).size
  refine wpList_append_ints _ hgd s x 31 ho W0.heap.size 3 ti _ 8 .i64 Tryz.underlying31 hti hz0 hz1 hzb rfl _ [] hs (own_empty W0 3 .i64 (Nat.le_refl _)) W0.heap.size A m c ys hx (hr.alloc (Nat.le_refl _) _) (by simp [maxLen]; omega) (by simp; omega) hw ?_
  intro v w' hown hg hat
  have hb : Below W0.heap.size W0 w' := (own_empty W0 3 .i64 (Nat.le_refl _)).below_ ((Below.refl _ _).alloc (Nat.le_refl _) _) hw hg
  rw [List.nil_append] at hown
  obtain ⟨A7, c7, rfl, hc7, hm7⟩ := hown.form
  exact h A7 c7 w' hb (OwnI.rd hown rfl) hc7 hm7
end
section
open Go.ChangeShapes Go.WideShapes Go.ChangeAt Go.RowKit
theorem info_intd : (Tryz.prog.info? 3).map (fun i => (i.zero, i.size, i.bytes)) = some (some (.int .i64 0), 1, 8) := by kernel_rfl
theorem OwnI.lt {w : World} {b : Nat} {e : TypeId} {k : IntKind} {v : Value} {zs : List Int} (h : OwnI w b e k v zs) : ∀ g, v.ownBlock = some g → g < w.heap.size := by
  intro g hg
  rcases h.2 with ⟨rfl, _⟩ | ⟨g', cap, cur, rfl, _, hh, _⟩
  · cases hg
  · injection hg with hg
    subst hg
    rcases Nat.lt_or_ge g' w.heap.size with h' | h'
    · exact h'
    · rw [Array.getElem?_eq_none h'] at hh; cases hh
theorem OwnI.grownO {w w' : World} {b b' : Nat} {e e' : TypeId} {k k' : IntKind} {v v' : Value} {zs zs' : List Int} (h : OwnI w b e k v zs) (ho : OwnI w b' e' k' v' zs') (hne : e' ≠ e) (hg : w.grownBy w' v'.ownBlock) : OwnI w' b e k v zs := by
  refine ⟨h.1, ?_⟩
  rcases h.2 with h1 | ⟨g, cap, cur, h1, h2, h3, h4⟩
  · exact .inl h1
  · refine .inr ⟨g, cap, cur, h1, h2, ?_, h4⟩
    exact Blk.grown (w := w) (w' := w') (g := g) (t := e) (cs := cur) h3 ho hne hg
structure ComS (w0 : World) (g3 g7 : Nat) (V Z : Array Value) (A : Option Addr) (L : Nat) (zs : List Int) (gr n cr : Nat) (l : List Int) (ov : Value) (os : List Int) (w : World) : Prop where
  src : DrS w0 g3 g7 V A L zs w
  res : Blk w g7 28 Z
  rest : OwnI w w0.heap.size 24 .u64 (.slice (some ⟨gr, 0, none⟩) n cr) l
  out : OwnI w w0.heap.size 3 .i64 ov os
  len : l.length = n
  ler : w0.heap.size ≤ gr
  apr : Apt L A gr
  apo : ∀ g, ov.ownBlock = some g → Apt L A g
structure NxtS (w0 : World) (g3 g7 g14 gr : Nat) (V2 : Array Value) (A2 : Option Addr) (L : Nat) (zs : List Int) (ov : Value) (w : World) : Prop where
  hand : DrH w0 g7 g14 V2 A2 L zs w
  ap3 : Apt L A2 g3
  apr : Apt L A2 gr
  apo : ∀ g, ov.ownBlock = some g → Apt L A2 g
section
variable {w0 w w' w5 w6 w7 w8 : World} {g3 g7 g14 gr n cr L k : Nat} {V V2 Z : Array Value} {A A2 : Option Addr} {zs l os : List Int} {ov ov' : Value} {z : Int} {cur : Array Value}
theorem ComS.below (h : ComS w0 g3 g7 V Z A L zs gr n cr l ov os w) (hb : Below w.heap.size w w') : ComS w0 g3 g7 V Z A L zs gr n cr l ov os w' :=
  ⟨h.src.below hb, h.res.below hb h.res.lt, h.rest.below hb, h.out.below hb, h.len, h.ler, h.apr, h.apo⟩
theorem ComS.drew (h : ComS w0 g3 g7 V Z A L zs gr n cr l ov os w) : ComS w0 g3 g7 V Z A L zs gr n cr l ov os w.drew := h.below (Below.refl _ _).drew
theorem ComS.rd (h : ComS w0 g3 g7 V Z A L zs gr n cr l ov os w) : Rd .u64 w w.heap.size (some ⟨gr, 0, none⟩) n l := OwnI.rd h.rest h.len
theorem ComS.fx (h : ComS w0 g3 g7 V Z A L zs gr n cr l ov os w) : Fx [.blk g7 28 Z] w := ⟨h.res, trivial⟩
theorem ComS.row (h : ComS w0 g3 g7 V Z A L zs gr n cr l ov os w) (hn : 0 < n) : ∃ cur, Hid (Blk w gr 24 cur) ∧ Hid (∀ j, j < n → j < cur.size) := by
  obtain ⟨g, cur, e, -, hk, hs, -⟩ := h.rest.whole (by rw [h.len]; exact hn)
  injection e with e
  injection e with e1 e2
  subst e1
  exact ⟨cur, Lib.hid hk, Lib.hid (fun j hj => by rw [h.len] at hs; omega)⟩
theorem ComS.took (h : ComS w0 g3 g7 V Z A L zs gr n cr l ov os w) (hgr : gr < w.heap.size) (hr : Rd .u8 w5 w5.heap.size A2 L zs) (hsp : Sep w A A2) (hb5 : Below w.heap.size w w5) (hb6 : Below w5.heap.size w5 w6) (hk6 : Blk w6 w5.heap.size 28 Z) (hk7 : Blk w7 w5.heap.size 28 V2) (hs7 : w7.heap.size = w6.heap.size) (hb7 : ∀ B, B ≤ w5.heap.size → Below B w6 w7) (ho7 : ∀ j, j ≠ w5.heap.size → w7.heap[j]? = w6.heap[j]?) :
    ComS w0 g3 g7 V Z A L zs gr n cr l ov os w7 ∧ NxtS w0 g3 g7 w5.heap.size gr V2 A2 L zs ov w7 := by
  obtain ⟨t1, t2, t3, t4, t5, t6⟩ := h.src.took h.fx hr hsp hb5 hb6 hk6 hk7 hs7 hb7 ho7
  have h6 := (h.below hb5).below hb6
  have z5 := hb5.size
  refine ⟨⟨t1, t2.1, OwnI.other h6.rest hk6 (by decide) ho7, OwnI.other h6.out hk6 (by decide) ho7, h.len, h.ler, h.apr, h.apo⟩, ⟨t6, t4, Apt.of_sep hsp h.apr hgr, fun g hg => Apt.of_sep hsp (h.apo g hg) (h.out.lt g hg)⟩⟩
theorem ComS.put (h : ComS w0 g3 g7 V Z A L zs gr n cr l ov os w) (hn : NxtS w0 g3 g7 g14 gr V2 A2 L zs ov w) (hk : Blk w' g3 28 V2) (hs : w'.heap.size = w.heap.size) (hb : ∀ B, B ≤ g3 → Below B w w') (ho : ∀ j, j ≠ g3 → w'.heap[j]? = w.heap[j]?) : ComS w0 g3 g7 V2 Z A2 L zs gr n cr l ov os w' :=
  ⟨h.src.put3 hn.hand.rd hn.ap3 hn.hand.apt hk hs hb ho, Blk.other h.res ho (Nat.ne_of_gt h.src.lt), OwnI.other h.rest h.src.blk (by decide) ho, OwnI.other h.out h.src.blk (by decide) ho, h.len, h.ler, hn.apr, hn.apo⟩
theorem ComS.reslt (h : ComS w0 g3 g7 V Z A L zs gr n cr l ov os w) : w0.heap.size ≤ w.heap.size := h.src.bel.size
theorem ComS.app (h : ComS w0 g3 g7 V Z A L zs gr n cr l ov os w) (ho : OwnI w' w0.heap.size 3 .i64 ov' (os ++ [z])) (hg : w.grownBy w' ov.ownBlock) (hat : ov'.ownBlock = ov.ownBlock ∨ ov'.ownBlock = some w.heap.size) : ComS w0 g3 g7 V Z A L zs gr n cr l ov' (os ++ [z]) w' := by
  have hbel : Below w0.heap.size w0 w' := h.out.below_ h.src.bel h.reslt hg
  have hapt : Apart L A ov := fun b off hn hA hb => h.apo b hb b off hn hA rfl
  have hrd : RdP A L zs w' := (Rd.grownA h.src.rd.rd hapt (Nat.le_refl _) hg).mono hg.size
  have hs : DrS w0 g3 g7 V A L zs w' := ⟨h.src.blk.grown h.out (by decide) hg, hbel, hrd, h.src.apt3, h.src.apt7, h.src.le3, h.src.lt, by have := h.src.lt7; have := hg.size; omega⟩
  refine ⟨hs, h.res.grown h.out (by decide) hg, h.rest.grownO h.out (by decide) hg, ho, h.len, h.ler, h.apr, fun g he => ?_⟩
  rcases hat with e | e
  · exact h.apo g (by rw [← e]; exact he)
  · rw [he] at e
    injection e with e
    subst e
    exact Apt.of_lt h.src.rd.rd (Nat.le_refl _)
end
structure FinS (w0 : World) (g3 g7 : Nat) (V : Array Value) (A : Option Addr) (L : Nat) (zs : List Int) (ov : Value) (os : List Int) (w : World) : Prop where
  src : DrS w0 g3 g7 V A L zs w
  out : OwnI w w0.heap.size 3 .i64 ov os
section
variable {w0 w w' : World} {g3 g7 L : Nat} {V Z : Array Value} {A : Option Addr} {zs os : List Int} {ov : Value}
theorem FinS.below (h : FinS w0 g3 g7 V A L zs ov os w) (hb : Below w.heap.size w w') : FinS w0 g3 g7 V A L zs ov os w' := ⟨h.src.below hb, h.out.below hb⟩
theorem FinS.drew (h : FinS w0 g3 g7 V A L zs ov os w) : FinS w0 g3 g7 V A L zs ov os w.drew := h.below (Below.refl _ _).drew
theorem FinS.store {g : Nat} {t : TypeId} {cs : Array Value} (h : FinS w0 g3 g7 V A L zs ov os w) (hk : Blk w g t cs) (ha : (g3 ≠ g ∧ Apt L A g ∧ w0.heap.size ≤ g) ∧ 3 ≠ t) (hs : w'.heap.size = w.heap.size) (hb : ∀ B, B ≤ g → Below B w w') (ho : ∀ j, j ≠ g → w'.heap[j]? = w.heap[j]?) : FinS w0 g3 g7 V A L zs ov os w' :=
  ⟨h.src.store hk ha.1 hs hb ho, OwnI.other h.out hk ha.2 ho⟩
theorem FinS.store7 (h : FinS w0 g3 g7 V A L zs ov os w) : (g3 ≠ g7 ∧ Apt L A g7 ∧ w0.heap.size ≤ g7) ∧ 3 ≠ 28 := ⟨h.src.store7, by decide⟩
theorem FinS.blk (h : FinS w0 g3 g7 V A L zs ov os w) : Blk w g3 28 V := h.src.blk
end
def comAcc (os : List Int) (r : List Int × Src × Int) : List Int × Src × Int := if r.2.2 = 0 then (os ++ r.1, r.2.1, 0) else ([], r.2.1, r.2.2)
theorem comAcc_nil (a : Int) (c : Nat) (l : List Int) (s : Src) : comAcc [] (comGo a c l s) = comGo a c l s := by
  unfold comAcc
  by_cases h : (comGo a c l s).2.2 = 0
  · rw [if_pos h, List.nil_append, ← h]
  · rw [if_neg h, ← comGo_err a c l s h]
theorem comAcc_no {a : Int} {c : Nat} {l : List Int} {s : Src} (os : List Int) (h : (ledR l s a).2.2 ≠ 0) : comAcc os (comGo a (c + 1) l s) = ([], (ledR l s a).2.1, (ledR l s a).2.2) := by
  rw [comGo_no h]
  unfold comAcc
  rw [if_neg h]
theorem comAcc_on {a : Int} {c : Nat} {l : List Int} {s : Src} (os : List Int) (h : (ledR l s a).2.2 = 0) : comAcc os (comGo a (c + 1) l s) = comAcc (os ++ [(ledR l s a).1]) (comGo a c (l.set (ledR l s a).1.toNat 0) (ledR l s a).2.1) := by
  by_cases h2 : (comGo a c (l.set (ledR l s a).1.toNat 0) (ledR l s a).2.1).2.2 = 0
  · rw [comGo_on h h2]
    unfold comAcc
    rw [if_pos rfl, if_pos h2, List.append_assoc]
    rfl
  · rw [comGo_off h h2]
    unfold comAcc
    rw [if_neg h2, if_neg h2]
theorem comAcc_end (os l : List Int) (s : Src) (a : Int) : comAcc os (comGo a 0 l s) = (os, s, 0) := by
  rw [comGo_zero]
  unfold comAcc
  rw [if_pos rfl, List.append_nil]
def lenOf : Value → Nat
  | .slice _ n _ => n
  | _ => 0
theorem rdi_one (w : World) (e : TypeId) (x : Int) : Rd .i64 (w.alloc (.cells #[.int .i64 x] e)) (w.alloc (.cells #[.int .i64 x] e)).heap.size (some ⟨w.heap.size, 0, none⟩) 1 [x] := rd_one1 w e .i64 x
end
section
open Go.ChangeShapes Go.WideShapes Go.ChangeAt Go.RowKit
theorem r13great_c (s : Src) (tl : s.tape.length ≤ 9223372036854775807) (AL : Option Addr) (n c : Nat) (hn : n ≤ maxLen) (A : Option Addr) (c0 : Nat) (w : World) : Calls Tryz.prog 9 #[.slice AL n c, .agg (srcV s A c0)] w fun e w' => e = .returned (.bool (decide (200 < n ∨ 500 < s.tape.length))) ∧ Below w.heap.size w w' := by
  have HC := Lib.hid (fun (W : World) (g : Nat) (h : Blk W g 28 (srcV s A c0)) => (h.cell 1).trans (srcV_tape s A c0))
  have hnm : (n : Int) ≤ 9223372036854775807 := by unfold maxLen at hn; omega
  obtain ⟨V, hV⟩ : ∃ V, srcV s A c0 = V := ⟨_, rfl⟩
  obtain ⟨L, hL⟩ : ∃ x, s.tape.length = x := ⟨_, rfl⟩
  rw [hV, hL] at HC
  rw [hV, hL]
  rw [hL] at tl
  have hL2 : (L : Int) ≤ 9223372036854775807 := by omega
  clear hV hL hn tl
  by_cases h1 : 200 < n
  · rw [decide_eq_true (Or.inl h1)]
    have h2 : (200 : Int) < (n : Int) := by omega
    clear h1
    go_enter Tryz.func9, Tryz.ntmps9
    go_wp2_with (with_reducible refine at_any ?_; refine at_dst 3 rfl ?_; refine wpList_box_any rfl 28 (.tmp 1) rfl V rfl ?_; intro w1 hk1 hs1 hb1; have c1 := HC.out _ _ hk1.out; have HB1 := Lib.hid hb1)
    go_ret
    exact ⟨rfl, HB1.out⟩
  · have h2 : (n : Int) ≤ 200 := by omega
    by_cases h3 : 500 < L
    · rw [decide_eq_true (Or.inr h3)]
      have h4 : (500 : Int) < (L : Int) := by omega
      clear h1 h3
      go_enter Tryz.func9, Tryz.ntmps9
      go_wp2_with (with_reducible refine at_any ?_; refine at_dst 3 rfl ?_; refine wpList_box_any rfl 28 (.tmp 1) rfl V rfl ?_; intro w1 hk1 hs1 hb1; have c1 := HC.out _ _ hk1.out; have HB1 := Lib.hid hb1)
      go_ret
      exact ⟨rfl, HB1.out⟩
    · rw [decide_eq_false (fun h => h.elim h1 h3)]
      have h4 : (L : Int) ≤ 500 := by omega
      have d1 : decide (200 < (n : Int)) = false := decide_eq_false (by omega)
      have d2 : decide (500 < (L : Int)) = false := decide_eq_false (by omega)
      clear h1 h3
      go_enter Tryz.func9, Tryz.ntmps9
      go_wp2_with (with_reducible refine at_any ?_; refine at_dst 3 rfl ?_; refine wpList_box_any rfl 28 (.tmp 1) rfl V rfl ?_; intro w1 hk1 hs1 hb1; have c1 := HC.out _ _ hk1.out; have HB1 := Lib.hid hb1)
      go_ret
      exact ⟨rfl, HB1.out⟩
end
section
open Go.ChangeShapes Go.WideShapes Go.ChangeAt Go.RowKit

end
section
open Go.ChangeShapes Go.WideShapes Go.ChangeAt Go.RowKit

end
section
open Go.ChangeShapes Go.WideShapes Go.ChangeAt Go.RowKit
set_option maxHeartbeats 1000000 in
theorem rstape_c (zs : List Int) (hzl : zs.length ≤ 1000000) (b : Int) (b0 : 0 ≤ b) (b1 : b < 18446744073709551616) (A : Option Addr) (n c : Nat) (w : World) (hrd : Rd .u8 w w.heap.size A n zs) (hnc : n ≤ c) : Calls Tryz.prog 23 #[.slice A n c, .int .u64 b] w (RetTape w zs b) := by
  obtain ⟨i0, hi, hz0, hz1, hzb⟩ := info_parts info_u8'
  have hl := hrd.len
  have e1 : IntKind.u64.wrap (8 * (n : Int)) = 8 * n := by rw [IntKind.wrap_u64]; omega
  have HZ0 := Lib.hid zero_src
  have SZ := Lib.hid (sizedS Src.zero rfl none 0)
  have OZ := Lib.hid (srcV_ones Src.zero none 0)
  have HB0 := Lib.hid (fun (a : Act) (o : Oper) W h => build_src0 (a := a) (o := o) W h)
  have hR : RetTape w zs b = if b ≤ 8 * (zs.length : Int) then (fun e w' => ∃ A' c', e = .returned (.tuple #[.agg (srcV (Src.tapeOf zs b) A' c'), .int .i64 0]) ∧ Rd .u8 w' w'.heap.size A' zs.length zs ∧ zs.length ≤ c' ∧ c' ≤ maxLen ∧ Below w.heap.size w w') else (fun e w' => e = .returned (.tuple #[.agg (srcV Src.zero none 0), .int .i64 1]) ∧ Below w.heap.size w w') := by
    funext e w'
    unfold RetTape
    split <;> rfl
  rw [hR]
  obtain ⟨Z, hZ⟩ : ∃ Z, srcV Src.zero none 0 = Z := ⟨_, rfl⟩
  rw [hZ] at HZ0 SZ OZ HB0
  rw [hZ]
  by_cases hbig : b ≤ 8 * (zs.length : Int)
  · rw [if_pos hbig]
    have hT := Lib.hid (fun (A' : Option Addr) (c' : Nat) => sizedS (Src.tapeOf zs b) (by rfl) A' c')
    have OT := Lib.hid (fun (A' : Option Addr) (c' : Nat) => srcV_ones (Src.tapeOf zs b) A' c')
    have ZT := Lib.hid (fun (A' : Option Addr) (c' : Nat) => srcV_same Src.zero (Src.tapeOf zs b) rfl (by rfl) none A' 0 c')
    have BT := Lib.hid (fun (a : Act) (o : Oper) (x y z : Operand) (W : World) (A' : Option Addr) (c' : Nat) h1 h2 (h3 : a.eval y = .slice A' n c') h4 => build_src1 (a := a) (o := o) (x := x) (y := y) (z := z) W A' c' zs b h1 h2 (by rw [hl]; exact h3) h4)
    rw [hZ] at ZT
    rw [hl] at hbig ⊢
    have HRD := Lib.hid hrd
    have HLZ := Lib.hid hl
    have hn : n ≤ 1000000 := by omega
    clear hZ hR hrd hl hzl
    go_enter Tryz.func23, Tryz.ntmps23
    go_wp2_with (first
      | (with_reducible refine at_any ?_; refine at_dst 4 rfl ?_; refine wpList_alloc_any rfl 28 rfl Z HZ0.out ?_; intro w1 hk1 hs1 hb1)
      | (at_builtin; refine wpList_append_ints _ rfl (.tmp 13) (.tmp 14) 23 rfl w.heap.size 5 i0 _ 1 .u8 Tryz.underlying23 hi hz0 hz1 hzb rfl _ [] rfl (own_empty w1 5 .u8 hb1.size) w.heap.size A n c zs rfl ((HRD.out.below hb1).alloc hb1.size _) (by simp [maxLen]; omega) (by simp; omega) (by have := hb1.size; simp; omega) ?_; intro v2 w2 hown2 hg2 hat2; have hb2 : Below w.heap.size w w2 := (own_empty w1 5 .u8 hb1.size).below_ (hb1.alloc hb1.size _) (by have := hb1.size; simp; omega) hg2; have hk2 : Blk w2 w.heap.size 28 Z := Blk.grown (hk1.out.alloc _) (own_empty w1 5 .u8 hb1.size) (by decide) hg2; simp only [List.nil_append] at hown2; obtain ⟨A2, c2, rfl, hc2, hm2⟩ := hown2.form; rw [HLZ.out] at hown2 hc2 ⊢; clear hg2 hat2)
      | (with_reducible refine at_any ?_; refine at_dst 17 rfl ?_; refine wpList_val rfl (.agg (srcV (Src.tapeOf zs b) A2 c2)) (BT.out _ _ _ _ _ _ A2 c2 rfl rfl rfl rfl) ?_)
      | (with_reducible refine at_any ?_; refine at_store 4 rfl ?_; refine wpList_store_any rfl 28 (.tmp 4) (.tmp 17) rfl w.heap.size rfl 28 Z (srcV (Src.tapeOf zs b) A2 c2) hk2 rfl (ZT.out _ _) (hT.out _ _) (OT.out _ _) ?_; intro w3 hk3 hs3 hb3 ho3)
      | (refine bodyPost_any2 4 5 28 rfl w.heap.size rfl (.int .i64 0) rfl 28 (srcV (Src.tapeOf zs b) A2 c2) hk3.out _ Tryz.underlying28 rfl (hT.out _ _) rfl ?_))
    exact ⟨A2, c2, rfl, ((hown2.rd HLZ.out).other ho3 (hown2.apart hk2 (by decide))).fit, hc2, hm2, hb2.trans (hb3 _ (Nat.le_refl _))⟩
  · rw [if_neg hbig]
    rw [hl] at hbig
    clear hZ hR hrd hl
    go_enter Tryz.func23, Tryz.ntmps23
    go_wp2_with (first
      | (with_reducible refine at_any ?_; refine at_dst 4 rfl ?_; refine wpList_alloc_any rfl 28 rfl Z HZ0.out ?_; intro w1 hk1 hs1 hb1)
      | (with_reducible refine at_any ?_; refine at_dst 12 rfl ?_; refine wpList_val rfl (.agg Z) (HB0.out _ _ _ rfl) ?_)
      | (with_reducible refine at_any ?_; refine at_store 4 rfl ?_; refine wpList_store_any rfl 28 (.tmp 4) (.tmp 12) rfl w.heap.size rfl 28 Z Z hk1.out rfl rfl SZ.out OZ.out ?_; intro w3 hk3 hs3 hb3 ho3)
      | (refine bodyPost_any2 4 5 28 rfl w.heap.size rfl (.int .i64 1) rfl 28 Z hk3.out _ Tryz.underlying28 rfl SZ.out rfl ?_))
    exact hb1.trans (hb3 _ (Nat.le_refl _))
end
section
open Go.ChangeShapes Go.WideShapes Go.ChangeAt Go.RowKit
theorem r8need_c (n : Int) (n0 : 0 ≤ n) (n1 : n < 18446744073709551616) (w : World) : Calls Tryz.prog 43 #[.int .u64 n] w fun e w' => e = .returned (.int .i64 (needN n : Nat)) ∧ w = w' := by
  by_cases h : n = 0
  · subst h
    go_enter Tryz.func43, Tryz.ntmps43
    go_wp2
    go_ret
    exact ⟨rfl, rfl⟩
  · have HB := Lib.hid (fun W => rbits_i (n - 1) (by omega) (by omega) W)
    have hR : needN n = Wd.bitsL (n - 1).toNat := by unfold needN; rw [if_neg h]
    rw [hR]
    obtain ⟨B, hB⟩ : ∃ B, Wd.bitsL (n - 1).toNat = B := ⟨_, rfl⟩
    rw [hB] at HB ⊢
    have t1 : (n == 0) = false := by rw [beq_eq_false_iff_ne]; exact h
    have e1 : IntKind.u64.wrap (n - 1) = n - 1 := by rw [IntKind.wrap_u64]; omega
    clear h hR hB
    go_enter Tryz.func43, Tryz.ntmps43
    go_wp2_with (go_at_call 70; (with_reducible refine (HB.out _).mono ?_); rintro e _ ⟨rfl, rfl⟩)
    go_ret
    exact ⟨rfl, rfl⟩
end
section
open Go.ChangeShapes Go.WideShapes Go.ChangeAt Go.RowKit

end
section
open Go.ChangeShapes Go.WideShapes Go.ChangeAt Go.RowKit

end
section
open Go.ChangeShapes Go.WideShapes Go.ChangeAt Go.RowKit
theorem r12total_c (l : List Int) (hz : ∀ z ∈ l, 0 ≤ z ∧ z < 18446744073709551616) (A : Option Addr) (n c : Nat) (hn : n ≤ maxLen) (w : World) (hrd : Rd .u64 w w.heap.size A n l) : Calls Tryz.prog 27 #[.slice A n c] w fun e w' => e = .returned (.tuple #[.int .u64 (sumV l), .int .i64 (totE l)]) ∧ w = w' := by
  have HR := Lib.hid hrd
  have hto := fun W h => r9total_c l hz A n c hn W h
  by_cases hs : sumL l < 9223372036854775808
  · have e := tot_ok hs
    rw [(sumV_ok hs).2] at hto
    rw [e.1]
    obtain ⟨x, hx⟩ : ∃ x, sumV l = x := ⟨_, rfl⟩
    rw [hx] at hto ⊢
    have HTO := Lib.hid hto
    clear hrd hz hto hs e hx hn
    go_enter Tryz.func27, Tryz.ntmps27
    go_wp2_with (go_at_call 28; (with_reducible refine (HTO.out _ HR.out).mono ?_); rintro e _ ⟨rfl, rfl⟩)
    go_ret2
    exact ⟨rfl, rfl⟩
  · have e := tot_no hs
    rw [(sumV_no hs).1, (sumV_no hs).2] at hto
    rw [e.1, e.2]
    have HTO := Lib.hid hto
    clear hrd hz hto hs e hn
    go_enter Tryz.func27, Tryz.ntmps27
    go_wp2_with (go_at_call 28; (with_reducible refine (HTO.out _ HR.out).mono ?_); rintro e _ ⟨rfl, rfl⟩)
    go_ret2
    exact ⟨rfl, rfl⟩
end
section
open Go.ChangeShapes Go.WideShapes Go.ChangeAt Go.RowKit
set_option maxHeartbeats 2000000 in
theorem r17same_c (xs ys : List Int) (A B : Option Addr) (n m c d : Nat) (hn : n ≤ maxLen) (hm : m ≤ maxLen) (w : World) (hra : Rd .i64 w w.heap.size A n xs) (hrb : Rd .i64 w w.heap.size B m ys) : Calls Tryz.prog 12 #[.slice A n c, .slice B m d] w fun e w' => e = .returned (.bool (decide (xs = ys))) ∧ Below w.heap.size w w' := by
  have HA := Lib.hid hra
  have HB := Lib.hid hrb
  have hla := hra.len
  have hlb := hrb.len
  have hnm : (n : Int) ≤ 9223372036854775807 := by unfold maxLen at hn; omega
  clear hra hrb hn hm
  by_cases hl : n = m
  · subst hl
    have t0 : ((n : Int) != (n : Int)) = false := by simp
    go_enter Tryz.func12, Tryz.ntmps12
    go_wp2
    go_loopw [5] (fun i wr => ∃ k : Nat, k ≤ n ∧ i = .int .i64 (k : Int) ∧ (∀ j, j < k → xs.getD j 0 = ys.getD j 0) ∧ Below w.heap.size w wr) (fun i _ => n - (intOf i).toNat)
    case atStart => exact ⟨0, by omega, rfl, fun j h => absurd h (by omega), Below.refl _ _⟩
    case round =>
      obtain ⟨k, hk, rfl, heq, hbl⟩ := hrel
      have HEQ := Lib.hid heq
      have HBL := Lib.hid hbl
      by_cases hlt : k < n
      · obtain ⟨b1, o1, rfl, _, hc1⟩ := (HA.out.below hbl).at_ (by omega)
        obtain ⟨b2, o2, rfl, _, hc2⟩ := (HB.out.below hbl).at_ (by omega)
        have hk1 := hc1 k hlt
        have hk2 := hc2 k hlt
        obtain ⟨x, hx⟩ : ∃ x, xs.getD k 0 = x := ⟨_, rfl⟩
        obtain ⟨y, hy⟩ : ∃ y, ys.getD k 0 = y := ⟨_, rfl⟩
        rw [hx] at hk1
        rw [hy] at hk2
        have i0 : (0 : Int) ≤ (k : Int) := by omega
        have i1 : (k : Int) < (n : Int) := by omega
        clear heq hbl hc1 hc2
        by_cases hxy : x = y
        · subst hxy
          have HK : ∀ j, j < k + 1 → xs.getD j 0 = ys.getD j 0 := fun j hj => by
            by_cases h : j = k
            · rw [h, hx, hy]
            · exact HEQ.out j (by omega)
          have HKK := Lib.hid HK
          have t1 : (x != x) = false := by simp
          clear hx hy HEQ HK
          go_wp2
          go_quiet (fail)
          go_wp2
          go_roundw
          case rel => exact ⟨k + 1, by omega, by go_num, HKK.out, HBL.out.trans (below_drewN (Below.refl _ _) _)⟩
          case measure => simp [intOf]; omega
        · have hne : ¬ xs = ys := fun h => hxy (by rw [← hx, ← hy, h])
          have t1 : (x != y) = true := by simp [bne, hxy]
          have HNE := Lib.hid hne
          clear hx hy HEQ hne
          go_wp2
          go_quiet (fail)
          go_wp2
          go_ret
          exact ⟨ret_bool (decide_eq_false HNE.out).symm, below_drewN HBL.out _⟩
      · have hxy : xs = ys := ext_getD (by omega) fun j hj => heq j (by omega)
        obtain rfl : k = n := by omega
        have HXY := Lib.hid hxy
        clear heq hbl hxy
        go_wp2
        go_ret
        exact ⟨ret_bool (decide_eq_true HXY.out).symm, HBL.out⟩
  · have t0 : ((n : Int) != (m : Int)) = true := by simp [bne]; omega
    have hne : ¬ xs = ys := fun h => hl (by rw [← hla, ← hlb, h])
    have HNE := Lib.hid hne
    clear hne
    go_enter Tryz.func12, Tryz.ntmps12
    go_wp2
    go_ret
    exact ⟨ret_bool (decide_eq_false HNE.out).symm, Below.refl _ _⟩
end
section
open Go.ChangeShapes Go.WideShapes Go.ChangeAt Go.RowKit
set_option maxHeartbeats 4000000 in
theorem r11tree_c (l : List Int) (hz : ∀ z ∈ l, 0 ≤ z) (hs : sumL l < 9223372036854775808) (A : Option Addr) (n c : Nat) (hn : n ≤ 1048576) (w : World) (hrd : Rd .u64 w w.heap.size A n l) : Calls Tryz.prog 18 #[.slice A n c] w (RetTree w l) := by
  obtain ⟨ti, hti, hz0, hz1, hzb⟩ := info_parts info_u64d
  have HR := Lib.hid hrd
  have hlen := hrd.len
  have hnm : n ≤ maxLen := by simp only [maxLen]; omega
  have HSM := Lib.hid (fun a b h h2 W h3 => r11sum_c l hz hs A n c hnm a b h h2 W h3)
  have HAT := Lib.hid (fun i (h : i < n) => treeL_at (l := l) (i := i) (by omega))
  have HTK := Lib.hid (fun i (h : i < n) => tree_take (l := l) (i := i) (by omega))
  have HAL : Hid ((treeL l).take n = treeL l) := Lib.hid (List.take_of_length_le (by rw [treeL_len]; omega))
  have HEND : Hid (∀ A' c' w', Rd .u64 w' w'.heap.size A' n (treeL l) → n ≤ c' → c' ≤ maxLen → Below w.heap.size w w' → RetTree w l (.returned (.agg #[.slice A' n c'])) w') := Lib.hid (fun A' c' w' h1 h2 h3 h4 => ⟨A', c', by rw [hlen], by rw [hlen]; exact h1, by rw [hlen]; exact h2, h3, h4⟩)
  have HLN : Hid (∀ i, i ≤ n → ((treeL l).take i).length = i) := Lib.hid (fun i h => by rw [List.length_take, treeL_len]; omega)
  clear hrd hz hs
  go_enter Tryz.func18, Tryz.ntmps18
  go_wp2_with (first
    | (with_reducible refine at_any ?_; refine at_dst 2 rfl ?_; refine wpList_alloc_any rfl 40 rfl #[.slice none 0 0] zero_fen ?_; intro w1 hk1 hs1 hb1)
    | (with_reducible refine at_any ?_; refine at_dst 3 rfl ?_; refine wpList_alloc_any rfl 40 rfl #[.slice none 0 0] zero_fen ?_; intro w2 hk2 hs2 hb2))
  have HT : TreS w w.heap.size w1.heap.size (.slice none 0 0) [] w2 := ⟨hk1.out.below hb2 hk1.out.lt, hk2.out, OwnI.empty _ _ _ _, hb1.trans (hb2.mono hb1.size), Nat.le_refl _, hk1.out.lt⟩
  obtain ⟨g2, hg2⟩ : ∃ g, w.heap.size = g := ⟨_, rfl⟩
  obtain ⟨g3, hg3⟩ : ∃ g, w1.heap.size = g := ⟨_, rfl⟩
  have HTH : Hid (TreS w g2 g3 (.slice none 0 0) [] w2) := Lib.hid (by rw [← hg2, ← hg3]; exact HT)
  rw [hg2, hg3]
  clear hg2 hg3 hk1 hs1 hb1 hk2 hs2 hb2 HT
  go_loopw [4] (fun ii wr => ∃ (i : Nat) (v : Value), i ≤ n ∧ ii = .int .i64 (i : Int) ∧ TreS w g2 g3 v ((treeL l).take i) wr) (fun ii _ => n - (intOf ii).toNat)
  case atStart => exact ⟨0, _, by omega, rfl, HTH.out⟩
  case round =>
    clear HTH
    obtain ⟨i, v, hi, rfl, HT⟩ := hrel
    by_cases hlt : i < n
    · obtain ⟨m, hm⟩ : ∃ m : Nat, i + 1 = m := ⟨_, rfl⟩
      have hlo := lowN_le m
      have HLOW := Lib.hid (fun W => r11low_c m (by omega) (by omega) W)
      have hat := HAT.out i hlt
      have htk := HTK.out i hlt
      rw [hm] at hat htk
      obtain ⟨lo, hl⟩ : ∃ x, lowN m = x := ⟨_, rfl⟩
      rw [hl] at hlo HLOW hat
      obtain ⟨q, hq⟩ : ∃ q : Nat, m - lo = q := ⟨_, rfl⟩
      rw [hq] at hat
      have HSUM := Lib.hid (fun W h => HSM.out q m (by omega) (by omega) W h)
      obtain ⟨x, hx⟩ : ∃ x, preL l m - preL l q = x := ⟨_, rfl⟩
      rw [hx] at hat HSUM
      rw [hat] at htk
      have HNX : Hid (∀ v' W, TreS w g2 g3 v' ((treeL l).take i ++ [x]) W → TreS w g2 g3 v' ((treeL l).take (i + 1)) W) := Lib.hid (fun v' W h => by rw [hm, htk]; exact h)
      have HLT : Hid (((treeL l).take i).length + 1 ≤ 1048577) := Lib.hid (by rw [HLN.out i (by omega)]; omega)
      obtain ⟨ts, hts⟩ : ∃ x, (treeL l).take i = x := ⟨_, rfl⟩
      rw [hts] at HT HLT HNX
      have e1 : Hid (IntKind.i64.wrap ((i : Int) + 1) = (m : Int)) := Lib.hid (by rw [IntKind.wrap_i64]; omega)
      have e2 : Hid (IntKind.i64.wrap ((m : Int) - (lo : Int)) = (q : Int)) := Lib.hid (by rw [IntKind.wrap_i64]; omega)
      have hlt2 : (i : Int) < (n : Int) := by omega
      clear hlo hat htk hl hq hx hts hm hi
      go_wp2_with fail
      have HT0 := HT.drew
      refine wp_region_held_drew (S := (fun _ => True)) (by kernel_rfl) trivial (fun hH => ?_)
      refine wpAnyH_letter #[false, false, false, false, false, false, false, false, false, false, false, false, false, false, false, false] (by kernel_rfl) (fun _ _ d _ _ h => by cases d <;> exact h) (fun QL HQ1 HQ2 => ?_)
      refine held_v 0 (some 11) rfl (by kernel_rfl) (by kernel_rfl) (by kernel_rfl) (by kernel_rfl) (fun c a v w h => HQ2.out c a _ v w h) (by kernel_rfl) (.pointer (some ⟨g3, 0, none⟩)) (fun W h => by kernel_rfl) trivial ?_
      try simp only [Act.put, List.setIfInBounds_toArray, List.set_cons_zero, List.set_cons_succ]
      refine held_v 2 (some 13) rfl (by kernel_rfl) (by kernel_rfl) (by kernel_rfl) (by kernel_rfl) (fun c a v w h => HQ2.out c a _ v w h) (by kernel_rfl) (.slice A n c) (fun W h => by kernel_rfl) trivial ?_
      try simp only [Act.put, List.setIfInBounds_toArray, List.set_cons_zero, List.set_cons_succ]
      refine held_v 3 (some 14) rfl (by kernel_rfl) (by kernel_rfl) (by kernel_rfl) (by kernel_rfl) (fun c a v w h => HQ2.out c a _ v w h) (by kernel_rfl) (.int .i64 (i : Int)) (fun W h => by kernel_rfl) trivial ?_
      try simp only [Act.put, List.setIfInBounds_toArray, List.set_cons_zero, List.set_cons_succ]
      refine held_v 4 (some 15) rfl (by kernel_rfl) (by kernel_rfl) (by kernel_rfl) (by kernel_rfl) (fun c a v w h => HQ2.out c a _ v w h) (by kernel_rfl) (.int .i64 (m : Int)) (fun W h => by have p := e1.out; go_simp) trivial ?_
      try simp only [Act.put, List.setIfInBounds_toArray, List.set_cons_zero, List.set_cons_succ]
      refine held_v 5 (some 16) rfl (by kernel_rfl) (by kernel_rfl) (by kernel_rfl) (by kernel_rfl) (fun c a v w h => HQ2.out c a _ v w h) (by kernel_rfl) (.int .i64 (i : Int)) (fun W h => by kernel_rfl) trivial ?_
      try simp only [Act.put, List.setIfInBounds_toArray, List.set_cons_zero, List.set_cons_succ]
      refine held_v 6 (some 17) rfl (by kernel_rfl) (by kernel_rfl) (by kernel_rfl) (by kernel_rfl) (fun c a v w h => HQ2.out c a _ v w h) (by kernel_rfl) (.int .i64 (m : Int)) (fun W h => by have p := e1.out; go_simp) trivial ?_
      try simp only [Act.put, List.setIfInBounds_toArray, List.set_cons_zero, List.set_cons_succ]
      refine held_v 9 (some 20) rfl (by kernel_rfl) (by kernel_rfl) (by kernel_rfl) (by kernel_rfl) (fun c a v w h => HQ2.out c a _ v w h) (by kernel_rfl) (.int .i64 (i : Int)) (fun W h => by kernel_rfl) trivial ?_
      try simp only [Act.put, List.setIfInBounds_toArray, List.set_cons_zero, List.set_cons_succ]
      refine held_v 10 (some 21) rfl (by kernel_rfl) (by kernel_rfl) (by kernel_rfl) (by kernel_rfl) (fun c a v w h => HQ2.out c a _ v w h) (by kernel_rfl) (.int .i64 (m : Int)) (fun W h => by have p := e1.out; go_simp) trivial ?_
      try simp only [Act.put, List.setIfInBounds_toArray, List.set_cons_zero, List.set_cons_succ]
      refine wpAnyH_ready (rs := [1, 7]) (by kernel_rfl) (by decide) ?_
      refine AllReadyH.cons rfl (fun K hK => ?_) (AllReadyH.cons rfl (fun K hK => ?_) AllReadyH.nil)
      · refine step_v (some 12) (by kernel_rfl) (by kernel_rfl) (v) (by have p := HT0.cell; go_simp) ?_
        refine hK.out _ _ trivial (fun _ => ?_)
        clear hK K
        try simp only [Act.put, List.setIfInBounds_toArray, List.set_cons_zero, List.set_cons_succ]
        refine wpAnyH_ready (rs := [7]) (by kernel_rfl) (by decide) ?_
        refine AllReadyH.cons rfl (fun K hK => ?_) AllReadyH.nil
        refine step_call (some 18) (by kernel_rfl) (by kernel_rfl) _ _ (by kernel_rfl) _ (HLOW.out _) ?_
        rintro e _ ⟨rfl, rfl⟩
        refine ⟨_, rfl, ?_⟩
        refine hK.out _ _ trivial (fun _ => ?_)
        clear hK K
        try simp only [Act.put, List.setIfInBounds_toArray, List.set_cons_zero, List.set_cons_succ]
        refine held_v 8 (some 19) rfl (by kernel_rfl) (by kernel_rfl) (by kernel_rfl) (by kernel_rfl) (fun c a v w h => HQ2.out c a _ v w h) (by kernel_rfl) (.int .i64 (q : Int)) (fun W h => by have p := e2.out; go_simp) trivial ?_
        try simp only [Act.put, List.setIfInBounds_toArray, List.set_cons_zero, List.set_cons_succ]
        refine wpAnyH_ready (rs := [11]) (by kernel_rfl) (by decide) ?_
        refine AllReadyH.cons rfl (fun K hK => ?_) AllReadyH.nil
        refine step_call (some 22) (by kernel_rfl) (by kernel_rfl) _ _ (by kernel_rfl) _ (HSUM.out _ (HT0.rd HR.out)) ?_
        rintro e _ ⟨rfl, rfl⟩
        refine ⟨_, rfl, ?_⟩
        refine hK.out _ _ trivial (fun _ => ?_)
        clear hK K
        try simp only [Act.put, List.setIfInBounds_toArray, List.set_cons_zero, List.set_cons_succ]
        refine wpAnyH_ready (rs := [12]) (by kernel_rfl) (by decide) ?_
        refine AllReadyH.cons rfl (fun K hK => ?_) AllReadyH.nil
        refine step_build_u64 (some 23) (by kernel_rfl) (by kernel_rfl) (.tmp 22) rfl (x) (by kernel_rfl) ?_
        intro gr45 w44 hrw44 hbw44
        have ex46 := HT0.below hbw44
        refine hK.out _ _ trivial (fun _ => ?_)
        clear hK K
        try simp only [Act.put, List.setIfInBounds_toArray, List.set_cons_zero, List.set_cons_succ]
        refine wpAnyH_ready (rs := [13]) (by kernel_rfl) (by decide) ?_
        refine AllReadyH.cons rfl (fun K hK => ?_) AllReadyH.nil
        refine step_append_d w44 (some 24) rfl rfl (.tmp 12) (.tmp 23) 22 rfl w.heap.size 24 ti _ 8 .u64 Tryz.underlying22 hti hz0 hz1 hzb rfl (v) (ts) (by kernel_rfl) ex46.own w44.heap.size (some ⟨gr45, 0, none⟩) 1 1 [x] (by kernel_rfl) hrw44 (by have p := HLT.out; simp only [maxLen]; omega) (by have p := HLT.out; omega) ex46.size ?_
        intro vw47 w47 how47 hgw47 hatw47
        have hTw47 := ex46.grown hgw47
        obtain ⟨Aw47, cw47, rfl, -, -⟩ := how47.form
        refine hK.out _ _ trivial (fun _ => ?_)
        clear hK K
        try simp only [Act.put, List.setIfInBounds_toArray, List.set_cons_zero, List.set_cons_succ]
        refine held_v 14 (some 25) rfl (by kernel_rfl) (by kernel_rfl) (by kernel_rfl) (by kernel_rfl) (fun c a v w h => HQ2.out c a _ v w h) (by kernel_rfl) (.pointer (some ⟨g3, 0, none⟩)) (fun W h => by kernel_rfl) trivial ?_
        try simp only [Act.put, List.setIfInBounds_toArray, List.set_cons_zero, List.set_cons_succ]
        refine wpAnyH_ready (rs := [15]) (by kernel_rfl) (by decide) ?_
        refine AllReadyH.cons rfl (fun K hK => ?_) AllReadyH.nil
        refine step_store_cell none (by kernel_rfl) (by kernel_rfl) 22 (.tmp 25) (.tmp 24) rfl g3 0 (by kernel_rfl) 40 #[v] hTw47.2.1 (.slice Aw47 (ts ++ [x]).length cw47) (by kernel_rfl) (by simp) (by kernel_rfl) rfl rfl ?_
        intro w48 hkw48 how48
        have trw48 := ex46.put hTw47 how47 hkw48.out how48
        refine hK.out _ _ trivial (fun _ => ?_)
        clear hK K
        try simp only [Act.put, List.setIfInBounds_toArray, List.set_cons_zero, List.set_cons_succ]
        refine wpAnyH_done (by kernel_rfl) ?_ _
        refine HQ1.out _ _ ?_
        clear HQ1 HQ2
        have HF := Lib.hid (HNX.out _ _ trw48)
        go_wp2_with fail
        go_roundw
        case rel => exact ⟨i + 1, _, by omega, by go_num, HF.out⟩
        case measure => simp [intOf]; omega
      · refine step_call (some 18) (by kernel_rfl) (by kernel_rfl) _ _ (by kernel_rfl) _ (HLOW.out _) ?_
        rintro e _ ⟨rfl, rfl⟩
        refine ⟨_, rfl, ?_⟩
        refine hK.out _ _ trivial (fun _ => ?_)
        clear hK K
        try simp only [Act.put, List.setIfInBounds_toArray, List.set_cons_zero, List.set_cons_succ]
        refine held_v 8 (some 19) rfl (by kernel_rfl) (by kernel_rfl) (by kernel_rfl) (by kernel_rfl) (fun c a v w h => HQ2.out c a _ v w h) (by kernel_rfl) (.int .i64 (q : Int)) (fun W h => by have p := e2.out; go_simp) trivial ?_
        try simp only [Act.put, List.setIfInBounds_toArray, List.set_cons_zero, List.set_cons_succ]
        refine wpAnyH_ready (rs := [1, 11]) (by kernel_rfl) (by decide) ?_
        refine AllReadyH.cons rfl (fun K hK => ?_) (AllReadyH.cons rfl (fun K hK => ?_) AllReadyH.nil)
        · refine step_v (some 12) (by kernel_rfl) (by kernel_rfl) (v) (by have p := HT0.cell; go_simp) ?_
          refine hK.out _ _ trivial (fun _ => ?_)
          clear hK K
          try simp only [Act.put, List.setIfInBounds_toArray, List.set_cons_zero, List.set_cons_succ]
          refine wpAnyH_ready (rs := [11]) (by kernel_rfl) (by decide) ?_
          refine AllReadyH.cons rfl (fun K hK => ?_) AllReadyH.nil
          refine step_call (some 22) (by kernel_rfl) (by kernel_rfl) _ _ (by kernel_rfl) _ (HSUM.out _ (HT0.rd HR.out)) ?_
          rintro e _ ⟨rfl, rfl⟩
          refine ⟨_, rfl, ?_⟩
          refine hK.out _ _ trivial (fun _ => ?_)
          clear hK K
          try simp only [Act.put, List.setIfInBounds_toArray, List.set_cons_zero, List.set_cons_succ]
          refine wpAnyH_ready (rs := [12]) (by kernel_rfl) (by decide) ?_
          refine AllReadyH.cons rfl (fun K hK => ?_) AllReadyH.nil
          refine step_build_u64 (some 23) (by kernel_rfl) (by kernel_rfl) (.tmp 22) rfl (x) (by kernel_rfl) ?_
          intro gr53 w52 hrw52 hbw52
          have ex54 := HT0.below hbw52
          refine hK.out _ _ trivial (fun _ => ?_)
          clear hK K
          try simp only [Act.put, List.setIfInBounds_toArray, List.set_cons_zero, List.set_cons_succ]
          refine wpAnyH_ready (rs := [13]) (by kernel_rfl) (by decide) ?_
          refine AllReadyH.cons rfl (fun K hK => ?_) AllReadyH.nil
          refine step_append_d w52 (some 24) rfl rfl (.tmp 12) (.tmp 23) 22 rfl w.heap.size 24 ti _ 8 .u64 Tryz.underlying22 hti hz0 hz1 hzb rfl (v) (ts) (by kernel_rfl) ex54.own w52.heap.size (some ⟨gr53, 0, none⟩) 1 1 [x] (by kernel_rfl) hrw52 (by have p := HLT.out; simp only [maxLen]; omega) (by have p := HLT.out; omega) ex54.size ?_
          intro vw55 w55 how55 hgw55 hatw55
          have hTw55 := ex54.grown hgw55
          obtain ⟨Aw55, cw55, rfl, -, -⟩ := how55.form
          refine hK.out _ _ trivial (fun _ => ?_)
          clear hK K
          try simp only [Act.put, List.setIfInBounds_toArray, List.set_cons_zero, List.set_cons_succ]
          refine held_v 14 (some 25) rfl (by kernel_rfl) (by kernel_rfl) (by kernel_rfl) (by kernel_rfl) (fun c a v w h => HQ2.out c a _ v w h) (by kernel_rfl) (.pointer (some ⟨g3, 0, none⟩)) (fun W h => by kernel_rfl) trivial ?_
          try simp only [Act.put, List.setIfInBounds_toArray, List.set_cons_zero, List.set_cons_succ]
          refine wpAnyH_ready (rs := [15]) (by kernel_rfl) (by decide) ?_
          refine AllReadyH.cons rfl (fun K hK => ?_) AllReadyH.nil
          refine step_store_cell none (by kernel_rfl) (by kernel_rfl) 22 (.tmp 25) (.tmp 24) rfl g3 0 (by kernel_rfl) 40 #[v] hTw55.2.1 (.slice Aw55 (ts ++ [x]).length cw55) (by kernel_rfl) (by simp) (by kernel_rfl) rfl rfl ?_
          intro w56 hkw56 how56
          have trw56 := ex54.put hTw55 how55 hkw56.out how56
          refine hK.out _ _ trivial (fun _ => ?_)
          clear hK K
          try simp only [Act.put, List.setIfInBounds_toArray, List.set_cons_zero, List.set_cons_succ]
          refine wpAnyH_done (by kernel_rfl) ?_ _
          refine HQ1.out _ _ ?_
          clear HQ1 HQ2
          have HF := Lib.hid (HNX.out _ _ trw56)
          go_wp2_with fail
          go_roundw
          case rel => exact ⟨i + 1, _, by omega, by go_num, HF.out⟩
          case measure => simp [intOf]; omega
        · refine step_call (some 22) (by kernel_rfl) (by kernel_rfl) _ _ (by kernel_rfl) _ (HSUM.out _ (HT0.rd HR.out)) ?_
          rintro e _ ⟨rfl, rfl⟩
          refine ⟨_, rfl, ?_⟩
          refine hK.out _ _ trivial (fun _ => ?_)
          clear hK K
          try simp only [Act.put, List.setIfInBounds_toArray, List.set_cons_zero, List.set_cons_succ]
          refine wpAnyH_ready (rs := [1, 12]) (by kernel_rfl) (by decide) ?_
          refine AllReadyH.cons rfl (fun K hK => ?_) (AllReadyH.cons rfl (fun K hK => ?_) AllReadyH.nil)
          · refine step_v (some 12) (by kernel_rfl) (by kernel_rfl) (v) (by have p := HT0.cell; go_simp) ?_
            refine hK.out _ _ trivial (fun _ => ?_)
            clear hK K
            try simp only [Act.put, List.setIfInBounds_toArray, List.set_cons_zero, List.set_cons_succ]
            refine wpAnyH_ready (rs := [12]) (by kernel_rfl) (by decide) ?_
            refine AllReadyH.cons rfl (fun K hK => ?_) AllReadyH.nil
            refine step_build_u64 (some 23) (by kernel_rfl) (by kernel_rfl) (.tmp 22) rfl (x) (by kernel_rfl) ?_
            intro gr60 w59 hrw59 hbw59
            have ex61 := HT0.below hbw59
            refine hK.out _ _ trivial (fun _ => ?_)
            clear hK K
            try simp only [Act.put, List.setIfInBounds_toArray, List.set_cons_zero, List.set_cons_succ]
            refine wpAnyH_ready (rs := [13]) (by kernel_rfl) (by decide) ?_
            refine AllReadyH.cons rfl (fun K hK => ?_) AllReadyH.nil
            refine step_append_d w59 (some 24) rfl rfl (.tmp 12) (.tmp 23) 22 rfl w.heap.size 24 ti _ 8 .u64 Tryz.underlying22 hti hz0 hz1 hzb rfl (v) (ts) (by kernel_rfl) ex61.own w59.heap.size (some ⟨gr60, 0, none⟩) 1 1 [x] (by kernel_rfl) hrw59 (by have p := HLT.out; simp only [maxLen]; omega) (by have p := HLT.out; omega) ex61.size ?_
            intro vw62 w62 how62 hgw62 hatw62
            have hTw62 := ex61.grown hgw62
            obtain ⟨Aw62, cw62, rfl, -, -⟩ := how62.form
            refine hK.out _ _ trivial (fun _ => ?_)
            clear hK K
            try simp only [Act.put, List.setIfInBounds_toArray, List.set_cons_zero, List.set_cons_succ]
            refine held_v 14 (some 25) rfl (by kernel_rfl) (by kernel_rfl) (by kernel_rfl) (by kernel_rfl) (fun c a v w h => HQ2.out c a _ v w h) (by kernel_rfl) (.pointer (some ⟨g3, 0, none⟩)) (fun W h => by kernel_rfl) trivial ?_
            try simp only [Act.put, List.setIfInBounds_toArray, List.set_cons_zero, List.set_cons_succ]
            refine wpAnyH_ready (rs := [15]) (by kernel_rfl) (by decide) ?_
            refine AllReadyH.cons rfl (fun K hK => ?_) AllReadyH.nil
            refine step_store_cell none (by kernel_rfl) (by kernel_rfl) 22 (.tmp 25) (.tmp 24) rfl g3 0 (by kernel_rfl) 40 #[v] hTw62.2.1 (.slice Aw62 (ts ++ [x]).length cw62) (by kernel_rfl) (by simp) (by kernel_rfl) rfl rfl ?_
            intro w63 hkw63 how63
            have trw63 := ex61.put hTw62 how62 hkw63.out how63
            refine hK.out _ _ trivial (fun _ => ?_)
            clear hK K
            try simp only [Act.put, List.setIfInBounds_toArray, List.set_cons_zero, List.set_cons_succ]
            refine wpAnyH_done (by kernel_rfl) ?_ _
            refine HQ1.out _ _ ?_
            clear HQ1 HQ2
            have HF := Lib.hid (HNX.out _ _ trw63)
            go_wp2_with fail
            go_roundw
            case rel => exact ⟨i + 1, _, by omega, by go_num, HF.out⟩
            case measure => simp [intOf]; omega
          · refine step_build_u64 (some 23) (by kernel_rfl) (by kernel_rfl) (.tmp 22) rfl (x) (by kernel_rfl) ?_
            intro gr65 w64 hrw64 hbw64
            have ex66 := HT0.below hbw64
            refine hK.out _ _ trivial (fun _ => ?_)
            clear hK K
            try simp only [Act.put, List.setIfInBounds_toArray, List.set_cons_zero, List.set_cons_succ]
            refine wpAnyH_ready (rs := [1]) (by kernel_rfl) (by decide) ?_
            refine AllReadyH.cons rfl (fun K hK => ?_) AllReadyH.nil
            refine step_v (some 12) (by kernel_rfl) (by kernel_rfl) (v) (by have p := ex66.cell; go_simp) ?_
            refine hK.out _ _ trivial (fun _ => ?_)
            clear hK K
            try simp only [Act.put, List.setIfInBounds_toArray, List.set_cons_zero, List.set_cons_succ]
            refine wpAnyH_ready (rs := [13]) (by kernel_rfl) (by decide) ?_
            refine AllReadyH.cons rfl (fun K hK => ?_) AllReadyH.nil
            refine step_append_d w64 (some 24) rfl rfl (.tmp 12) (.tmp 23) 22 rfl w.heap.size 24 ti _ 8 .u64 Tryz.underlying22 hti hz0 hz1 hzb rfl (v) (ts) (by kernel_rfl) ex66.own w64.heap.size (some ⟨gr65, 0, none⟩) 1 1 [x] (by kernel_rfl) hrw64 (by have p := HLT.out; simp only [maxLen]; omega) (by have p := HLT.out; omega) ex66.size ?_
            intro vw68 w68 how68 hgw68 hatw68
            have hTw68 := ex66.grown hgw68
            obtain ⟨Aw68, cw68, rfl, -, -⟩ := how68.form
            refine hK.out _ _ trivial (fun _ => ?_)
            clear hK K
            try simp only [Act.put, List.setIfInBounds_toArray, List.set_cons_zero, List.set_cons_succ]
            refine held_v 14 (some 25) rfl (by kernel_rfl) (by kernel_rfl) (by kernel_rfl) (by kernel_rfl) (fun c a v w h => HQ2.out c a _ v w h) (by kernel_rfl) (.pointer (some ⟨g3, 0, none⟩)) (fun W h => by kernel_rfl) trivial ?_
            try simp only [Act.put, List.setIfInBounds_toArray, List.set_cons_zero, List.set_cons_succ]
            refine wpAnyH_ready (rs := [15]) (by kernel_rfl) (by decide) ?_
            refine AllReadyH.cons rfl (fun K hK => ?_) AllReadyH.nil
            refine step_store_cell none (by kernel_rfl) (by kernel_rfl) 22 (.tmp 25) (.tmp 24) rfl g3 0 (by kernel_rfl) 40 #[v] hTw68.2.1 (.slice Aw68 (ts ++ [x]).length cw68) (by kernel_rfl) (by simp) (by kernel_rfl) rfl rfl ?_
            intro w69 hkw69 how69
            have trw69 := ex66.put hTw68 how68 hkw69.out how69
            refine hK.out _ _ trivial (fun _ => ?_)
            clear hK K
            try simp only [Act.put, List.setIfInBounds_toArray, List.set_cons_zero, List.set_cons_succ]
            refine wpAnyH_done (by kernel_rfl) ?_ _
            refine HQ1.out _ _ ?_
            clear HQ1 HQ2
            have HF := Lib.hid (HNX.out _ _ trw69)
            go_wp2_with fail
            go_roundw
            case rel => exact ⟨i + 1, _, by omega, by go_num, HF.out⟩
            case measure => simp [intOf]; omega
    · obtain rfl : i = n := by omega
      have ho := HT.own
      have HOT : Hid (∀ w9, (∀ j, j ≠ g2 → w9.heap[j]? = wr.heap[j]?) → OwnI w9 w.heap.size 24 .u64 v ((treeL l).take i)) := Lib.hid (fun w9 h => HT.own.other HT.b2 (by decide) h)
      obtain ⟨A', c', rfl, hc1, hc2⟩ := ho.form
      rw [HLN.out _ (Nat.le_refl _)] at hc1 HT HOT
      rw [HAL.out] at HOT
      clear ho
      go_wp2_with (first
        | (with_reducible refine at_any ?_; refine at_dst 26 rfl ?_; refine wpList_load_blk rfl 40 (.tmp 3) rfl g3 rfl 40 #[.slice A' i c'] HT.b3 _ Tryz.underlying40 rfl (sizedF _) ?_)
        | (with_reducible refine at_any ?_; refine at_store 2 rfl ?_; refine wpList_store_any rfl 40 (.tmp 2) (.tmp 26) rfl g2 rfl 40 #[.slice none 0 0] #[.slice A' i c'] HT.b2 rfl (size1 _ _) (sizedF _) (fen_ones _ _ _) ?_; intro w9 hk9 hs9 hb9 ho9; have HO9 := Lib.hid (HOT.out _ ho9); have HB9 := Lib.hid (HT.bel.trans (hb9 _ HT.le)))
        | (refine bodyPost_any 2 40 rfl g2 rfl 40 #[.slice A' i c'] hk9.out _ Tryz.underlying40 rfl (sizedF _) rfl ?_))
      exact HEND.out _ _ _ (OwnI.rd HO9.out (by rw [treeL_len]; exact hlen)) hc1 hc2 HB9.out
end
section
open Go.ChangeShapes Go.WideShapes Go.ChangeAt Go.RowKit
theorem r10right_c (zs : List Int) (A : Option Addr) (n c : Nat) (hn : n ≤ maxLen) (w : World) (hrd : Rd .u32 w w.heap.size A n zs) : Calls Tryz.prog 71 #[.slice A n c] w fun e w' => e = .returned (.bool (rightN zs)) ∧ w = w' := by
  have hlen := hrd.len
  have hnm : (n : Int) ≤ 9223372036854775807 := by unfold maxLen at hn; omega
  by_cases hb : 256 < n
  · have HV := Lib.hid (rightN_big (l := zs) (by omega))
    have h1 : (256 : Int) < (n : Int) := by omega
    clear hrd hn
    go_enter Tryz.func71, Tryz.ntmps71
    go_wp2
    go_ret
    exact ⟨ret_boolN HV.out.symm, rfl⟩
  · have h1 : (n : Int) ≤ 256 := by omega
    rcases n with _ | m
    · obtain rfl := List.eq_nil_of_length_eq_zero hlen
      have HV := Lib.hid (show rightN [] = true from rfl)
      clear hrd hn hb
      go_enter Tryz.func71, Tryz.ntmps71
      go_wp2
      go_ret
      exact ⟨ret_boolN HV.out.symm, rfl⟩
    · obtain ⟨b, off, rfl, _, hc⟩ := hrd.at_ (by omega)
      have hcm := hc m (by omega)
      have hv := rightN_at (l := zs) (m := m) hlen (by omega)
      obtain ⟨z, hz⟩ : ∃ z, zs.getD m 0 = z := ⟨_, rfl⟩
      rw [hz] at hcm hv
      have HV := Lib.hid hv
      have m0 : ((m + 1 : Nat) : Int) = (m : Int) + 1 := by omega
      have m1 : ((m : Int) + 1 == 0) = false := by rw [beq_eq_false_iff_ne]; omega
      have m2 : (m : Int) ≤ 255 := by omega
      have m3 : (m : Int) + 1 - 1 = (m : Int) := by omega
      clear hrd hc hn hb hnm hlen hz hv
      go_enter Tryz.func71, Tryz.ntmps71
      go_wp2
      go_ret
      exact ⟨ret_boolN HV.out.symm, rfl⟩
theorem r10trim_c (zs : List Int) (A : Option Addr) (n c : Nat) (hn : n ≤ maxLen) (hnc : n ≤ c) (w : World) (hrd : Rd .u32 w w.heap.size A n zs) : Calls Tryz.prog 50 #[.slice A n c] w fun e w' => e = .returned (.slice A (trimL zs).length c) ∧ w = w' := by
  have HR := Lib.hid hrd
  have hlen := hrd.len
  have htk : zs.take n = zs := by rw [← hlen, List.take_length]
  have HTZ := Lib.hid (fun k h1 h2 => trimL_zero (l := zs) (k := k) h1 h2)
  have HTS := Lib.hid (fun k h1 h2 => trimL_stop (l := zs) (k := k) h1 h2)
  have hnm : (n : Int) ≤ 9223372036854775807 := by unfold maxLen at hn; omega
  have hnc' : (n : Int) ≤ (c : Int) := by omega
  clear hrd hn
  go_enter Tryz.func50, Tryz.ntmps50
  go_wp2
  go_loop [0] (fun v => ∃ k : Nat, k ≤ n ∧ v = .slice A k c ∧ trimL (zs.take k) = trimL zs) (fun v => match v with | .slice _ k _ => k | _ => 0)
  case atStart => exact ⟨n, Nat.le_refl _, rfl, by rw [htk]⟩
  case round =>
    obtain ⟨k, hk, rfl, htr⟩ := hrel
    have HTR := Lib.hid htr
    clear htr
    rcases k with _ | m
    · have HL : Hid ((trimL zs).length = 0) := Lib.hid (by rw [← HTR.out]; rfl)
      go_wp2
      go_ret
      exact ⟨ret_slice HL.out.symm, rfl⟩
    · obtain ⟨b, off, rfl, _, hc⟩ := HR.out.at_ (by omega)
      have hcm := hc m (by omega)
      have m0 : ((m + 1 : Nat) : Int) = (m : Int) + 1 := by omega
      have m3 : (m : Int) + 1 - 1 = (m : Int) := by omega
      have m2 : (m : Int) + 1 ≤ (n : Int) := by omega
      have m4 : (m : Int) ≤ (c : Int) := by omega
      by_cases hz : zs.getD m 0 = 0
      · rw [hz] at hcm
        have HN := Lib.hid ((HTZ.out m (by omega) hz).trans HTR.out)
        clear hc hz
        go_wp2
        go_round
        case rel => exact ⟨m, by omega, rfl, HN.out⟩
        case measure => simp
      · have hl := HTS.out m (by omega) hz
        rw [HTR.out] at hl
        have HL := Lib.hid hl
        obtain ⟨z, hzz⟩ : ∃ z, zs.getD m 0 = z := ⟨_, rfl⟩
        rw [hzz] at hcm hz
        have tz : (z == 0) = false := by rw [beq_eq_false_iff_ne]; exact hz
        clear hc hl hzz
        go_wp2
        go_ret
        exact ⟨ret_slice HL.out.symm, rfl⟩
theorem r10of_c (n : Int) (n0 : 0 ≤ n) (n1 : n < 18446744073709551616) (w : World) : Calls Tryz.prog 25 #[.int .u64 n] w (RetN w (natL n.toNat)) := by
  have hl : trimL [n % 4294967296, n / 4294967296] = natL n.toNat := by
    rw [trimL_eq (Lim.cons ⟨by omega, by omega⟩ (Lim.cons ⟨by omega, by omega⟩ Lim.nil))]
    congr 1
    show (n % 4294967296).toNat + 4294967296 * ((n / 4294967296).toNat + 4294967296 * 0) = n.toNat
    omega
  have e1 : IntKind.u32.wrap (n % 4294967296) = n % 4294967296 := by rw [IntKind.wrap_u32]; omega
  have e2 : IntKind.u32.wrap (n / 4294967296) = n / 4294967296 := by rw [IntKind.wrap_u32]; omega
  have ht : ∀ (A : Option Addr) W, Rd .u32 W W.heap.size A 2 [n % 4294967296, n / 4294967296] → Calls Tryz.prog 50 #[.slice A 2 2] W fun e w' => e = .returned (.slice A (trimL [n % 4294967296, n / 4294967296]).length 2) ∧ W = w' := fun A W h => r10trim_c _ A 2 2 (by simp [maxLen]) (Nat.le_refl _) W h
  have hrt := fun A W (h : Rd .u32 W W.heap.size A 2 [n % 4294967296, n / 4294967296]) => rd_trim h
  rw [hl] at ht hrt
  have hlt := trimL_len [n % 4294967296, n / 4294967296]
  rw [hl] at hlt
  have HLT := Lib.hid hlt
  obtain ⟨p, hp⟩ : ∃ p, n % 4294967296 = p := ⟨_, rfl⟩
  obtain ⟨q, hq⟩ : ∃ p, n / 4294967296 = p := ⟨_, rfl⟩
  obtain ⟨R, hR⟩ : ∃ p, natL n.toNat = p := ⟨_, rfl⟩
  rw [hp] at e1
  rw [hq] at e2
  rw [hp, hq, hR] at ht hrt
  rw [hR] at HLT ⊢
  have HT := Lib.hid ht
  have HRT := Lib.hid hrt
  have HRD := Lib.hid (rd_two32 w 62 p q)
  have HBL := Lib.hid ((Below.refl w.heap.size w).alloc (Nat.le_refl _) (.cells #[.int .u32 p, .int .u32 q] 62))
  clear ht hrt hl hlt hR
  go_enter Tryz.func25, Tryz.ntmps25
  go_wp2_with (first
    | (go_at_call 50; (with_reducible refine (HT.out _ _ HRD.out).mono ?_); rintro e _ ⟨rfl, rfl⟩))
  go_ret
  exact ⟨_, _, rfl, HLT.out, by simp [maxLen], HRT.out _ _ HRD.out, HBL.out⟩
theorem r10limb_c (zs : List Int) (hz : Lim zs) (A : Option Addr) (n c : Nat) (hn : n ≤ maxLen) (i : Nat) (w : World) (hrd : Rd .u32 w w.heap.size A n zs) : Calls Tryz.prog 73 #[.slice A n c, .int .i64 (i : Int)] w fun e w' => e = .returned (.int .u64 (zs.getD i 0)) ∧ w = w' := by
  have hlen := hrd.len
  have hnm : (n : Int) ≤ 9223372036854775807 := by unfold maxLen at hn; omega
  by_cases hlt : i < n
  · obtain ⟨b, off, rfl, _, hc⟩ := hrd.at_ (by omega)
    have hci := hc i hlt
    have hzi := hz.getD i
    obtain ⟨z, hzz⟩ : ∃ z, zs.getD i 0 = z := ⟨_, rfl⟩
    rw [hzz] at hci hzi ⊢
    obtain ⟨z0, z1⟩ := hzi
    clear hrd hc hn hz hzz
    go_enter Tryz.func73, Tryz.ntmps73
    go_wp2
    go_ret
    exact ⟨rfl, rfl⟩
  · have hv : zs.getD i 0 = 0 := by rw [List.getD_eq_getElem?_getD, List.getElem?_eq_none (by omega)]; rfl
    rw [hv]
    clear hrd hn hz hv
    go_enter Tryz.func73, Tryz.ntmps73
    go_wp2
    go_ret
    exact ⟨rfl, rfl⟩
set_option maxHeartbeats 4000000 in
theorem r10sum_c (xs ys : List Int) (hx : Lim xs) (hy : Lim ys) (A B : Option Addr) (n m c d : Nat) (hn : n ≤ 100000) (hm : m ≤ 100000) (w : World) (hra : Rd .u32 w w.heap.size A n xs) (hrb : Rd .u32 w w.heap.size B m ys) : Calls Tryz.prog 47 #[.slice A n c, .slice B m d] w (RetN w (natL (valL xs + valL ys))) := by
  have hlx := hra.len
  have hly := hrb.len
  have HRA := Lib.hid hra
  have HRB := Lib.hid hrb
  obtain ⟨i0, hi0, hz0, hz1, hzb⟩ := info_parts info_u32d
  have HLA := Lib.hid (fun (i : Nat) W (h : Rd .u32 W W.heap.size A n xs) => r10limb_c xs hx A n c (by unfold maxLen; omega) i W h)
  have HLB := Lib.hid (fun (i : Nat) W (h : Rd .u32 W W.heap.size B m ys) => r10limb_c ys hy B m d (by unfold maxLen; omega) i W h)
  have HXG := Lib.hid (fun i => hx.getD i)
  have HYG := Lib.hid (fun i => hy.getD i)
  have HXD := Lib.hid (fun i => valL_drop_getD xs i)
  have HYD := Lib.hid (fun i => valL_drop_getD ys i)
  have HXE := Lib.hid (fun i (h : n ≤ i) => show xs.getD i 0 = 0 by rw [List.getD_eq_getElem?_getD, List.getElem?_eq_none (by omega)]; rfl)
  have HYE := Lib.hid (fun i (h : m ≤ i) => show ys.getD i 0 = 0 by rw [List.getD_eq_getElem?_getD, List.getElem?_eq_none (by omega)]; rfl)
  have HDX := Lib.hid (fun i (h : n ≤ i) => show valL (xs.drop i) = 0 by rw [List.drop_eq_nil_of_le (by omega)]; rfl)
  have HDY := Lib.hid (fun i (h : m ≤ i) => show valL (ys.drop i) = 0 by rw [List.drop_eq_nil_of_le (by omega)]; rfl)
  have hst : valL [] + 4294967296 ^ 0 * (0 + valL (xs.drop 0) + valL (ys.drop 0)) = valL xs + valL ys := by rw [List.drop_zero, List.drop_zero, Nat.pow_zero, valL]; omega
  have HST := Lib.hid hst
  obtain ⟨V, hV⟩ : ∃ V, valL xs + valL ys = V := ⟨_, rfl⟩
  rw [hV] at HST ⊢
  clear hra hrb hx hy hst hlx hly hV
  go_enter Tryz.func47, Tryz.ntmps47
  go_wp2
  go_loopw [5, 6, 7] (fun v cc ii wr => ∃ (i r : Nat) (out : List Int), i ≤ n + m + 1 ∧ (i = n + m + 1 → r = 0) ∧ r ≤ 1 ∧ cc = .int .u64 (r : Int) ∧ ii = .int .i64 (i : Int) ∧ out.length = i ∧ Lim out ∧ valL out + 4294967296 ^ i * (r + valL (xs.drop i) + valL (ys.drop i)) = V ∧ OwnI wr w.heap.size 62 .u32 v out ∧ Below w.heap.size w wr) (fun _ _ ii _ => n + m + 1 - (intOf ii).toNat)
  case atStart => exact ⟨0, 0, [], by omega, fun h => rfl, by omega, rfl, rfl, rfl, Lim.nil, HST.out, own_nil _ _ _, Below.refl _ _⟩
  case round =>
    clear HST
    obtain ⟨i, r, out, hi, hir, hr1, rfl, rfl, hol, hlo, hval, hown, hbl⟩ := hrel
    have HOW := Lib.hid hown
    have HBL := Lib.hid hbl
    have hsz := hbl.size
    by_cases hgo : i < n ∨ i < m ∨ 0 < r
    · have hxi := HXG.out i
      have hyi := HYG.out i
      have hla := fun W (h : Rd .u32 W W.heap.size A n xs) => HLA.out i W h
      have hlb := fun W (h : Rd .u32 W W.heap.size B m ys) => HLB.out i W h
      rw [HXD.out i, HYD.out i] at hval
      have hxe := HXE.out i
      have hye := HYE.out i
      obtain ⟨x, hxx⟩ : ∃ x, xs.getD i 0 = x := ⟨_, rfl⟩
      obtain ⟨y, hyy⟩ : ∃ x, ys.getD i 0 = x := ⟨_, rfl⟩
      rw [hxx] at hxi hla hval hxe
      rw [hyy] at hyi hlb hval hye
      obtain ⟨s, hs⟩ : ∃ s : Nat, s = x.toNat + y.toNat + r := ⟨_, rfl⟩
      have hsI : x + y + (r : Int) = (s : Int) := by omega
      have hmod : (s : Int) % 4294967296 = ((s % 4294967296 : Nat) : Int) := by omega
      have hdiv : (s : Int) / 4294967296 = ((s / 4294967296 : Nat) : Int) := by omega
      obtain ⟨p, hp⟩ : ∃ p, s % 4294967296 = p := ⟨_, rfl⟩
      obtain ⟨q, hq⟩ : ∃ p, s / 4294967296 = p := ⟨_, rfl⟩
      rw [hp] at hmod
      rw [hq] at hdiv
      have hpq : p + 4294967296 * q = s := by omega
      have hp1 : (p : Int) < 4294967296 := by omega
      have hq1 : q ≤ 1 := by omega
      have hiI : (i : Int) ≤ 200000 := by omega
      have hnew := carry_step (4294967296 ^ i) p q r x.toNat y.toNat (valL (xs.drop (i + 1))) (valL (ys.drop (i + 1))) (by omega)
      have hi2 : i + 1 ≤ n + m + 1 := by omega
      have hi3 : i + 1 = n + m + 1 → q = 0 := fun h => by
        have := hxe (by omega)
        have := hye (by omega)
        omega
      have hlo2 : Lim (out ++ [(p : Int)]) := hlo.app (Lim.cons ⟨by omega, hp1⟩ Lim.nil)
      have hval2 : valL (out ++ [(p : Int)]) + 4294967296 ^ (i + 1) * (q + valL (xs.drop (i + 1)) + valL (ys.drop (i + 1))) = V := by
        rw [valL_app, hol, Nat.pow_succ]
        show valL out + 4294967296 ^ i * ((p : Int).toNat + 4294967296 * 0) + _ = V
        rw [Nat.mul_zero, Nat.add_zero, Int.toNat_natCast, Nat.add_assoc, hnew]
        exact hval
      have hol2 : (out ++ [(p : Int)]).length = i + 1 := by rw [List.length_append, hol]; rfl
      have HV2 := Lib.hid hval2
      have HL2 := Lib.hid hlo2
      have HO2 := Lib.hid hol2
      have HI3 := Lib.hid hi3
      have HPO := Lib.hid hol
      have HLA1 := Lib.hid hla
      have HLB1 := Lib.hid hlb
      have hor : ((i : Int) < (n : Int)) ∨ (¬ (i : Int) < (n : Int) ∧ (i : Int) < (m : Int)) ∨ (¬ (i : Int) < (n : Int) ∧ ¬ (i : Int) < (m : Int) ∧ (0 : Int) < (r : Int)) := by omega
      obtain ⟨x0, x1⟩ := hxi
      obtain ⟨y0, y1⟩ := hyi
      clear hnew hi3 hlo2 hval2 hol2 hol hlo hval hla hlb hown hbl hxe hye hxx hyy hs hp hq hpq hir
      have hmw : IntKind.u32.wrap (p : Int) = (p : Int) := by rw [IntKind.wrap_u32]; omega
      have HI2 := Lib.hid hi2
      have HQ1 := Lib.hid hq1
      have r0 : (0 : Int) ≤ (r : Int) := by omega
      have r1 : (r : Int) ≤ 1 := by omega
      have p0 : (0 : Int) ≤ (p : Int) := by omega
      have HSZ := Lib.hid hsz
      have hwsz : w.heap.size ≤ wr.heap.size + 1 := by omega
      have HWS := Lib.hid hwsz
      have hor2 : ((i : Int) < (n : Int)) ∨ (¬ (i : Int) < (n : Int) ∧ (i : Int) < (m : Int)) ∨ (¬ (i : Int) < (n : Int) ∧ ¬ (i : Int) < (m : Int) ∧ (0 : Int) < (r : Int)) := hor
      clear hi hi2 hq1 hr1 hgo hsz hwsz hor hn hm hp1
      rcases hor2 with h | ⟨h, h'⟩ | ⟨h, h', h''⟩
      all_goals
        go_wp2_with (first
          | (go_at_call 73; (with_reducible refine (HLA1.out _ ((HRA.out.below HBL.out).mono HSZ.out)).mono ?_); rintro e _ ⟨rfl, rfl⟩)
          | (go_at_call 73; (with_reducible refine (HLB1.out _ ((HRB.out.below HBL.out).mono HSZ.out)).mono ?_); rintro e _ ⟨rfl, rfl⟩)
          | (at_builtin; refine wpList_append_ints _ rfl (.tmp 34) (.tmp 38) 49 rfl w.heap.size 62 i0 _ 4 .u32 Tryz.underlying49 hi0 hz0 hz1 hzb rfl _ out rfl (HOW.out.alloc _) (wr.heap.size + 1) (some ⟨wr.heap.size, 0, none⟩) 1 1 [(p : Int)] rfl (rd_one wr 62 .u32 (p : Int)) (by have := HPO.out; simp [maxLen]; omega) (by have := HPO.out; omega) (by have := HWS.out; simp; omega) ?_; intro v6 w6 hown6 hg6 hat6; have hb6 : Below w.heap.size w w6 := (HOW.out.alloc _).below_ (HBL.out.alloc HSZ.out _) (by have := HWS.out; simp; omega) hg6; have HO6 := Lib.hid hown6; have HB6 := Lib.hid hb6; clear hown6 hb6 hg6 hat6))
        go_roundw
        case rel => exact ⟨i + 1, q, _, HI2.out, HI3.out, HQ1.out, rfl, by go_num, HO2.out, HL2.out, HV2.out, HO6.out, HB6.out⟩
        case measure => have := HI2.out; simp [intOf]; omega
    · obtain rfl : r = 0 := by omega
      rw [HDX.out i (by omega), HDY.out i (by omega)] at hval
      simp only [Nat.add_zero, Nat.mul_zero] at hval
      obtain ⟨A7, c7, hv7, hc7, hm7⟩ := hown.form
      subst hv7
      have hrd7 := hown.rd rfl
      have htr := r10trim_c out A7 out.length c7 (by unfold maxLen; omega) hc7 wr hrd7
      have hrt := rd_trim hrd7
      have htl := trimL_len out
      rw [trimL_eq hlo, hval] at htr hrt htl
      have HTR := Lib.hid htr
      have HRT := Lib.hid hrt
      have HTL := Lib.hid (Nat.le_trans htl hc7)
      have HM7 := Lib.hid hm7
      have hi1 : (n : Int) ≤ (i : Int) := by omega
      have hi2 : (m : Int) ≤ (i : Int) := by omega
      have hi3 : (i : Int) ≤ 200001 := by omega
      clear hown htr hrt htl hrd7 HOW hval hlo hol hir hbl hc7 hm7
      go_wp2_with (first
        | (go_at_call 50; (with_reducible refine HTR.out.mono ?_); rintro e _ ⟨rfl, rfl⟩))
      go_ret
      exact ⟨_, _, rfl, HTL.out, HM7.out, HRT.out, HBL.out⟩
end
section
open Go.ChangeShapes Go.WideShapes Go.ChangeAt Go.RowKit
set_option maxHeartbeats 8000000 in
theorem r10times_c (xs ys : List Int) (hx : Lim xs) (hy : Lim ys) (A B : Option Addr) (n m c d : Nat) (hn : n ≤ 100000) (hm : m ≤ 100000) (w : World) (hra : Rd .u32 w w.heap.size A n xs) (hrb : Rd .u32 w w.heap.size B m ys) : Calls Tryz.prog 46 #[.slice A n c, .slice B m d] w (RetN w (natL (valL xs * valL ys))) := by
  have hlx := hra.len
  have hly := hrb.len
  have HRA := Lib.hid hra
  have HRB := Lib.hid hrb
  obtain ⟨i0, hi0, hz0, hz1, hzb⟩ := info_parts info_u32d
  have HLB := Lib.hid (fun (i : Nat) W (h : Rd .u32 W W.heap.size B m ys) => r10limb_c ys hy B m d (by unfold maxLen; omega) i W h)
  have HXG := Lib.hid (fun i => hx.getD i)
  have HYG := Lib.hid (fun i => hy.getD i)
  have HYD := Lib.hid (fun i => valL_drop_getD ys i)
  have HXT := Lib.hid (fun i (h : i < n) => valL_take_succ xs i (by omega))
  have HYE := Lib.hid (fun i (h : m ≤ i) => show ys.getD i 0 = 0 by rw [List.getD_eq_getElem?_getD, List.getElem?_eq_none (by omega)]; rfl)
  have HDY := Lib.hid (fun i (h : m ≤ i) => show valL (ys.drop i) = 0 by rw [List.drop_eq_nil_of_le (by omega)]; rfl)
  have hyl := valL_lt hy
  have hxl := fun i => valL_lt (hx.take i)
  rw [hly] at hyl
  have HYL := Lib.hid hyl
  have HXL := Lib.hid hxl
  obtain ⟨L, hL⟩ : ∃ L, n + m = L := ⟨_, rfl⟩
  have hLI : (n : Int) + (m : Int) = (L : Int) := by omega
  have hL2 : (L : Int) ≤ 200000 := by omega
  have hmk : ∀ W, (Instr.makeSlice 49 (.int .i64 (L : Int)) (.int .i64 (L : Int))).run Tryz.prog W = .ok (.slice (some ⟨W.heap.size, 0, none⟩) L L) (W.alloc (.cells (intsA .u32 (List.replicate L 0)) 62)) := fun W => run_make_ints (P := Tryz.prog) 49 62 i0 .u32 Tryz.underlying49 hi0 hz0 hz1 .i64 .i64 L (by rw [hzb]; omega) (by omega) W
  have HS0 : Hid (NatS w w.heap.size (List.replicate L 0) (w.alloc (.cells (intsA .u32 (List.replicate L 0)) 62))) := Lib.hid ⟨Blk.new _ _ _, Nat.le_refl _, (Below.refl _ _).alloc (Nat.le_refl _) _⟩
  have hst : valL (List.replicate L 0) = valL (xs.take 0) * valL ys := by rw [valL_rep, List.take_zero]; show 0 = 0 * _; omega
  have HST := Lib.hid hst
  have htk : xs.take n = xs := by rw [← hlx, List.take_length]
  obtain ⟨Y, hY⟩ : ∃ Y, valL ys = Y := ⟨_, rfl⟩
  rw [hY] at HYL HST ⊢
  have hY0 : valL (ys.drop 0) = Y := by rw [List.drop_zero]; exact hY
  have HY0 := Lib.hid hY0
  clear hra hrb hx hy hst hly hyl hxl hY hY0 hlx hi0 hz0 hz1 hzb
  go_enter Tryz.func46, Tryz.ntmps46
  go_wp2
  clear hmk hLI
  obtain ⟨g, hg⟩ : ∃ g, w.heap.size = g := ⟨_, rfl⟩
  have HS1 : Hid (NatS w g (List.replicate L 0) (w.alloc (.cells (intsA .u32 (List.replicate L 0)) 62))) := by rw [← hg]; exact HS0
  rw [hg]
  clear hg HS0
  obtain ⟨w1, hw1⟩ : ∃ w1, w.alloc (.cells (intsA .u32 (List.replicate L 0)) 62) = w1 := ⟨_, rfl⟩
  rw [hw1] at HS1
  rw [hw1]
  clear hw1
  go_loopw [6] (fun ii wr => ∃ (i : Nat) (out : List Int), i ≤ n ∧ ii = .int .i64 (i : Int) ∧ out.length = L ∧ Lim out ∧ valL out = valL (xs.take i) * Y ∧ NatS w g out wr) (fun ii _ => n - (intOf ii).toNat)
  case atStart => exact ⟨0, _, by omega, rfl, List.length_replicate, Lim.rep _, HST.out, HS1.out⟩
  case round =>
    clear HST HS1
    obtain ⟨i, out0, hi, rfl, hol, hlo, hval, hns⟩ := hrel
    by_cases hin : i < n
    · have HNS := Lib.hid hns
      have hxi := HXG.out i
      have hxt := HXT.out i hin
      obtain ⟨b, off, rfl, hblt, hxc⟩ := HRA.out.at_ (by omega)
      have hxci := hxc i hin
      obtain ⟨x, hxx⟩ : ∃ x, xs.getD i 0 = x := ⟨_, rfl⟩
      rw [hxx] at hxi hxci hxt
      have HXC0 := Lib.hid (fun W (h : Below w.heap.size w W) => (h.cell (p := ⟨b, off + i, none⟩) hblt).trans hxci)
      have HXT1 := Lib.hid hxt
      have hzt : out0.getD (i + m) 0 = 0 := limb_zero hlo (by
        rw [hval, Nat.pow_add]
        have h1 := HXL.out i
        have h2 := HYL.out
        have h3 : (xs.take i).length = i := by rw [List.length_take, HRA.out.len]; omega
        rw [h3] at h1
        exact Nat.mul_lt_mul'' h1 h2)
      obtain ⟨V, hV⟩ : ∃ V, valL out0 + 4294967296 ^ i * (0 + x.toNat * Y) = V := ⟨_, rfl⟩
      have HST : Hid (valL out0 + 4294967296 ^ (i + 0) * (0 + x.toNat * valL (ys.drop 0)) = V) := Lib.hid (by rw [HY0.out, Nat.add_zero]; exact hV)
      have HVV : Hid (V = valL (xs.take (i + 1)) * Y) := Lib.hid (by
        rw [← hV, hval, HXT1.out, Nat.zero_add, Nat.add_mul, Nat.mul_assoc])
      have HZT := Lib.hid hzt
      have HOL := Lib.hid hol
      have HLO := Lib.hid hlo
      have hiI : (i : Int) < (n : Int) := by omega
      have HIN := Lib.hid hiI
      have hi1 : i + 1 ≤ n := by omega
      have HI1 := Lib.hid hi1
      obtain ⟨x0, x1⟩ := hxi
      have HX1 := Lib.hid x1
      have hxn : x.toNat < 4294967296 := by omega
      have hxN : ((x.toNat : Nat) : Int) = x := Int.toNat_of_nonneg x0
      have HXN := Lib.hid hxN
      have HXB := Lib.hid hxn
      have HXW := Lib.hid (show IntKind.u64.wrap x = x by rw [IntKind.wrap_u64]; omega)
      clear hns hol hlo hval hxt hxc hxci hxx hzt hV hblt hi hxn hxN
      go_wp2
      obtain ⟨wo, hwo⟩ : ∃ wo : World, wo = wr := ⟨_, rfl⟩
      rw [← hwo] at HNS
      rw [← hwo]
      clear hwo wr
      go_loopw [7, 8] (fun cc kk wr => ∃ (k r : Nat) (out : List Int), k ≤ m + 1 ∧ (k = m + 1 → r = 0) ∧ r < 4294967296 ∧ cc = .int .u64 (r : Int) ∧ kk = .int .i64 (k : Int) ∧ out.length = L ∧ Lim out ∧ valL out + 4294967296 ^ (i + k) * (r + x.toNat * valL (ys.drop k)) = V ∧ (k ≤ m → out.getD (i + m) 0 = 0) ∧ NatS w g out wr) (fun _ kk _ => m + 1 - (intOf kk).toNat)
      case atStart => exact ⟨0, 0, out0, by omega, fun h => rfl, by omega, rfl, rfl, HOL.out, HLO.out, HST.out, fun _ => HZT.out, HNS.out⟩
      case round =>
        clear HST HNS HOL HLO HZT
        obtain ⟨k, r, out, hk, hkr, hr1, rfl, rfl, hol, hlo, hval, hzt, hns⟩ := hrel
        by_cases hgo : k < m ∨ 0 < r
        · have hkm : k ≤ m := by
            rcases hgo with h | h
            · omega
            · rcases Nat.lt_or_ge k (m + 1) with h2 | h2
              · omega
              · have := hkr (by omega); omega
          have hyi := HYG.out k
          have hye := HYE.out k
          have hlb := fun W (h : Rd .u32 W W.heap.size B m ys) => HLB.out k W h
          rw [HYD.out k] at hval
          obtain ⟨y, hyy⟩ : ∃ x, ys.getD k 0 = x := ⟨_, rfl⟩
          rw [hyy] at hyi hlb hval hye
          obtain ⟨j, hj⟩ : ∃ j, i + k = j := ⟨_, rfl⟩
          have hjL : j < L := by have := HI1.out; omega
          have hoi := hlo.getD j
          obtain ⟨o, hoo⟩ : ∃ o, out.getD j 0 = o := ⟨_, rfl⟩
          have hoc := fun W (h : NatS w g out W) => h.at_ (j := j) (by omega)
          rw [hoo] at hoi hoc
          have hxb := mul_bound HXB.out (show y.toNat < 4294967296 by omega)
          obtain ⟨t, ht⟩ : ∃ t, x.toNat * y.toNat = t := ⟨_, rfl⟩
          have htI : x * y = (t : Int) := by
            rw [← ht, Int.natCast_mul, HXN.out, Int.toNat_of_nonneg hyi.1]
          rw [ht] at hxb
          obtain ⟨s, hs⟩ : ∃ s : Nat, s = o.toNat + t + r := ⟨_, rfl⟩
          have hsI : o + (t : Int) + (r : Int) = (s : Int) := by omega
          have hmod : (s : Int) % 4294967296 = ((s % 4294967296 : Nat) : Int) := by omega
          have hdiv : (s : Int) / 4294967296 = ((s / 4294967296 : Nat) : Int) := by omega
          have hsb : s < 18446744073709551616 := by omega
          obtain ⟨p, hp⟩ : ∃ p, s % 4294967296 = p := ⟨_, rfl⟩
          obtain ⟨q, hq⟩ : ∃ p, s / 4294967296 = p := ⟨_, rfl⟩
          rw [hp] at hmod
          rw [hq] at hdiv
          have hpq : p + 4294967296 * q = s := by omega
          have hset := valL_set out j (p : Int) (by omega)
          rw [hoo, Int.toNat_natCast] at hset
          rw [hj] at hval
          have hnew := mul_step (4294967296 ^ j) p q r o.toNat x.toNat y.toNat (valL (ys.drop (k + 1))) (valL out) (valL (out.set j (p : Int))) V (by rw [ht]; omega) hset hval
          have HV2 : Hid (valL (out.set j (p : Int)) + 4294967296 ^ (i + (k + 1)) * (q + x.toNat * valL (ys.drop (k + 1))) = V) := Lib.hid (by rw [← Nat.add_assoc, hj, Nat.pow_succ]; exact hnew)
          have HLM2 := Lib.hid (hlo.set j (x := (p : Int)) ⟨by omega, by omega⟩)
          have HL2 : Hid ((out.set j (p : Int)).length = L) := Lib.hid (by rw [List.length_set]; exact hol)
          have HK2 : Hid (k + 1 ≤ m + 1) := Lib.hid (by omega)
          have HQ1 : Hid (q < 4294967296) := Lib.hid (by omega)
          have HK3 : Hid (k + 1 = m + 1 → q = 0) := Lib.hid (fun h => by
            obtain rfl : k = m := by omega
            have h1 := hye (Nat.le_refl _)
            have h2 := hzt (Nat.le_refl _)
            rw [hj, hoo] at h2
            subst h1 h2
            have : t = 0 := by rw [← ht]; rfl
            omega)
          have HZ2 : Hid (k + 1 ≤ m → (out.set j (p : Int)).getD (i + m) 0 = 0) := Lib.hid (fun h => by
            have h2 := hzt hkm
            rw [List.getD_eq_getElem?_getD] at h2 ⊢
            rw [List.getElem?_set_ne (by omega)]
            exact h2)
          have HIK := Lib.hid (show (i : Int) + (k : Int) = (j : Int) by omega)
          have HJW := Lib.hid (show IntKind.i64.wrap (j : Int) = (j : Int) by rw [IntKind.wrap_i64]; omega)
          have HJL := Lib.hid (show (j : Int) < (L : Int) by omega)
          have HOC := Lib.hid hoc
          have HOW := Lib.hid (show IntKind.u64.wrap o = o by rw [IntKind.wrap_u64]; omega)
          have HXC := Lib.hid (fun W (h : NatS w g out W) => HXC0.out W h.bel)
          obtain ⟨xy, hxy⟩ : ∃ z : Int, (t : Int) = z := ⟨_, rfl⟩
          rw [hxy] at htI hsI
          have HXY := Lib.hid htI
          have HXYW := Lib.hid (show IntKind.u64.wrap xy = xy by rw [IntKind.wrap_u64]; omega)
          have HOXW := Lib.hid (show IntKind.u64.wrap (o + xy) = o + xy by rw [IntKind.wrap_u64]; omega)
          have HSI := Lib.hid hsI
          have HSW := Lib.hid (show IntKind.u64.wrap (s : Int) = (s : Int) by rw [IntKind.wrap_u64]; omega)
          have HLB1 := Lib.hid hlb
          have HJS := Lib.hid (nat_lt (out := out) (j := j) (by omega))
          have hpw : IntKind.u32.wrap (p : Int) = (p : Int) := by rw [IntKind.wrap_u32]; omega
          have HPW := Lib.hid hpw
          have HNS := Lib.hid hns
          have hor : ((k : Int) < (m : Int)) ∨ (¬ (k : Int) < (m : Int) ∧ (0 : Int) < (r : Int)) := by omega
          have r1 : (r : Int) ≤ 4294967296 := by omega
          have k1 : (k : Int) ≤ 100001 := by omega
          have j1 : (j : Int) < (L : Int) := by omega
          clear hk hkr hr1 hol hlo hval hzt hns hgo hkm hyi hye hlb hyy hj hjL hoi hoo hoc hxb ht htI hs hsI hp hq hpq hset hnew hxy hsb
          rcases hor with h | ⟨h, h'⟩
          all_goals
            go_wp2
            refine wp_region_held_drew (S := (NatS w g out)) (by kernel_rfl) (HNS.out.drew) (fun hH => ?_)
            refine wpAnyH_letter #[false, false, false, false, false, false, false, false, false, false, false, false, false, false, false, false, false, false, false, false] (by kernel_rfl) (fun _ _ d _ _ h => by cases d <;> exact h) (fun QL HQ1 HQ2 => ?_)
            refine held_v 0 (some 32) rfl (by kernel_rfl) (by kernel_rfl) (by kernel_rfl) (by kernel_rfl) (fun c a v w h => HQ2.out c a _ v w h) (by kernel_rfl) (.slice (some ⟨g, 0, none⟩) L L) (fun W h => by kernel_rfl) hH ?_
            try simp only [Act.put, List.setIfInBounds_toArray, List.set_cons_zero, List.set_cons_succ]
            refine held_v 1 (some 33) rfl (by kernel_rfl) (by kernel_rfl) (by kernel_rfl) (by kernel_rfl) (fun c a v w h => HQ2.out c a _ v w h) (by kernel_rfl) (.int .i64 (i : Int)) (fun W h => by kernel_rfl) hH ?_
            try simp only [Act.put, List.setIfInBounds_toArray, List.set_cons_zero, List.set_cons_succ]
            refine held_v 2 (some 34) rfl (by kernel_rfl) (by kernel_rfl) (by kernel_rfl) (by kernel_rfl) (fun c a v w h => HQ2.out c a _ v w h) (by kernel_rfl) (.int .i64 (k : Int)) (fun W h => by kernel_rfl) hH ?_
            try simp only [Act.put, List.setIfInBounds_toArray, List.set_cons_zero, List.set_cons_succ]
            refine held_v 3 (some 35) rfl (by kernel_rfl) (by kernel_rfl) (by kernel_rfl) (by kernel_rfl) (fun c a v w h => HQ2.out c a _ v w h) (by kernel_rfl) (.int .i64 (j : Int)) (fun W h => by have p := HIK.out; have p2 := HJW.out; go_simp) hH ?_
            try simp only [Act.put, List.setIfInBounds_toArray, List.set_cons_zero, List.set_cons_succ]
            refine held_v 4 (some 36) rfl (by kernel_rfl) (by kernel_rfl) (by kernel_rfl) (by kernel_rfl) (fun c a v w h => HQ2.out c a _ v w h) (by kernel_rfl) (.pointer (some ⟨g, j, none⟩)) (fun W h => by have p := HJL.out; go_simp) hH ?_
            try simp only [Act.put, List.setIfInBounds_toArray, List.set_cons_zero, List.set_cons_succ]
            refine held_v 5 (some 37) rfl (by kernel_rfl) (by kernel_rfl) (by kernel_rfl) (by kernel_rfl) (fun c a v w h => HQ2.out c a _ v w h) (by kernel_rfl) (.int .u32 o) (fun W h => by have p := HOC.out W h; go_simp) hH ?_
            try simp only [Act.put, List.setIfInBounds_toArray, List.set_cons_zero, List.set_cons_succ]
            refine held_v 6 (some 38) rfl (by kernel_rfl) (by kernel_rfl) (by kernel_rfl) (by kernel_rfl) (fun c a v w h => HQ2.out c a _ v w h) (by kernel_rfl) (.int .u64 o) (fun W h => by have p := HOW.out; go_simp) hH ?_
            try simp only [Act.put, List.setIfInBounds_toArray, List.set_cons_zero, List.set_cons_succ]
            refine held_v 7 (some 39) rfl (by kernel_rfl) (by kernel_rfl) (by kernel_rfl) (by kernel_rfl) (fun c a v w h => HQ2.out c a _ v w h) (by kernel_rfl) (.slice (some ⟨b, off, none⟩) n c) (fun W h => by kernel_rfl) hH ?_
            try simp only [Act.put, List.setIfInBounds_toArray, List.set_cons_zero, List.set_cons_succ]
            refine held_v 8 (some 40) rfl (by kernel_rfl) (by kernel_rfl) (by kernel_rfl) (by kernel_rfl) (fun c a v w h => HQ2.out c a _ v w h) (by kernel_rfl) (.int .i64 (i : Int)) (fun W h => by kernel_rfl) hH ?_
            try simp only [Act.put, List.setIfInBounds_toArray, List.set_cons_zero, List.set_cons_succ]
            refine held_v 9 (some 41) rfl (by kernel_rfl) (by kernel_rfl) (by kernel_rfl) (by kernel_rfl) (fun c a v w h => HQ2.out c a _ v w h) (by kernel_rfl) (.pointer (some ⟨b, off + i, none⟩)) (fun W h => by have p := HIN.out; go_simp) hH ?_
            try simp only [Act.put, List.setIfInBounds_toArray, List.set_cons_zero, List.set_cons_succ]
            refine held_v 10 (some 42) rfl (by kernel_rfl) (by kernel_rfl) (by kernel_rfl) (by kernel_rfl) (fun c a v w h => HQ2.out c a _ v w h) (by kernel_rfl) (.int .u32 x) (fun W h => by have p := HXC.out W h; go_simp) hH ?_
            try simp only [Act.put, List.setIfInBounds_toArray, List.set_cons_zero, List.set_cons_succ]
            refine held_v 11 (some 43) rfl (by kernel_rfl) (by kernel_rfl) (by kernel_rfl) (by kernel_rfl) (fun c a v w h => HQ2.out c a _ v w h) (by kernel_rfl) (.int .u64 x) (fun W h => by have p := HXW.out; go_simp) hH ?_
            try simp only [Act.put, List.setIfInBounds_toArray, List.set_cons_zero, List.set_cons_succ]
            refine held_v 12 (some 44) rfl (by kernel_rfl) (by kernel_rfl) (by kernel_rfl) (by kernel_rfl) (fun c a v w h => HQ2.out c a _ v w h) (by kernel_rfl) (.slice B m d) (fun W h => by kernel_rfl) hH ?_
            try simp only [Act.put, List.setIfInBounds_toArray, List.set_cons_zero, List.set_cons_succ]
            refine held_v 13 (some 45) rfl (by kernel_rfl) (by kernel_rfl) (by kernel_rfl) (by kernel_rfl) (fun c a v w h => HQ2.out c a _ v w h) (by kernel_rfl) (.int .i64 (k : Int)) (fun W h => by kernel_rfl) hH ?_
            try simp only [Act.put, List.setIfInBounds_toArray, List.set_cons_zero, List.set_cons_succ]
            refine held_v 17 (some 49) rfl (by kernel_rfl) (by kernel_rfl) (by kernel_rfl) (by kernel_rfl) (fun c a v w h => HQ2.out c a _ v w h) (by kernel_rfl) (.int .u64 (r : Int)) (fun W h => by kernel_rfl) hH ?_
            try simp only [Act.put, List.setIfInBounds_toArray, List.set_cons_zero, List.set_cons_succ]
            refine wpAnyH_ready (rs := [14]) (by kernel_rfl) (by decide) ?_
            refine AllReadyH.cons rfl (fun K hK => ?_) AllReadyH.nil
            refine step_call (some 46) (by kernel_rfl) (by kernel_rfl) _ _ (by kernel_rfl) _ (HLB1.out _ (HRB.out.below (NatS.bel hH)).fit) ?_
            rintro e _ ⟨rfl, rfl⟩
            refine ⟨_, rfl, ?_⟩
            refine hK.out _ _ hH (fun _ => ?_)
            clear hK K
            try simp only [Act.put, List.setIfInBounds_toArray, List.set_cons_zero, List.set_cons_succ]
            refine held_v 15 (some 47) rfl (by kernel_rfl) (by kernel_rfl) (by kernel_rfl) (by kernel_rfl) (fun c a v w h => HQ2.out c a _ v w h) (by kernel_rfl) (.int .u64 xy) (fun W h => by have p := HXY.out; have p2 := HXYW.out; go_simp) hH ?_
            try simp only [Act.put, List.setIfInBounds_toArray, List.set_cons_zero, List.set_cons_succ]
            refine held_v 16 (some 48) rfl (by kernel_rfl) (by kernel_rfl) (by kernel_rfl) (by kernel_rfl) (fun c a v w h => HQ2.out c a _ v w h) (by kernel_rfl) (.int .u64 (o + xy)) (fun W h => by have p := HOXW.out; go_simp) hH ?_
            try simp only [Act.put, List.setIfInBounds_toArray, List.set_cons_zero, List.set_cons_succ]
            refine held_v 18 (some 50) rfl (by kernel_rfl) (by kernel_rfl) (by kernel_rfl) (by kernel_rfl) (fun c a v w h => HQ2.out c a _ v w h) (by kernel_rfl) (.int .u64 (s : Int)) (fun W h => by have p := HSI.out; have p2 := HSW.out; go_simp) hH ?_
            try simp only [Act.put, List.setIfInBounds_toArray, List.set_cons_zero, List.set_cons_succ]
            refine held_v 19 (some 9) rfl (by kernel_rfl) (by kernel_rfl) (by kernel_rfl) (by kernel_rfl) (fun c a v w h => HQ2.out c a _ v w h) (by kernel_rfl) (.int .u64 (s : Int)) (fun W h => by kernel_rfl) hH ?_
            try simp only [Act.put, List.setIfInBounds_toArray, List.set_cons_zero, List.set_cons_succ]
            refine wpAnyH_done (by kernel_rfl) ?_ _
            refine HQ1.out _ _ ?_
            clear HQ1 HQ2
            have HH := Lib.hid hH
            have e1 := HIK.out
            have e2 := HPW.out
            have e3 : IntKind.u64.wrap (q : Int) = (q : Int) := by have := HQ1.out; rw [IntKind.wrap_u64]; omega
            go_wp2_with (first
              | (with_reducible refine at_any ?_; refine at_store 60 rfl ?_; refine wpList_store_cell rfl 62 (.tmp 60) (.tmp 57) rfl g j rfl 62 (intsA .u32 out) (NatS.blk HH.out) (.int .u32 (p : Int)) rfl HJS.out size_u32s rfl rfl ?_; intro w90 hk90 ho90; have HF9 := Lib.hid (NatS.set HH.out hk90.out ho90); clear hk90 ho90))
            go_roundw
            case rel => exact ⟨k + 1, q, _, HK2.out, HK3.out, HQ1.out, rfl, by go_num, HL2.out, HLM2.out, HV2.out, HZ2.out, HF9.out⟩
            case measure => have := HK2.out; simp [intOf]; omega
        · obtain rfl : r = 0 := by omega
          have hVt := hval
          rw [HDY.out k (by omega), Nat.mul_zero, Nat.zero_add, Nat.mul_zero, Nat.add_zero] at hVt
          have HVT := Lib.hid (hVt.trans HVV.out)
          have HOL2 := Lib.hid hol
          have HLO2 := Lib.hid hlo
          have HN2 := Lib.hid hns
          have h1 : (m : Int) ≤ (k : Int) := by omega
          clear hk hkr hr1 hol hlo hval hzt hns hgo hVt
          go_wp2
          go_roundw
          case rel => exact ⟨i + 1, _, HI1.out, by go_num, HOL2.out, HLO2.out, HVT.out, HN2.out⟩
          case measure => have := HI1.out; simp [intOf]; omega
    · obtain rfl : i = n := by omega
      rw [htk] at hval
      have hrd7 := hns.rd
      have htr := r10trim_c out0 (some ⟨g, 0, none⟩) out0.length L (by unfold maxLen; omega) (by omega) wr hrd7
      have hrt := rd_trim hrd7
      have htl := trimL_len out0
      rw [trimL_eq hlo, hval] at htr hrt htl
      rw [hol] at htr htl
      have HTR := Lib.hid htr
      have HRT := Lib.hid hrt
      have HTL := Lib.hid htl
      have HBL := Lib.hid hns.bel
      have HML : Hid (L ≤ maxLen) := Lib.hid (by unfold maxLen; omega)
      clear htr hrt htl hrd7 hval hlo hol hns
      go_wp2_with (first
        | (go_at_call 50; (with_reducible refine HTR.out.mono ?_); rintro e _ ⟨rfl, rfl⟩))
      go_ret
      exact ⟨_, _, rfl, HTL.out, HML.out, HRT.out, HBL.out⟩
end
section
open Go.ChangeShapes Go.WideShapes Go.ChangeAt Go.RowKit
set_option maxHeartbeats 2000000 in
theorem r10same_c (xs ys : List Int) (A B : Option Addr) (n m c d : Nat) (hn : n ≤ maxLen) (hm : m ≤ maxLen) (w : World) (hra : Rd .u32 w w.heap.size A n xs) (hrb : Rd .u32 w w.heap.size B m ys) : Calls Tryz.prog 21 #[.slice A n c, .slice B m d] w fun e w' => e = .returned (.bool (decide (xs = ys))) ∧ Below w.heap.size w w' := by
  have HA := Lib.hid hra
  have HB := Lib.hid hrb
  have hla := hra.len
  have hlb := hrb.len
  have hnm : (n : Int) ≤ 9223372036854775807 := by unfold maxLen at hn; omega
  clear hra hrb hn hm
  by_cases hl : n = m
  · subst hl
    have t0 : ((n : Int) != (n : Int)) = false := by simp
    go_enter Tryz.func21, Tryz.ntmps21
    go_wp2
    go_loopw [5] (fun i wr => ∃ k : Nat, k ≤ n ∧ i = .int .i64 (k : Int) ∧ (∀ j, j < k → xs.getD j 0 = ys.getD j 0) ∧ Below w.heap.size w wr) (fun i _ => n - (intOf i).toNat)
    case atStart => exact ⟨0, by omega, rfl, fun j h => absurd h (by omega), Below.refl _ _⟩
    case round =>
      obtain ⟨k, hk, rfl, heq, hbl⟩ := hrel
      have HEQ := Lib.hid heq
      have HBL := Lib.hid hbl
      by_cases hlt : k < n
      · obtain ⟨b1, o1, rfl, _, hc1⟩ := (HA.out.below hbl).at_ (by omega)
        obtain ⟨b2, o2, rfl, _, hc2⟩ := (HB.out.below hbl).at_ (by omega)
        have hk1 := hc1 k hlt
        have hk2 := hc2 k hlt
        obtain ⟨x, hx⟩ : ∃ x, xs.getD k 0 = x := ⟨_, rfl⟩
        obtain ⟨y, hy⟩ : ∃ y, ys.getD k 0 = y := ⟨_, rfl⟩
        rw [hx] at hk1
        rw [hy] at hk2
        have i0 : (0 : Int) ≤ (k : Int) := by omega
        have i1 : (k : Int) < (n : Int) := by omega
        clear heq hbl hc1 hc2
        by_cases hxy : x = y
        · subst hxy
          have HK : ∀ j, j < k + 1 → xs.getD j 0 = ys.getD j 0 := fun j hj => by
            by_cases h : j = k
            · rw [h, hx, hy]
            · exact HEQ.out j (by omega)
          have HKK := Lib.hid HK
          have t1 : (x != x) = false := by simp
          clear hx hy HEQ HK
          go_wp2
          go_quiet (fail)
          go_wp2
          go_roundw
          case rel => exact ⟨k + 1, by omega, by go_num, HKK.out, HBL.out.trans (below_drewN (Below.refl _ _) _)⟩
          case measure => simp [intOf]; omega
        · have hne : ¬ xs = ys := fun h => hxy (by rw [← hx, ← hy, h])
          have t1 : (x != y) = true := by simp [bne, hxy]
          have HNE := Lib.hid hne
          clear hx hy HEQ hne
          go_wp2
          go_quiet (fail)
          go_wp2
          go_ret
          exact ⟨ret_boolN (decide_eq_false HNE.out).symm, below_drewN HBL.out _⟩
      · have hxy : xs = ys := ext_getDN (by omega) fun j hj => heq j (by omega)
        obtain rfl : k = n := by omega
        have HXY := Lib.hid hxy
        clear heq hbl hxy
        go_wp2
        go_ret
        exact ⟨ret_boolN (decide_eq_true HXY.out).symm, HBL.out⟩
  · have t0 : ((n : Int) != (m : Int)) = true := by simp [bne]; omega
    have hne : ¬ xs = ys := fun h => hl (by rw [← hla, ← hlb, h])
    have HNE := Lib.hid hne
    clear hne
    go_enter Tryz.func21, Tryz.ntmps21
    go_wp2
    go_ret
    exact ⟨ret_boolN (decide_eq_false HNE.out).symm, Below.refl _ _⟩
end
section
open Go.ChangeShapes Go.WideShapes Go.ChangeAt Go.RowKit
theorem DrS.from_ {w0 w1 w : World} {g3 g7 L : Nat} {V : Array Value} {A : Option Addr} {zs : List Int} (h : DrS w1 g3 g7 V A L zs w) (hb : Below w0.heap.size w0 w1) : DrS w0 g3 g7 V A L zs w :=
  ⟨h.blk, hb.trans (h.bel.mono hb.size), h.rd, h.apt3, h.apt7, Nat.le_trans hb.size h.le3, h.lt, h.lt7⟩
structure ComF (w0 : World) (g3 g7 gF : Nat) (V Z : Array Value) (A : Option Addr) (L : Nat) (zs : List Int) (AF : Option Addr) (n cF : Nat) (l : List Int) (ov : Value) (os : List Int) (w : World) : Prop where
  src : DrS w0 g3 g7 V A L zs w
  res : Blk w g7 28 Z
  tre : Blk w gF 40 #[.slice AF n cF]
  trd : Rd .u64 w w.heap.size AF n (treeL l)
  out : OwnI w w0.heap.size 3 .i64 ov os
  lef : w0.heap.size ≤ gF
  at3 : Apt n AF g3
  at7 : Apt n AF g7
  atF : Apt n AF gF
  aF : Apt L A gF
  ao : ∀ g, ov.ownBlock = some g → Apt L A g
  ato : ∀ g, ov.ownBlock = some g → Apt n AF g
structure NxtF (w0 : World) (g3 g7 gF g13 : Nat) (V2 : Array Value) (A2 : Option Addr) (L : Nat) (zs : List Int) (ov : Value) (w : World) : Prop where
  hand : DrH w0 g7 g13 V2 A2 L zs w
  ap3 : Apt L A2 g3
  apF : Apt L A2 gF
  apo : ∀ g, ov.ownBlock = some g → Apt L A2 g
section
variable {w0 w w' w5 w6 w7 : World} {g3 g7 gF g13 n cF cF' L k : Nat} {V V2 Z : Array Value} {A A2 AF AF' : Option Addr} {zs l l' os : List Int} {ov ov' : Value} {z : Int}
theorem blk_ne {t t' : TypeId} {cs cs' : Array Value} {g g' : Nat} (h : Blk w g t cs) (h' : Blk w g' t' cs') (hne : t ≠ t') : g ≠ g' := by
  rintro rfl
  unfold Blk at h h'
  rw [h] at h'
  injection h' with h'
  injection h' with _ h5
  exact hne h5
theorem Rd.other_ {kd : IntKind} {m r : Nat} {B : Option Addr} {ys : List Int} (h : Rd kd w w.heap.size B m ys) (ha : Apt m B r) (hs : w'.heap.size = w.heap.size) (ho : ∀ j, j ≠ r → w'.heap[j]? = w.heap[j]?) : Rd kd w' w'.heap.size B m ys := by
  have h1 := Rd.other h ho ha
  rw [hs]
  exact h1
theorem ComF.below (h : ComF w0 g3 g7 gF V Z A L zs AF n cF l ov os w) (hb : Below w.heap.size w w') : ComF w0 g3 g7 gF V Z A L zs AF n cF l ov os w' :=
  ⟨h.src.below hb, h.res.below hb h.res.lt, h.tre.below hb h.tre.lt, (h.trd.below hb).mono hb.size, h.out.below hb, h.lef, h.at3, h.at7, h.atF, h.aF, h.ao, h.ato⟩
theorem ComF.drew (h : ComF w0 g3 g7 gF V Z A L zs AF n cF l ov os w) : ComF w0 g3 g7 gF V Z A L zs AF n cF l ov os w.drew := h.below (Below.refl _ _).drew
theorem NxtF.below (h : NxtF w0 g3 g7 gF g13 V2 A2 L zs ov w) (hb : Below w.heap.size w w') : NxtF w0 g3 g7 gF g13 V2 A2 L zs ov w' := ⟨h.hand.below hb, h.ap3, h.apF, h.apo⟩
theorem NxtF.drew (h : NxtF w0 g3 g7 gF g13 V2 A2 L zs ov w) : NxtF w0 g3 g7 gF g13 V2 A2 L zs ov w.drew := h.below (Below.refl _ _).drew
theorem ComF.fx (h : ComF w0 g3 g7 gF V Z A L zs AF n cF l ov os w) : Fx [.blk g7 28 Z] w := ⟨h.res, trivial⟩
theorem ComF.size (h : ComF w0 g3 g7 gF V Z A L zs AF n cF l ov os w) : w0.heap.size ≤ w.heap.size := h.src.bel.size
theorem ComF.nf3 (h : ComF w0 g3 g7 gF V Z A L zs AF n cF l ov os w) : gF ≠ g3 := blk_ne h.tre h.src.blk (by decide)
theorem ComF.nf7 (h : ComF w0 g3 g7 gF V Z A L zs AF n cF l ov os w) : gF ≠ g7 := blk_ne h.tre h.res (by decide)
theorem ComF.took (h : ComF w0 g3 g7 gF V Z A L zs AF n cF l ov os w) (hr : Rd .u8 w5 w5.heap.size A2 L zs) (hsp : Sep w A A2) (hb5 : Below w.heap.size w w5) (hb6 : Below w5.heap.size w5 w6) (hk6 : Blk w6 w5.heap.size 28 Z) (hk7 : Blk w7 w5.heap.size 28 V2) (hs7 : w7.heap.size = w6.heap.size) (hb7 : ∀ B, B ≤ w5.heap.size → Below B w6 w7) (ho7 : ∀ j, j ≠ w5.heap.size → w7.heap[j]? = w6.heap[j]?) :
    ComF w0 g3 g7 gF V Z A L zs AF n cF l ov os w7 ∧ NxtF w0 g3 g7 gF w5.heap.size V2 A2 L zs ov w7 := by
  obtain ⟨t1, t2, t3, t4, t5, t6⟩ := h.src.took h.fx hr hsp hb5 hb6 hk6 hk7 hs7 hb7 ho7
  have h5 := h.below hb5
  have h6 := h5.below hb6
  have z5 := hb5.size
  exact ⟨⟨t1, t2.1, Blk.other h6.tre ho7 (Nat.ne_of_lt (h5.tre.lt)), Rd.other_ h6.trd (Apt.of_lt h5.trd (Nat.le_refl _)) hs7 ho7, OwnI.other h6.out hk6 (by decide) ho7, h.lef, h.at3, h.at7, h.atF, h.aF, h.ao, h.ato⟩,
    ⟨t6, t4, Apt.of_sep hsp h.aF h.tre.lt, fun g hg => Apt.of_sep hsp (h.ao g hg) (h.out.lt g hg)⟩⟩
theorem ComF.app (h : ComF w0 g3 g7 gF V Z A L zs AF n cF l ov os w) (ho : OwnI w' w0.heap.size 3 .i64 ov' (os ++ [z])) (hg : w.grownBy w' ov.ownBlock) (hat : ov'.ownBlock = ov.ownBlock ∨ ov'.ownBlock = some w.heap.size) : ComF w0 g3 g7 gF V Z A L zs AF n cF l ov' (os ++ [z]) w' := by
  have hbel : Below w0.heap.size w0 w' := h.out.below_ h.src.bel h.size hg
  have hapt : Apart L A ov := fun b off hn hA hb => h.ao b hb b off hn hA rfl
  have hapF : Apart n AF ov := fun b off hn hA hb => h.ato b hb b off hn hA rfl
  have hrd : RdP A L zs w' := (Rd.grownA h.src.rd.rd hapt (Nat.le_refl _) hg).mono hg.size
  have hs : DrS w0 g3 g7 V A L zs w' := ⟨h.src.blk.grown h.out (by decide) hg, hbel, hrd, h.src.apt3, h.src.apt7, h.src.le3, h.src.lt, by have := h.src.lt7; have := hg.size; omega⟩
  refine ⟨hs, h.res.grown h.out (by decide) hg, h.tre.grown h.out (by decide) hg, (Rd.grownA h.trd hapF (Nat.le_refl _) hg).mono hg.size, ho, h.lef, h.at3, h.at7, h.atF, h.aF, fun g he => ?_, fun g he => ?_⟩
  · rcases hat with e | e
    · exact h.ao g (by rw [← e]; exact he)
    · rw [he] at e
      injection e with e
      subst e
      exact Apt.of_lt h.src.rd.rd (Nat.le_refl _)
  · rcases hat with e | e
    · exact h.ato g (by rw [← e]; exact he)
    · rw [he] at e
      injection e with e
      subst e
      exact Apt.of_lt h.trd (Nat.le_refl _)
theorem NxtF.app (h : NxtF w0 g3 g7 gF g13 V2 A2 L zs ov w) (hown : OwnI w w0.heap.size 3 .i64 ov os) (hg : w.grownBy w' ov.ownBlock) (hat : ov'.ownBlock = ov.ownBlock ∨ ov'.ownBlock = some w.heap.size) : NxtF w0 g3 g7 gF g13 V2 A2 L zs ov' w' := by
  have hapt : Apart L A2 ov := fun b off hn hA hb => h.apo b hb b off hn hA rfl
  have hrd : RdP A2 L zs w' := (Rd.grownA h.hand.rd.rd hapt (Nat.le_refl _) hg).mono hg.size
  refine ⟨⟨h.hand.blk.grown hown (by decide) hg, hown.below_ h.hand.bel h.hand.bel.size hg, hrd, h.hand.apt, h.hand.ne, h.hand.le⟩, h.ap3, h.apF, fun g he => ?_⟩
  rcases hat with e | e
  · exact h.apo g (by rw [← e]; exact he)
  · rw [he] at e
    injection e with e
    subst e
    exact Apt.of_lt h.hand.rd.rd (Nat.le_refl _)
theorem ComF.put (h : ComF w0 g3 g7 gF V Z A L zs AF n cF l ov os w) (hn : NxtF w0 g3 g7 gF g13 V2 A2 L zs ov w) (hk : Blk w' g3 28 V2) (hs : w'.heap.size = w.heap.size) (hb : ∀ B, B ≤ g3 → Below B w w') (ho : ∀ j, j ≠ g3 → w'.heap[j]? = w.heap[j]?) : ComF w0 g3 g7 gF V2 Z A2 L zs AF n cF l ov os w' :=
  ⟨h.src.put3 hn.hand.rd hn.ap3 hn.hand.apt hk hs hb ho, Blk.other h.res ho (Nat.ne_of_gt h.src.lt), Blk.other h.tre ho h.nf3, Rd.other_ h.trd h.at3 hs ho, OwnI.other h.out h.src.blk (by decide) ho, h.lef, h.at3, h.at7, h.atF, hn.apF, hn.apo, h.ato⟩
theorem ComF.setf (h : ComF w0 g3 g7 gF V Z A L zs AF n cF l ov os w) (hr : Rd .u64 w5 w5.heap.size AF' n (treeL l')) (hf : ∀ b off, AF' = some ⟨b, off, none⟩ → w.heap.size ≤ b) (hb5 : Below w.heap.size w w5) (hk : Blk w' gF 40 #[.slice AF' n cF']) (hs : w'.heap.size = w5.heap.size) (hb : ∀ B, B ≤ gF → Below B w5 w') (ho : ∀ j, j ≠ gF → w'.heap[j]? = w5.heap[j]?) : ComF w0 g3 g7 gF V Z A L zs AF' n cF' l' ov os w' := by
  have h5 := h.below hb5
  have fr : ∀ g, g < w.heap.size → Apt n AF' g := fun g hg b off _ e => by have := hf b off e; omega
  exact ⟨h5.src.store h5.tre ⟨fun e => h.nf3 e.symm, h.aF, h.lef⟩ hs hb ho, Blk.other h5.res ho (fun e => h.nf7 e.symm), hk, Rd.other_ hr (fr gF h.tre.lt) hs ho, OwnI.other h5.out h5.tre (by decide) ho, h.lef, fr _ h.src.lt3, fr _ h.src.lt7, fr _ h.tre.lt, h.aF, h.ao, fun g hg => fr g (h.out.lt g hg)⟩
end
theorem exec_bldI {o : Oper} {a : Act} {w : World} (p : Operand) (x : Int) (ho : o.op = .buildSlice 31 1 #[(0, p)]) (hp : a.eval p = .int .i64 x) :
    (execOp a.eval o).run Tryz.prog w = .ok (.value (.slice (some ⟨w.heap.size, 0, none⟩) 1 1)) (w.alloc (.cells #[.int .i64 x] 3)) := by
  have hr1 : (Instr.buildSlice 31 1 #[(0, .int .i64 x)]).run Tryz.prog w = .ok (.slice (some ⟨w.heap.size, 0, none⟩) 1 1) (w.alloc (.cells #[.int .i64 x] 3)) := by go_simp
  unfold execOp
  simp only [ho, List.map_toArray, List.map_cons, List.map_nil, hp]
  change ((Instr.buildSlice 31 1 #[(0, .int .i64 x)]) >>= fun v => pure (Next.value v)).run Tryz.prog w = _
  simp only [Sem.run_bind, hr1, Result.andThen_ok, Sem.run_pure]
theorem step_bldI {ops : Array Oper} {o : Oper} {a : Act} {w : World} {K : Act → World → Prop} {Q : Exit → Act → World → Prop} {E : Prop} (d : Option Tmp) (hd : o.dst = d) (hw : Region.wanted o (yielded ops a.tmps) = true) (p : Operand) (ho : o.op = .buildSlice 31 1 #[(0, p)])
    (x : Int) (hp : a.eval p = .int .i64 x) (h : ∀ g w', Rd .i64 w' w'.heap.size (some ⟨g, 0, none⟩) 1 [x] → Below w.heap.size w w' → K (a.put d (.slice (some ⟨g, 0, none⟩) 1 1)) w') :
    if Region.wanted o (yielded ops a.tmps) = true then Oper.wp Tryz.prog o a w K Q else E := by
  subst hd
  rw [if_pos hw]
  have he := exec_bldI (w := w) p x ho hp
  unfold Oper.wp
  rw [he]
  exact h _ _ (rdi_one w _ x) ((Below.refl _ _).alloc (Nat.le_refl _) _)
end
section
open Go.ChangeShapes Go.WideShapes Go.ChangeAt Go.RowKit
def tzTab : List Int := Lib.deBruijn64tab.map fun (n : Nat) => (n : Int)
def TzT (w : World) : Prop := Lib.TabIs Tryz.prog w "math/bits.deBruijn64tab" .u8 tzTab
theorem TzT.below {w w' : World} (h : TzT w) (hb : Below w.heap.size w w') : TzT w' := by
  unfold TzT Lib.TabIs World.var? at *
  cases hg : Tryz.prog.globalNamed "math/bits.deBruijn64tab" with
  | none => simp [hg] at h
  | some g =>
    simp only [hg, Option.bind_some] at h ⊢
    have hlt : g < w.heap.size := by
      rcases Nat.lt_or_ge g w.heap.size with h' | h'
      · exact h'
      · rw [Array.getElem?_eq_none h'] at h; simp at h
    rw [hb.block g hlt]
    exact h
theorem TzT.alloc {w : World} (h : TzT w) (o : Obj) : TzT (w.alloc o) := h.below ((Below.refl _ _).alloc (Nat.le_refl _) o)
theorem TzT.drew {w : World} (h : TzT w) : TzT w.drew := h
theorem gTz : Tryz.prog.globalNamed "math/bits.deBruijn64tab" = some 1 := by kernel_rfl
theorem tTz : (Tryz.prog.globals[1]?).map (·.type) = some 137 := by kernel_rfl
end
section
open Go.ChangeShapes Go.WideShapes Go.ChangeAt Go.RowKit
def KstC (w : World) : Prop := 2 < w.heap.size ∧ ∀ j, j < 64 → w.cell? ⟨2, j, none⟩ = some (.int .u32 (constL.getD j 0))
theorem KstC.below {w w' : World} (h : KstC w) (hb : Below w.heap.size w w') : KstC w' :=
  ⟨Nat.lt_of_lt_of_le h.1 hb.size, fun j hj => by rw [hb.cell (p := ⟨2, j, none⟩) h.1]; exact h.2 j hj⟩
def Kst (w : World) : Prop := KstC w ∧ TzT w
theorem Kst.of {w : World} (h : KstC w) (h2 : TzT w) : Kst w := ⟨h, h2⟩
theorem Kst.tz {w : World} (h : Kst w) : TzT w := h.2
theorem Kst.c {w : World} (h : Kst w) : KstC w := h.1
theorem Kst.below {w w' : World} (h : Kst w) (hb : Below w.heap.size w w') : Kst w' := ⟨h.1.below hb, h.2.below hb⟩
theorem Kst.at_ {w : World} (h : Kst w) : ∀ j, j < 64 → w.cell? ⟨2, j, none⟩ = some (.int .u32 (constL.getD j 0)) := h.c.2
theorem Kst.alloc {w : World} (h : Kst w) (o : Obj) : Kst (w.alloc o) := h.below ((Below.refl _ _).alloc (Nat.le_refl _) o)
theorem Kst.drew {w : World} (h : Kst w) : Kst w.drew := h
abbrev laidK : List (String × DataW Unit) := [("drawlot/comp.constants", Rows.laid_drawlot_comp_constants), ("math/bits.deBruijn32tab", Rows.laid_math_bits_deBruijn32tab), ("math/bits.deBruijn64tab", Rows.laid_math_bits_deBruijn64tab)]
abbrev kindsK : List LaidKind := [.data, .data, .data]
theorem laidTzK : (Rows.laid_math_bits_deBruijn64tab : DataW Unit) = Lib.tabData .u8 tzTab := by kernel_rfl
theorem gConsts : Tryz.prog.globalNamed "drawlot/comp.constants" = some 2 := by kernel_rfl
theorem tConsts : (Tryz.prog.globals[2]?).map (·.type) = some 179 := by kernel_rfl
theorem laidD : (Rows.laid_drawlot_comp_constants : DataW Unit) = .agg (constL.map fun z => .lit (.int .u32 z)) := by kernel_rfl
theorem trod_arr_ints {H : Type} {enc : TypeId × Value → H} {P : Program} {w : World} {base n fuel : Nat} {spare : TypeId → Bool} {held : Bool} {t e : TypeId} {q : IntKind} {cs : Array Value} {ys : List Int} {p : List MemPlace} (ht : P.underlying t = some (.array n e)) (he : P.underlying e = some (.int q)) (hc : P.cellsOf e = 1) (hC : P.cellsOf t = n)
    (hf : DataW.trod enc P w base spare held fuel t cs.toList = some (.agg (ys.map fun z => .lit (.int q z)), p)) : ∀ i, i < n → cs[i]? = some (.int q (ys.getD i 0)) := by
  obtain ⟨xs, m, _, hx, hl, hxl, hat⟩ := DataW.trod_array ht hf
  rw [hC] at hl
  rw [hc] at hat
  have hl' : cs.size = n := by simpa using hl
  have hd := congrArg Prod.fst hx
  simp only [DataW.agg.injEq] at hd
  intro i hi
  have h1 := hat i hi
  have e1 : List.take 1 (List.drop (i * 1) cs.toList) = [cs[i]'(by omega)] := by
    simp only [Nat.mul_one]
    rw [List.drop_eq_getElem_cons (by simpa using (show i < cs.size by omega))]
    simp
  rw [e1] at h1
  have hxi : xs[i]? = some (xs[i]'(by omega)) := List.getElem?_eq_getElem (by omega)
  rw [hxi] at h1
  obtain ⟨a, ea, ex, wa⟩ := DataW.trod_int he h1
  have h2 := congrArg (fun l => l[i]?) hd
  simp only [List.getElem?_map, hxi, Option.map_some, ex] at h2
  have h3 : ys[i]? = some a := by
    cases hy : ys[i]? with
    | none => rw [hy] at h2; cases h2
    | some y => rw [hy] at h2; simp only [Option.map_some, Option.some.injEq, DataW.lit.injEq, Lit.int.injEq, true_and] at h2; rw [h2]
  rw [Array.getElem?_eq_getElem (by omega), List.getD_eq_getElem?_getD, h3]
  simpa using ea
theorem kst_of_laid {W : World} (h : laidMetH Tryz.prog laidK W) : Kst W := by
  rw [MakeChecks.laidMetH_plain _ _ _ (by kernel_rfl)] at h
  obtain ⟨ps, ⟨g0, t0, cs0, f0, p0, q0, hg0, ht0, hv0, hd0, ⟨_, _, _, _, _, _, _, _, _, _, ⟨g1, t1, cs1, f1, p1, q1, hg1, ht1, hv1, hd1, _⟩, _⟩, _⟩, _⟩ := h
  obtain rfl := Option.some.inj (gConsts.symm.trans hg0)
  obtain rfl := Option.some.inj (tConsts.symm.trans ht0)
  rw [laidD] at hd0
  have hz := trod_arr_ints Tryz.underlying179 Tryz.underlying62 (by kernel_rfl) (by kernel_rfl) hd0
  have hc : ∀ j, j < 64 → W.cell? ⟨2, j, none⟩ = some (.int .u32 (constL.getD j 0)) := fun j hj => (World.var?_cell hg0 hv0 j).trans (hz j hj)
  have hC : KstC W := by
    refine ⟨?_, hc⟩
    have h0 := hc 0 (by decide)
    by_cases hlt : 2 < W.heap.size
    · exact hlt
    · exfalso
      simp only [World.cell?, Array.getElem?_eq_none (Nat.le_of_not_lt hlt)] at h0
      cases h0
  obtain rfl := Option.some.inj (gTz.symm.trans hg1)
  obtain rfl := Option.some.inj (tTz.symm.trans ht1)
  rw [laidTzK] at hd1
  refine Kst.of hC ?_
  unfold TzT Lib.TabIs
  rw [hv1, ← Lib.cells_of_tab Tryz.underlying137 Tryz.underlying5 (by kernel_rfl) (by kernel_rfl) hd1]
theorem door_met (os : Os) (args : Array Value) : laidMetH Tryz.prog laidK ((World.doorLaid Tryz.prog 400 os).forCall (fun _ _ => 0) ⟨#[], args, []⟩).memory :=
  laidMetH_of_parts3 (fuel := 8) (laidMet_of_run' 8 (by kernel_rfl) (by kernel_rfl)) (by kernel_rfl) (by kernel_rfl)
end
section
open Go.ChangeShapes Go.WideShapes Go.ChangeAt Go.RowKit
theorem q8need_c (n : Int) (n0 : 0 ≤ n) (n1 : n < 18446744073709551616) (w : World) : Calls Tryz.prog 78 #[.int .u64 n] w fun e w' => e = .returned (.int .i64 (needN n : Nat)) ∧ w = w' := by
  by_cases h : n = 0
  · subst h
    go_enter Tryz.func78, Tryz.ntmps78
    go_wp2
    go_ret
    exact ⟨rfl, rfl⟩
  · have HB := Lib.hid (fun W => bits_i (n - 1) (by omega) (by omega) W)
    have hR : needN n = Wd.bitsL (n - 1).toNat := by unfold needN; rw [if_neg h]
    rw [hR]
    obtain ⟨B, hB⟩ : ∃ B, Wd.bitsL (n - 1).toNat = B := ⟨_, rfl⟩
    rw [hB] at HB ⊢
    have t1 : (n == 0) = false := by rw [beq_eq_false_iff_ne]; exact h
    have e1 : IntKind.u64.wrap (n - 1) = n - 1 := by rw [IntKind.wrap_u64]; omega
    clear h hR hB
    go_enter Tryz.func78, Tryz.ntmps78
    go_wp2_with (go_at_call 95; (with_reducible refine (HB.out _).mono ?_); rintro e _ ⟨rfl, rfl⟩)
    go_ret
    exact ⟨rfl, rfl⟩
end
section
open Go.ChangeShapes Go.WideShapes Go.ChangeAt Go.RowKit
theorem pfirst_c (x : Int) (h0 : 0 ≤ x) (h1 : x < 4294967296) (w : World) :
    Calls Tryz.prog 155 #[.int .u32 x] w fun e w' => e = .returned (.int .u32 (mix1 x)) ∧ w = w' := by
  unfold mix1
  go_enter Tryz.func155, Tryz.ntmps155
  go_wp2_with (first
    | (go_at_call 158; (with_reducible refine (rotate_c _ _ (by omega) (by omega) (by omega) (by omega) _).mono ?_); rintro e _ ⟨rfl, rfl⟩)
    | (go_at_call 159; (with_reducible refine (right_c _ _ (by omega) (by omega) (by omega) (by omega) _).mono ?_); rintro e _ ⟨rfl, rfl⟩))
  go_ret
  exact ⟨rfl, rfl⟩
theorem psecond_c (x : Int) (h0 : 0 ≤ x) (h1 : x < 4294967296) (w : World) :
    Calls Tryz.prog 154 #[.int .u32 x] w fun e w' => e = .returned (.int .u32 (mix2 x)) ∧ w = w' := by
  unfold mix2
  go_enter Tryz.func154, Tryz.ntmps154
  go_wp2_with (first
    | (go_at_call 158; (with_reducible refine (rotate_c _ _ (by omega) (by omega) (by omega) (by omega) _).mono ?_); rintro e _ ⟨rfl, rfl⟩)
    | (go_at_call 159; (with_reducible refine (right_c _ _ (by omega) (by omega) (by omega) (by omega) _).mono ?_); rintro e _ ⟨rfl, rfl⟩))
  go_ret
  exact ⟨rfl, rfl⟩
set_option maxHeartbeats 1000000 in
theorem pof_c (b : List Int) (hl : b.length = 64) (hb : ∀ z ∈ b, 0 ≤ z ∧ z < 256) (w : World) :
    Calls Tryz.prog 149 #[.agg (intsA .u8 b)] w fun e w' => e = .returned (.agg (intsA .u32 (planL b))) ∧ Below w.heap.size w w' := by
  go_enter Tryz.func149, Tryz.ntmps149
  go_wp2_with (first
    | (with_reducible refine at_any ?_; refine at_dst 1 rfl ?_; refine wpList_box_ints rfl 137 (.tmp 0) rfl .u8 b rfl ?_; intro w1 hk1 hs1 hb1)
    | (with_reducible refine at_any ?_; refine at_dst 2 rfl ?_; refine wpList_alloc_ints rfl 180 rfl .u32 (List.replicate 64 0) zero_plan ?_; intro w2 hk2 hs2 hb2)
    | (with_reducible refine at_any ?_; refine at_dst 3 rfl ?_; refine wpList_alloc_ints rfl 180 rfl .u32 (List.replicate 64 0) zero_plan ?_; intro w3 hk3 hs3 hb3))
  have HI : In3 w w.heap.size w1.heap.size w2.heap.size 137 180 180 .u8 .u32 .u32 b (List.replicate 64 0) (planF b 0) w3 := by
    rw [planF_zero]
    have q1 := hs1.out
    have q2 := hs2.out
    have q3 := hs3.out
    exact ⟨(hk1.out.below hb2 (by omega)).below hb3 (by omega), hk2.out.below hb3 (by omega), hk3.out, hb1.trans ((hb2.mono (by omega)).trans (hb3.mono (by omega))), by omega, by omega, by omega⟩
  obtain ⟨g1, hg1⟩ : ∃ g, w.heap.size = g := ⟨_, rfl⟩
  obtain ⟨g2, hg2⟩ : ∃ g, w1.heap.size = g := ⟨_, rfl⟩
  obtain ⟨g3, hg3⟩ : ∃ g, w2.heap.size = g := ⟨_, rfl⟩
  have HG2 := Lib.hid (show w.heap.size ≤ g2 by have := hb1.size; omega)
  rw [hg1, hg2, hg3] at HI
  rw [hg1, hg2, hg3]
  clear hk1 hs1 hb1 hk2 hs2 hb2 hk3 hs3 hb3
  go_loopw [7] (fun v wr => ∃ i : Nat, i ≤ 16 ∧ v = .int .i64 i ∧ In3 w g1 g2 g3 137 180 180 .u8 .u32 .u32 b (List.replicate 64 0) (planF b i) wr) (fun v _ => 16 - (intOf v).toNat)
  case atStart => exact ⟨0, by omega, rfl, HI⟩
  case round =>
    clear HI
    obtain ⟨i, hi, rfl, HI⟩ := hrel
    by_cases hlt : i < 16
    · have hpl := planF_len b i (by omega)
      have HW := HI.open_ (i := i) (by omega)
      have hset := fun v hv => planF_set b i (by omega) v hv
      obtain ⟨m, hm⟩ : ∃ m, 4 * i = m := ⟨_, rfl⟩
      obtain ⟨m1, hm1⟩ : ∃ m1, 4 * i + 1 = m1 := ⟨_, rfl⟩
      obtain ⟨m2, hm2⟩ : ∃ m2, 4 * i + 2 = m2 := ⟨_, rfl⟩
      obtain ⟨m3, hm3⟩ : ∃ m3, 4 * i + 3 = m3 := ⟨_, rfl⟩
      have c0 := HW.cell1 (j := m) (by omega)
      have c1 := HW.cell1 (j := m1) (by omega)
      have c2 := HW.cell1 (j := m2) (by omega)
      have c3 := HW.cell1 (j := m3) (by omega)
      have hg : ∀ j, j < 64 → 0 ≤ b.getD j 0 ∧ b.getD j 0 < 256 := by
        intro j hj
        have h : j < b.length := by omega
        simp [h]; exact hb _ (List.getElem_mem h)
      have r0 := hg m (by omega)
      have r1 := hg m1 (by omega)
      have r2 := hg m2 (by omega)
      have r3 := hg m3 (by omega)
      have hv : word4 b i = Wd.get4 (b.getD m 0) (b.getD m1 0) (b.getD m2 0) (b.getD m3 0) := by unfold word4; rw [hm1, hm2, hm3, hm]
      have hsv := hset (word4 b i) (by rw [if_pos hlt])
      have HK : ∀ w', In3W w g1 g2 g3 137 180 180 .u8 .u32 .u32 b (List.replicate 64 0) (planF b i) i w' → w'.cell? ⟨g1, m, none⟩ = some (.int .u8 (b.getD m 0)) ∧ w'.cell? ⟨g1, m1, none⟩ = some (.int .u8 (b.getD m1 0)) ∧ w'.cell? ⟨g1, m2, none⟩ = some (.int .u8 (b.getD m2 0)) ∧ w'.cell? ⟨g1, m3, none⟩ = some (.int .u8 (b.getD m3 0)) ∧ In3W w g1 g2 g3 137 180 180 .u8 .u32 .u32 b (List.replicate 64 0) (planF b i) i w' :=
        fun w' h => ⟨h.cell1 (by omega), h.cell1 (by omega), h.cell1 (by omega), h.cell1 (by omega), h⟩
      have HA : ∀ w', In3W w g1 g2 g3 137 180 180 .u8 .u32 .u32 b (List.replicate 64 0) (planF b i) i w' → (∃ u, w'.cell? ⟨g3, i, none⟩ = some (.int .u32 u)) ∧ w'.frozen? ⟨g3, i, none⟩ = false := fun w' h => h.at_ (by omega)
      obtain ⟨a0, ha0⟩ : ∃ a, b.getD m 0 = a := ⟨_, rfl⟩
      obtain ⟨a1, ha1⟩ : ∃ a, b.getD m1 0 = a := ⟨_, rfl⟩
      obtain ⟨a2, ha2⟩ : ∃ a, b.getD m2 0 = a := ⟨_, rfl⟩
      obtain ⟨a3, ha3⟩ : ∃ a, b.getD m3 0 = a := ⟨_, rfl⟩
      rw [ha0, ha1, ha2, ha3] at HK hv
      rw [ha0] at c0 r0
      rw [ha1] at c1 r1
      rw [ha2] at c2 r2
      rw [ha3] at c3 r3
      rw [hv] at hsv
      have HK' := Lib.hid HK
      have HA' := Lib.hid HA
      have HSV := Lib.hid hsv
      have e0 : IntKind.i64.wrap (4 * (i : Int)) = (m : Int) := by rw [IntWalk.i64_in _ (by omega)]; omega
      have e1 : IntKind.i64.wrap ((m : Int) + 1) = (m1 : Int) := by rw [IntWalk.i64_in _ (by omega)]; omega
      have e2 : IntKind.i64.wrap ((m : Int) + 2) = (m2 : Int) := by rw [IntWalk.i64_in _ (by omega)]; omega
      have e3 : IntKind.i64.wrap ((m : Int) + 3) = (m3 : Int) := by rw [IntWalk.i64_in _ (by omega)]; omega
      have q0 : (0 : Int) ≤ (m : Int) ∧ (m : Int) < 64 := by omega
      have q1 : (0 : Int) ≤ (m1 : Int) ∧ (m1 : Int) < 64 := by omega
      have q2 : (0 : Int) ≤ (m2 : Int) ∧ (m2 : Int) < 64 := by omega
      have q3 : (0 : Int) ≤ (m3 : Int) ∧ (m3 : Int) < 64 := by omega
      have q4 : (0 : Int) ≤ (i : Int) ∧ (i : Int) < 64 := by omega
      obtain ⟨⟨u0, hu0⟩, hf0⟩ := HA _ HW
      clear hset HK HA hg ha0 ha1 ha2 ha3 hm hm1 hm2 hm3 hv hsv hpl HI
      have HWd : In3W w g1 g2 g3 137 180 180 .u8 .u32 .u32 b (List.replicate 64 0) (planF b i) i wr.drew := by obtain ⟨u, hu⟩ := HW; exact ⟨u, hu.drew⟩
      go_wp2
      go_region_held3 (fun w' => w'.cell? ⟨g1, m, none⟩ = some (.int .u8 a0) ∧ w'.cell? ⟨g1, m1, none⟩ = some (.int .u8 a1) ∧ w'.cell? ⟨g1, m2, none⟩ = some (.int .u8 a2) ∧ w'.cell? ⟨g1, m3, none⟩ = some (.int .u8 a3) ∧ In3W w g1 g2 g3 137 180 180 .u8 .u32 .u32 b (List.replicate 64 0) (planF b i) i w')
        (first | assumption | exact HK'.out _ HWd | (go_split_ands; exact HK'.out _ HW5) | (go_split_ands; exact HK'.out _ (HW5.again _)))
        (first
          | (go_at_call 153; (with_reducible refine (get32_c a0 a1 a2 a3 r0.1 r0.2 r1.1 r1.2 r2.1 r2.2 r3.1 r3.2 _).mono ?_); rintro e w5 ⟨rfl, hb5, _⟩; have HW5 := HWd.below hb5; obtain ⟨⟨u5, hu5⟩, hf5⟩ := HA'.out _ HW5))
      all_goals
        go_wp2
        go_roundw
        case rel => exact ⟨i + 1, by omega, by go_num, by rw [← HSV.out]; exact HW5.set_ _⟩
        case measure => simp [intOf]; omega
    · rw [show ((i : Nat) : Int) = 16 by omega]
      obtain rfl : i = 16 := by omega
      clear hi hlt
      go_wp2
      go_loopw [6] (fun v wr => ∃ i : Nat, 16 ≤ i ∧ i ≤ 64 ∧ v = .int .i64 i ∧ In3 w g1 g2 g3 137 180 180 .u8 .u32 .u32 b (List.replicate 64 0) (planF b i) wr) (fun v _ => 64 - (intOf v).toNat)
      case atStart => exact ⟨16, by omega, by omega, rfl, HI⟩
      case round =>
        clear HI
        obtain ⟨i, hi16, hi, rfl, HI⟩ := hrel
        by_cases hlt : i < 64
        · have hpl := planF_len b i (by omega)
          have HW := HI.open_ (i := i) (by omega)
          have hin := planTo_in b hb i
          have hg : ∀ j, j < i → (planF b i).getD j 0 = (planTo b i).getD j 0 ∧ 0 ≤ (planTo b i).getD j 0 ∧ (planTo b i).getD j 0 < 4294967296 := by
            intro j hj
            have h : j < (planTo b i).length := by rw [planTo_len]; exact hj
            refine ⟨planF_at b i j hj, ?_⟩
            simp [h]; exact hin _ (List.getElem_mem h)
          obtain ⟨m2, hm2⟩ : ∃ m, i - 2 = m := ⟨_, rfl⟩
          obtain ⟨m7, hm7⟩ : ∃ m, i - 7 = m := ⟨_, rfl⟩
          obtain ⟨m15, hm15⟩ : ∃ m, i - 15 = m := ⟨_, rfl⟩
          obtain ⟨m16, hm16⟩ : ∃ m, i - 16 = m := ⟨_, rfl⟩
          have hsv := planF_set b i hlt (nextW (planTo b i) i) (by rw [if_neg (by omega)])
          have hv : nextW (planTo b i) i = (mix2 ((planTo b i).getD m2 0) + (planTo b i).getD m7 0 + mix1 ((planTo b i).getD m15 0) + (planTo b i).getD m16 0) % 4294967296 := by unfold nextW; rw [hm2, hm7, hm15, hm16]
          have HK : ∀ w', In3W w g1 g2 g3 137 180 180 .u8 .u32 .u32 b (List.replicate 64 0) (planF b i) i w' → w'.cell? ⟨g3, m2, none⟩ = some (.int .u32 ((planF b i).getD m2 0)) ∧ w'.cell? ⟨g3, m7, none⟩ = some (.int .u32 ((planF b i).getD m7 0)) ∧ w'.cell? ⟨g3, m15, none⟩ = some (.int .u32 ((planF b i).getD m15 0)) ∧ w'.cell? ⟨g3, m16, none⟩ = some (.int .u32 ((planF b i).getD m16 0)) ∧ In3W w g1 g2 g3 137 180 180 .u8 .u32 .u32 b (List.replicate 64 0) (planF b i) i w' :=
            fun w' h => ⟨h.cell3 (by omega) (by omega), h.cell3 (by omega) (by omega), h.cell3 (by omega) (by omega), h.cell3 (by omega) (by omega), h⟩
          obtain ⟨⟨u0, hu0⟩, hf0⟩ := HW.at_ (by omega)
          rw [(hg m2 (by omega)).1, (hg m7 (by omega)).1, (hg m15 (by omega)).1, (hg m16 (by omega)).1] at HK
          have r2 := (hg m2 (by omega)).2
          have r7 := (hg m7 (by omega)).2
          have r15 := (hg m15 (by omega)).2
          have r16 := (hg m16 (by omega)).2
          obtain ⟨x2, hx2⟩ : ∃ a, (planTo b i).getD m2 0 = a := ⟨_, rfl⟩
          obtain ⟨x7, hx7⟩ : ∃ a, (planTo b i).getD m7 0 = a := ⟨_, rfl⟩
          obtain ⟨x15, hx15⟩ : ∃ a, (planTo b i).getD m15 0 = a := ⟨_, rfl⟩
          obtain ⟨x16, hx16⟩ : ∃ a, (planTo b i).getD m16 0 = a := ⟨_, rfl⟩
          rw [hx2, hx7, hx15, hx16] at HK hv
          rw [hx2] at r2
          rw [hx7] at r7
          rw [hx15] at r15
          rw [hx16] at r16
          obtain ⟨c0, c1, c2, c3, _⟩ := HK _ HW
          obtain ⟨y2, hy2⟩ : ∃ a, mix2 x2 = a := ⟨_, rfl⟩
          obtain ⟨y15, hy15⟩ : ∃ a, mix1 x15 = a := ⟨_, rfl⟩
          have k2 := mix2_in x2
          have k15 := mix1_in x15
          rw [hy2, hy15] at hv
          rw [hy2] at k2
          rw [hy15] at k15
          obtain ⟨t1, ht1⟩ : ∃ t, (y2 + x7) % 4294967296 = t := ⟨_, rfl⟩
          obtain ⟨t2, ht2⟩ : ∃ t, (t1 + y15) % 4294967296 = t := ⟨_, rfl⟩
          obtain ⟨t3, ht3⟩ : ∃ t, (t2 + x16) % 4294967296 = t := ⟨_, rfl⟩
          have hv3 : nextW (planTo b i) i = t3 := by rw [hv]; omega
          rw [hv3] at hsv
          have f1 : IntKind.u32.wrap (y2 + x7) = t1 := by rw [IntKind.wrap_u32]; exact ht1
          have f2 : IntKind.u32.wrap (t1 + y15) = t2 := by rw [IntKind.wrap_u32]; exact ht2
          have f3 : IntKind.u32.wrap (t2 + x16) = t3 := by rw [IntKind.wrap_u32]; exact ht3
          have HK' := Lib.hid HK
          have HSV := Lib.hid hsv
          have e2 : IntKind.i64.wrap ((i : Int) - 2) = (m2 : Int) := by rw [IntWalk.i64_in _ (by omega)]; omega
          have e7 : IntKind.i64.wrap ((i : Int) - 7) = (m7 : Int) := by rw [IntWalk.i64_in _ (by omega)]; omega
          have e15 : IntKind.i64.wrap ((i : Int) - 15) = (m15 : Int) := by rw [IntWalk.i64_in _ (by omega)]; omega
          have e16 : IntKind.i64.wrap ((i : Int) - 16) = (m16 : Int) := by rw [IntWalk.i64_in _ (by omega)]; omega
          have q0 : (0 : Int) ≤ (m2 : Int) ∧ (m2 : Int) < 64 := by omega
          have q1 : (0 : Int) ≤ (m7 : Int) ∧ (m7 : Int) < 64 := by omega
          have q2 : (0 : Int) ≤ (m15 : Int) ∧ (m15 : Int) < 64 := by omega
          have q3 : (0 : Int) ≤ (m16 : Int) ∧ (m16 : Int) < 64 := by omega
          have q4 : (0 : Int) ≤ (i : Int) ∧ (i : Int) < 64 := by omega
          have H2 := Lib.hid hy2
          have H15 := Lib.hid hy15
          clear HK hg hin hx2 hx7 hx15 hx16 hm2 hm7 hm15 hm16 hv hv3 hsv hpl HI ht1 ht2 ht3 hy2 hy15
          have HWd : In3W w g1 g2 g3 137 180 180 .u8 .u32 .u32 b (List.replicate 64 0) (planF b i) i wr.drew := by obtain ⟨u, hu⟩ := HW; exact ⟨u, hu.drew⟩
          go_wp2
          go_region_held3 (fun w' => w'.cell? ⟨g3, m2, none⟩ = some (.int .u32 x2) ∧ w'.cell? ⟨g3, m7, none⟩ = some (.int .u32 x7) ∧ w'.cell? ⟨g3, m15, none⟩ = some (.int .u32 x15) ∧ w'.cell? ⟨g3, m16, none⟩ = some (.int .u32 x16) ∧ In3W w g1 g2 g3 137 180 180 .u8 .u32 .u32 b (List.replicate 64 0) (planF b i) i w')
            (first | assumption | exact HK'.out _ HWd | (go_split_ands; exact HK'.out _ (HWd.again _)))
            (first
              | (go_at_call 154; (with_reducible refine (psecond_c x2 r2.1 r2.2 _).mono ?_); rw [H2.out]; rintro e w5 ⟨rfl, rfl⟩)
              | (go_at_call 155; (with_reducible refine (pfirst_c x15 r15.1 r15.2 _).mono ?_); rw [H15.out]; rintro e w5 ⟨rfl, rfl⟩))
          all_goals
            go_wp2
            go_roundw
            case rel => exact ⟨i + 1, by omega, by omega, by go_num, by rw [← HSV.out]; exact (HW.set_ _).drew⟩
            case measure => simp [intOf]; omega
        · rw [show ((i : Nat) : Int) = 64 by omega]
          obtain rfl : i = 64 := by omega
          rw [planF_full] at HI
          obtain ⟨h1, h2, h3, h4, h5, h6, h7⟩ := HI
          have hpl : (planL b).length = 64 := planTo_len b 64
          have HPL := Lib.hid hpl
          have H3 := Lib.hid h3
          have H2 := Lib.hid h2
          have hg2 : w.heap.size ≤ g2 := HG2.out
          clear hpl h1 h2 h3
          go_wp2_with (first
            | (with_reducible refine at_any ?_; refine at_dst 59 rfl ?_; refine wpList_load_ints rfl 180 (.tmp 3) rfl g3 rfl 180 .u32 (planL b) H3.out _ Tryz.underlying180 rfl (by rw [HPL.out]; exact size_plan) ?_)
            | (with_reducible refine at_any ?_; refine at_store 2 rfl ?_; refine wpList_store_ints rfl 180 (.tmp 2) (.tmp 59) rfl g2 rfl 180 .u32 (List.replicate 64 0) (planL b) H2.out rfl (by rw [HPL.out]; simp) (by rw [HPL.out]; exact size_plan) ?_; intro w9 hk9 hs9 hb9 ho9)
            | (refine bodyPost_cell 2 180 rfl g2 rfl 180 .u32 (planL b) hk9.out _ Tryz.underlying180 rfl (by rw [HPL.out]; exact size_plan) rfl ?_))
          rw [← hg1]
          exact h4.trans (hb9 _ hg2)
end
section
open Go.ChangeShapes Go.WideShapes Go.ChangeAt Go.RowKit
theorem cturned_c (x a b c : Int) (h0 : 0 ≤ x) (h1 : x < 4294967296) (a0 : 0 ≤ a) (a1 : a < 32) (b0 : 0 ≤ b) (b1 : b < 32) (c0 : 0 ≤ c) (c1 : c < 32) (w : World) :
    Calls Tryz.prog 160 #[.int .u32 x, .int .i64 a, .int .i64 b, .int .i64 c] w fun e w' => e = .returned (.int .u32 (turn3 x a b c)) ∧ w = w' := by
  unfold turn3
  go_enter Tryz.func160, Tryz.ntmps160
  go_wp2_with (go_at_call 158; (with_reducible refine (rotate_c _ _ (by omega) (by omega) (by omega) (by omega) _).mono ?_); rintro e _ ⟨rfl, rfl⟩)
  go_ret
  exact ⟨rfl, rfl⟩
theorem not_u32 (e : Int) (h0 : 0 ≤ e) (h1 : e < 4294967296) : bits .xor .u32 IntKind.u32.max e = 4294967295 - e := by
  obtain ⟨n, rfl⟩ := Int.eq_ofNat_of_zero_le h0
  have hn : n < 2 ^ 32 := by omega
  have e1 : (4294967295 : Nat) ^^^ n = 4294967295 - n := by
    have h := congrArg BitVec.toNat (BitVec.allOnes_xor (x := BitVec.ofNat 32 n))
    rw [BitVec.toNat_xor, BitVec.toNat_allOnes, BitVec.toNat_not, BitVec.toNat_ofNat, Nat.mod_eq_of_lt hn] at h
    exact h
  have e2 : IntKind.u32.max = ((4294967295 : Nat) : Int) := by decide
  rw [e2, u32_xor_nat _ _ (by omega) (by omega), e1]
  omega
theorem cchoice_c (e f g : Int) (e0 : 0 ≤ e) (e1 : e < 4294967296) (f0 : 0 ≤ f) (f1 : f < 4294967296) (g0 : 0 ≤ g) (g1 : g < 4294967296) (w : World) :
    Calls Tryz.prog 161 #[.int .u32 e, .int .u32 f, .int .u32 g] w fun r w' => r = .returned (.int .u32 (chW e f g)) ∧ w = w' := by
  unfold chW
  have hn := not_u32 e e0 e1
  rw [← hn]
  clear hn
  go_enter Tryz.func161, Tryz.ntmps161
  go_wp2
  go_ret
  exact ⟨rfl, rfl⟩
theorem cmajority_c (a b c : Int) (a0 : 0 ≤ a) (a1 : a < 4294967296) (b0 : 0 ≤ b) (b1 : b < 4294967296) (c0 : 0 ≤ c) (c1 : c < 4294967296) (w : World) :
    Calls Tryz.prog 162 #[.int .u32 a, .int .u32 b, .int .u32 c] w fun r w' => r = .returned (.int .u32 (majW a b c)) ∧ w = w' := by
  unfold majW
  go_enter Tryz.func162, Tryz.ntmps162
  go_wp2
  go_ret
  exact ⟨rfl, rfl⟩
def lowW (e f g : Int) : Int := (turn3 e 6 11 25 + chW e f g) % 4294967296
def uppW (a b c : Int) : Int := (turn3 a 2 13 22 + majW a b c) % 4294967296
theorem clower_c (e f g : Int) (e0 : 0 ≤ e) (e1 : e < 4294967296) (f0 : 0 ≤ f) (f1 : f < 4294967296) (g0 : 0 ≤ g) (g1 : g < 4294967296) (w : World) :
    Calls Tryz.prog 156 #[.int .u32 e, .int .u32 f, .int .u32 g] w fun r w' => r = .returned (.int .u32 (lowW e f g)) ∧ w = w' := by
  obtain ⟨v, hv⟩ : ∃ v, lowW e f g = v := ⟨_, rfl⟩
  rw [hv]
  unfold lowW at hv
  have c1 := fun W => cturned_c e 6 11 25 e0 e1 (by omega) (by omega) (by omega) (by omega) (by omega) (by omega) W
  have c2 := fun W => cchoice_c e f g e0 e1 f0 f1 g0 g1 W
  obtain ⟨y1, hy1⟩ : ∃ y, turn3 e 6 11 25 = y := ⟨_, rfl⟩
  obtain ⟨y2, hy2⟩ : ∃ y, chW e f g = y := ⟨_, rfl⟩
  rw [hy1] at c1 hv
  rw [hy2] at c2 hv
  have f9 : IntKind.u32.wrap (y1 + y2) = v := by rw [IntKind.wrap_u32]; exact hv
  have C1 := Lib.hid c1
  have C2 := Lib.hid c2
  clear hy1 hy2 hv c1 c2
  go_enter Tryz.func156, Tryz.ntmps156
  go_wp2_with (first
    | (go_at_call 160; (with_reducible refine (C1.out _).mono ?_); rintro r _ ⟨rfl, rfl⟩)
    | (go_at_call 161; (with_reducible refine (C2.out _).mono ?_); rintro r _ ⟨rfl, rfl⟩))
  go_ret
  exact ⟨rfl, rfl⟩
theorem cupper_c (e f g : Int) (e0 : 0 ≤ e) (e1 : e < 4294967296) (f0 : 0 ≤ f) (f1 : f < 4294967296) (g0 : 0 ≤ g) (g1 : g < 4294967296) (w : World) :
    Calls Tryz.prog 157 #[.int .u32 e, .int .u32 f, .int .u32 g] w fun r w' => r = .returned (.int .u32 (uppW e f g)) ∧ w = w' := by
  obtain ⟨v, hv⟩ : ∃ v, uppW e f g = v := ⟨_, rfl⟩
  rw [hv]
  unfold uppW at hv
  have c1 := fun W => cturned_c e 2 13 22 e0 e1 (by omega) (by omega) (by omega) (by omega) (by omega) (by omega) W
  have c2 := fun W => cmajority_c e f g e0 e1 f0 f1 g0 g1 W
  obtain ⟨y1, hy1⟩ : ∃ y, turn3 e 2 13 22 = y := ⟨_, rfl⟩
  obtain ⟨y2, hy2⟩ : ∃ y, majW e f g = y := ⟨_, rfl⟩
  rw [hy1] at c1 hv
  rw [hy2] at c2 hv
  have f9 : IntKind.u32.wrap (y1 + y2) = v := by rw [IntKind.wrap_u32]; exact hv
  have C1 := Lib.hid c1
  have C2 := Lib.hid c2
  clear hy1 hy2 hv c1 c2
  go_enter Tryz.func157, Tryz.ntmps157
  go_wp2_with (first
    | (go_at_call 160; (with_reducible refine (C1.out _).mono ?_); rintro r _ ⟨rfl, rfl⟩)
    | (go_at_call 162; (with_reducible refine (C2.out _).mono ?_); rintro r _ ⟨rfl, rfl⟩))
  go_ret
  exact ⟨rfl, rfl⟩
theorem cstart_c (w : World) : Calls Tryz.prog 131 #[] w fun e w' => e = .returned (.agg (intsA .u32 startL)) ∧ Below w.heap.size w w' := by
  have HL := Lib.hid (show Z8.length = startL.length from rfl)
  have HZ := Lib.hid (show (Tryz.prog.info? 159).map (·.size) = some startL.length from size_state)
  go_enter Tryz.func131, Tryz.ntmps131
  go_wp2_with (first
    | (with_reducible refine at_any ?_; refine at_dst 0 rfl ?_; refine wpList_alloc_ints rfl 159 rfl .u32 Z8 zero_state ?_; intro w2 hk2 hs2 hb2)
    | (with_reducible refine at_any ?_; refine at_store 0 rfl ?_; refine wpList_store_ints rfl 159 (.tmp 0) (.tmp 1) rfl w.heap.size rfl 159 .u32 Z8 startL hk2.out (by kernel_rfl) HL.out HZ.out ?_; intro w9 hk9 hs9 hb9 ho9)
    | (refine bodyPost_cell 0 159 rfl w.heap.size rfl 159 .u32 startL hk9.out _ Tryz.underlying159 rfl HZ.out rfl ?_))
  exact hb2.trans (hb9 _ (Nat.le_refl _))
theorem cconst_c (i : Int) (i0 : -9223372036854775808 ≤ i) (i1 : i ≤ 9223372036854775807) (w : World) (hk : Kst w) :
    Calls Tryz.prog 151 #[.int .i64 i] w fun e w' => e = .returned (.int .u32 (constN i)) ∧ w = w' := by
  unfold constN
  by_cases h : 0 ≤ i ∧ i ≤ 63
  · rw [if_pos h]
    obtain ⟨h0, h1⟩ := h
    have hc := hk.at_ i.toNat (by omega)
    obtain ⟨C, hC⟩ : ∃ C, constL.getD i.toNat 0 = C := ⟨_, rfl⟩
    rw [hC] at hc
    rw [hC]
    have f1 : IntKind.u64.wrap i = i := by rw [IntKind.wrap_u64]; omega
    have f2 : i < 64 := by omega
    clear hC hk
    go_enter Tryz.func151, Tryz.ntmps151
    go_wp2
    go_ret
    exact ⟨rfl, rfl⟩
  · rw [if_neg h]
    obtain ⟨u, hu⟩ : ∃ u, IntKind.u64.wrap i = u := ⟨_, rfl⟩
    have f2 : 64 ≤ u := by rw [IntKind.wrap_u64] at hu; omega
    clear h hk
    go_enter Tryz.func151, Tryz.ntmps151
    go_wp2
    go_ret
    exact ⟨rfl, rfl⟩
set_option maxHeartbeats 1000000 in
theorem cround_c (s : List Int) (W K : Int) (hl : s.length = 8) (hs : WIn s) (W0 : 0 ≤ W) (W1 : W < 4294967296) (K0 : 0 ≤ K) (K1 : K < 4294967296) (w : World) :
    Calls Tryz.prog 150 #[.agg (intsA .u32 s), .int .u32 W, .int .u32 K] w fun e w' => e = .returned (.agg (intsA .u32 (roundL s W K))) ∧ Below w.heap.size w w' := by
  have hr0 := hs.at_ 0
  have hr1 := hs.at_ 1
  have hr2 := hs.at_ 2
  have hr3 := hs.at_ 3
  have hr4 := hs.at_ 4
  have hr5 := hs.at_ 5
  have hr6 := hs.at_ 6
  have hr7 := hs.at_ 7
  obtain ⟨a, b, c, d, e, f, p, q, rfl⟩ : ∃ a b c d e f p q, s = [a, b, c, d, e, f, p, q] := ⟨_, _, _, _, _, _, _, _, list8 s hl⟩
  simp only [List.getD_cons_zero, List.getD_cons_succ] at hr0 hr1 hr2 hr3 hr4 hr5 hr6 hr7
  have c1 := fun W => clower_c e f p hr4.1 hr4.2 hr5.1 hr5.2 hr6.1 hr6.2 W
  have c2 := fun W => cupper_c a b c hr0.1 hr0.2 hr1.1 hr1.2 hr2.1 hr2.2 W
  obtain ⟨y1, hy1⟩ : ∃ y, lowW e f p = y := ⟨_, rfl⟩
  obtain ⟨u1, hy2⟩ : ∃ y, uppW a b c = y := ⟨_, rfl⟩
  rw [hy1] at c1
  rw [hy2] at c2
  unfold lowW at hy1
  unfold uppW at hy2
  obtain ⟨t1, ht1⟩ : ∃ t, (q + y1) % 4294967296 = t := ⟨_, rfl⟩
  obtain ⟨t2, ht2⟩ : ∃ t, (t1 + K) % 4294967296 = t := ⟨_, rfl⟩
  obtain ⟨t4, ht4⟩ : ∃ t, (t2 + W) % 4294967296 = t := ⟨_, rfl⟩
  have hres : roundL [a, b, c, d, e, f, p, q] W K = [(t4 + u1) % 4294967296, a, b, c, (d + t4) % 4294967296, e, f, p] := by
    have e1 : (q + turn3 e 6 11 25 + chW e f p + K + W) % 4294967296 = t4 := by omega
    simp only [roundL, List.getD_cons_zero, List.getD_cons_succ]
    rw [e1, hy2]
  rw [hres]
  obtain ⟨v0, hv0⟩ : ∃ t, (t4 + u1) % 4294967296 = t := ⟨_, rfl⟩
  obtain ⟨v4, hv4⟩ : ∃ t, (d + t4) % 4294967296 = t := ⟨_, rfl⟩
  rw [hv0, hv4]
  have f1 : IntKind.u32.wrap (q + y1) = t1 := by rw [IntKind.wrap_u32]; exact ht1
  have f2 : IntKind.u32.wrap (t1 + K) = t2 := by rw [IntKind.wrap_u32]; exact ht2
  have f4 : IntKind.u32.wrap (t2 + W) = t4 := by rw [IntKind.wrap_u32]; exact ht4
  have f6 : IntKind.u32.wrap (t4 + u1) = v0 := by rw [IntKind.wrap_u32]; exact hv0
  have f7 : IntKind.u32.wrap (d + t4) = v4 := by rw [IntKind.wrap_u32]; exact hv4
  have C1 := Lib.hid c1
  have C2 := Lib.hid c2
  clear hy1 hy2 ht1 ht2 ht4 hv0 hv4 hres hs hl c1 c2
  go_enter Tryz.func150, Tryz.ntmps150
  go_wp2_with (first
    | (with_reducible refine at_any ?_; refine at_dst 3 rfl ?_; refine wpList_box_ints rfl 159 (.tmp 0) rfl .u32 _ rfl ?_; intro w1 hk1 hs1 hb1)
    | (with_reducible refine at_any ?_; refine at_dst 6 rfl ?_; refine wpList_alloc_ints rfl 159 rfl .u32 Z8 zero_state ?_; intro w2 hk2 hs2 hb2))
  have HS : St2 w w.heap.size w1.heap.size [a, b, c, d, e, f, p, q] Z8 w2 := by
    have q1 := hs1.out
    exact ⟨hk1.out.below hb2 (by omega), hk2.out, hb1.trans (hb2.mono (by omega)), by omega, by omega⟩
  obtain ⟨g, hg⟩ : ∃ g, w.heap.size = g := ⟨_, rfl⟩
  obtain ⟨r, hr⟩ : ∃ g, w1.heap.size = g := ⟨_, rfl⟩
  have HW := Lib.hid hg
  rw [hg, hr] at HS
  rw [hg, hr]
  clear hk1 hs1 hb1 hk2 hs2 hb2 hg hr
  have HSd := HS.drew
  go_region_held3 (fun w' => w'.cell? ⟨g, 0, none⟩ = some (.int .u32 a) ∧ w'.cell? ⟨g, 1, none⟩ = some (.int .u32 b) ∧ w'.cell? ⟨g, 2, none⟩ = some (.int .u32 c) ∧ w'.cell? ⟨g, 3, none⟩ = some (.int .u32 d) ∧ w'.cell? ⟨g, 4, none⟩ = some (.int .u32 e) ∧ w'.cell? ⟨g, 5, none⟩ = some (.int .u32 f) ∧ w'.cell? ⟨g, 6, none⟩ = some (.int .u32 p) ∧ w'.cell? ⟨g, 7, none⟩ = some (.int .u32 q) ∧ St2 w g r [a, b, c, d, e, f, p, q] Z8 w')
    (first | assumption | exact HSd.cells)
    (fail)
  have HS6 := Lib.hid HSd.snd
  go_wp2_with (first
    | (go_at_call 156; (with_reducible refine (C1.out _).mono ?_); rintro e _ ⟨rfl, rfl⟩)
    | (go_at_call 157; (with_reducible refine (C2.out _).mono ?_); rintro e _ ⟨rfl, rfl⟩)
    | (with_reducible refine at_any ?_; refine at_store 6 rfl ?_; refine wpList_store_ints rfl 159 (.tmp 6) (.tmp 59) rfl r rfl 159 .u32 Z8 [v0, a, b, c, v4, e, f, p] HS6.out (by kernel_rfl) (Z8_len8 _ _ _ _ _ _ _ _) (size_state8 _ _ _ _ _ _ _ _) ?_; intro w9 hk9 hs9 hb9 ho9)
    | (refine bodyPost_cell 6 159 rfl r rfl 159 .u32 [v0, a, b, c, v4, e, f, p] hk9.out _ Tryz.underlying159 rfl (size_state8 _ _ _ _ _ _ _ _) rfl ?_))
  exact HSd.bel.trans (hb9 _ HSd.out)
end
section
open Go.ChangeShapes Go.WideShapes Go.ChangeAt Go.RowKit
theorem In3.store {w w' w'' : World} {g1 g2 g3 : Nat} {t1 t2 t3 : TypeId} {k1 k2 k3 : IntKind} {l1 l2 l3 y : List Int} (h : In3 w g1 g2 g3 t1 t2 t3 k1 k2 k3 l1 l2 l3 w') (hk : BlkI w'' g3 t3 k3 y) (hb : ∀ B, B ≤ g3 → Below B w' w'') (ho : ∀ j, j ≠ g3 → w''.heap[j]? = w'.heap[j]?) : In3 w g1 g2 g3 t1 t2 t3 k1 k2 k3 l1 l2 y w'' := by
  obtain ⟨h1, h2, h3, h4, h5, h6, h7⟩ := h
  exact ⟨h1.other ho h6, h2.other ho h7, hk, h4.trans (hb _ h5), h5, h6, h7⟩
theorem sums_comm (x s : List Int) (hx : x.length = 8) (hs : s.length = 8) : sums x s 8 = sums s x 8 := by
  obtain ⟨a, b, c, d, e, f, p, q, rfl⟩ : ∃ a b c d e f p q, s = [a, b, c, d, e, f, p, q] := ⟨_, _, _, _, _, _, _, _, list8 s hs⟩
  obtain ⟨a', b', c', d', e', f', p', q', rfl⟩ : ∃ a b c d e f p q, x = [a, b, c, d, e, f, p, q] := ⟨_, _, _, _, _, _, _, _, list8 x hx⟩
  simp [sums, Int.add_comm]
theorem index_plan (zs : List Int) (hl : zs.length = 64) (i : Int) (h0 : 0 ≤ i) (h1 : i ≤ 63) (w : World) : (Instr.index 180 (.agg (intsA .u32 zs)) (.int .i64 i)).run Tryz.prog w = .ok (.int .u32 (zs.getD i.toNat 0)) w := by
  obtain ⟨i0, hi, _, hs, _⟩ := info_parts info_u32c
  exact run_index_arr Tryz.underlying180 Tryz.underlying62 hi hs _ _ _ _ h0 (by omega) (intsA_at .u32 zs i.toNat (by omega)) w
def Tz (w : World) (g2 g4 g5 : Nat) (s z : List Int) (w' : World) : Prop := In3 w g2 g4 g5 159 159 159 .u32 .u32 .u32 s Z8 z w' ∧ Kst w' ∧ w.heap.size ≤ g2
def TzW (w : World) (g2 g4 g5 : Nat) (s : List Int) (w' : World) : Prop := ∃ z, Tz w g2 g4 g5 s z w'
section
variable {w w' w'' : World} {g2 g4 g5 : Nat} {s z : List Int}
theorem Tz.kst (h : Tz w g2 g4 g5 s z w') : Kst w' := h.2.1
theorem TzW.kst (h : TzW w g2 g4 g5 s w') : Kst w' := by obtain ⟨z, h⟩ := h; exact h.kst
theorem Tz.drew (h : Tz w g2 g4 g5 s z w') : Tz w g2 g4 g5 s z w'.drew := ⟨h.1.drew, h.2.1.drew, h.2.2⟩
theorem Tz.below (h : Tz w g2 g4 g5 s z w') (hb : Below w'.heap.size w' w'') : Tz w g2 g4 g5 s z w'' := ⟨h.1.below hb, h.2.1.below hb, h.2.2⟩
theorem Tz.store (h : Tz w g2 g4 g5 s z w') (hw : Kst w) {y : List Int} (hk : BlkI w'' g5 159 .u32 y) (hb : ∀ B, B ≤ g5 → Below B w' w'') (ho : ∀ j, j ≠ g5 → w''.heap[j]? = w'.heap[j]?) : Tz w g2 g4 g5 s y w'' := by
  have h1 := h.1.store hk hb ho
  exact ⟨h1, hw.below h1.bel, h.2.2⟩
end
set_option maxHeartbeats 2000000 in
theorem ctake_c (s b : List Int) (hl : s.length = 8) (hs : WIn s) (hbl : b.length = 64) (hb : ∀ z ∈ b, 0 ≤ z ∧ z < 256) (w : World) (hkst : Kst w) :
    Calls Tryz.prog 141 #[.agg (intsA .u32 s), .agg (intsA .u8 b)] w fun e w' => e = .returned (.agg (intsA .u32 (takeL s b))) ∧ Below w.heap.size w w' := by
  obtain ⟨X0, hx⟩ : ∃ x, rounds s b 64 = x := ⟨_, rfl⟩
  obtain ⟨R, hR⟩ : ∃ R, sums s X0 8 = R := ⟨_, rfl⟩
  have hxl := rounds_len s b hl 64
  rw [hx] at hxl
  rw [show takeL s b = R by rw [takeL, hx, sums_comm X0 s hxl hl, hR]]
  have HX := Lib.hid hx
  have HR := Lib.hid hR
  have HXL := Lib.hid hxl
  clear hx hR hxl
  have SZ := Lib.hid (sized s hl)
  have ZL := Lib.hid (show Z8.length = s.length by rw [hl]; rfl)
  have BS := Lib.hid (show (Tryz.prog.info? 137).map (·.size) = some b.length by rw [hbl]; kernel_rfl)
  have KW := Lib.hid hkst
  clear hkst
  have hix := fun W (i : Nat) (hi : i < 64) => index_plan (planL b) (planL_len b) (i : Int) (by omega) (by omega) W
  have co := fun W => pof_c b hbl hb W
  obtain ⟨PA, hPA⟩ : ∃ S, intsA .u32 (planL b) = S := ⟨_, rfl⟩
  rw [hPA] at hix co
  have CO := Lib.hid co
  have HIX := Lib.hid hix
  clear hix co
  go_enter Tryz.func141, Tryz.ntmps141
  go_wp2_with (first
    | (with_reducible refine at_any ?_; refine at_dst 2 rfl ?_; refine wpList_box_ints rfl 159 (.tmp 0) rfl .u32 s rfl ?_; intro w1 hk1 hs1 hb1)
    | (with_reducible refine at_any ?_; refine at_dst 3 rfl ?_; refine wpList_box_ints rfl 137 (.tmp 1) rfl .u8 b rfl ?_; intro w2 hk2 hs2 hb2; have hk1b := Lib.hid (hk1.out.below hb2 hk1.out.lt))
    | (with_reducible refine at_any ?_; refine at_dst 4 rfl ?_; refine wpList_alloc_ints rfl 159 rfl .u32 Z8 zero_state ?_; intro w3 hk3 hs3 hb3; have hk1c := Lib.hid (hk1b.out.below hb3 hk1b.out.lt); have hk2c := Lib.hid (hk2.out.below hb3 hk2.out.lt); have bl3 := Lib.hid (hb1.trans ((hb2.mono hb1.size).trans (hb3.mono (by have := hb1.size; have := hb2.size; omega)))))
    | (with_reducible refine at_any ?_; refine at_dst 9 rfl ?_; refine wpList_load_ints rfl 159 (.tmp 2) rfl w.heap.size rfl 159 .u32 s hk1c.out _ Tryz.underlying159 rfl SZ.out ?_)
    | (with_reducible refine at_any ?_; refine at_dst 5 rfl ?_; refine wpList_alloc_ints rfl 159 rfl .u32 Z8 zero_state ?_; intro w4 hk4 hs4 hb4; have hk1d := Lib.hid (hk1c.out.below hb4 hk1c.out.lt); have hk2d := Lib.hid (hk2c.out.below hb4 hk2c.out.lt); have hk3d := Lib.hid (hk3.out.below hb4 hk3.out.lt); have bl4 := Lib.hid (bl3.out.trans (hb4.mono bl3.out.size)))
    | (with_reducible refine at_any ?_; refine at_store 5 rfl ?_; refine wpList_store_ints rfl 159 (.tmp 5) (.tmp 9) rfl w3.heap.size rfl 159 .u32 Z8 s hk4.out rfl ZL.out SZ.out ?_; intro w5 hk5 hs5 hb5 ho5; have hk1e := Lib.hid (hk1d.out.below (hb5 _ (Nat.le_refl _)) hk1c.out.lt); have hk2e := Lib.hid (hk2d.out.below (hb5 _ (Nat.le_refl _)) hk2c.out.lt); have hk3e := Lib.hid (hk3d.out.below (hb5 _ (Nat.le_refl _)) hk3.out.lt); have bl5 := Lib.hid (bl4.out.trans (hb5 _ bl3.out.size)))
    | (with_reducible refine at_any ?_; refine at_dst 10 rfl ?_; refine wpList_load_ints rfl 137 (.tmp 3) rfl w1.heap.size rfl 137 .u8 b hk2e.out _ Tryz.underlying137 rfl BS.out ?_)
    | (go_at_call 149; (with_reducible refine (CO.out _).mono ?_); rintro e w6 ⟨rfl, hb6⟩))
  have HT : Tz w w.heap.size w2.heap.size w3.heap.size s (rounds s b 0) w6 := by
    have q1 := hk1c.out.lt
    have q3 := hk3.out.lt
    have q2 := hk3.out.lt
    have qa := hb1.size
    have qb := hb2.size
    have qc := hb3.size
    have h3 : In3 w w.heap.size w2.heap.size w3.heap.size 159 159 159 .u32 .u32 .u32 s Z8 s w6 := ⟨hk1e.out.below hb6 hk1e.out.lt, hk3e.out.below hb6 hk3e.out.lt, hk5.out.below hb6 hk5.out.lt, bl5.out.trans (hb6.mono bl5.out.size), bl3.out.size, by omega, by omega⟩
    exact ⟨h3, KW.out.below h3.bel, Nat.le_refl _⟩
  obtain ⟨g2, hg2⟩ : ∃ g, w.heap.size = g := ⟨_, rfl⟩
  obtain ⟨g4, hg4⟩ : ∃ g, w2.heap.size = g := ⟨_, rfl⟩
  obtain ⟨g5, hg5⟩ : ∃ g, w3.heap.size = g := ⟨_, rfl⟩
  have HG4 := Lib.hid (show w.heap.size ≤ g4 ∧ g2 ≠ g4 ∧ g2 ≠ g5 by have := hs1.out; have := hs2.out; have := hs3.out; omega)
  have HW := Lib.hid hg2
  rw [hg2, hg4, hg5] at HT
  rw [hg2, hg4, hg5]
  clear hk1 hs1 hb1 hk2 hs2 hb2 hk1b hk3 hs3 hb3 hk1c hk2c bl3 hk4 hs4 hb4 hk1d hk2d hk3d bl4 hk5 hs5 hb5 ho5 hk1e hk2e hk3e bl5 hb6 hg2 hg4 hg5 BS ZL CO
  go_loopw [12] (fun v wr => ∃ i : Nat, i ≤ 64 ∧ v = .int .i64 i ∧ Tz w g2 g4 g5 s (rounds s b i) wr) (fun v _ => 64 - (intOf v).toNat)
  case atStart => exact ⟨0, by omega, rfl, HT⟩
  case round =>
    clear HT
    obtain ⟨i, hi, rfl, HT⟩ := hrel
    by_cases hlt : i < 64
    · have hxl := rounds_len s b hl i
      have hxi := rounds_in s b hs i
      have hix := fun W => HIX.out W i hlt
      have ry := pw_in b hb i hlt
      rw [show (planL b).getD ((i : Int)).toNat 0 = pw b i by rfl] at hix
      obtain ⟨x, hx⟩ : ∃ x, rounds s b i = x := ⟨_, rfl⟩
      have hnx : rounds s b (i + 1) = roundL x (pw b i) (constN i) := by rw [rounds, hx]
      rw [hx] at hxl hxi HT
      obtain ⟨y, hy⟩ : ∃ y, pw b i = y := ⟨_, rfl⟩
      obtain ⟨k, hk⟩ : ∃ k, constN (i : Int) = k := ⟨_, rfl⟩
      have rk := constN_in (i : Int)
      rw [hy, hk] at hnx
      rw [hy] at hix ry
      rw [hk] at rk
      have d1 := fun W (h : Kst W) => cconst_c (i : Int) (by omega) (by omega) W h
      rw [hk] at d1
      have D1 := Lib.hid d1
      have D2 := Lib.hid (fun W => cround_c x y k hxl hxi ry.1 ry.2 rk.1 rk.2 W)
      have HXS := Lib.hid (sized x hxl)
      have HRS := Lib.hid (sized (roundL x y k) rfl)
      have HLL := Lib.hid (show x.length = (roundL x y k).length by rw [hxl]; rfl)
      have q0 : (0 : Int) ≤ (i : Int) ∧ (i : Int) < 64 := by omega
      have HNX := Lib.hid hnx
      have HTd := HT.drew
      clear hnx hx hy hk d1 hxl hxi rk ry
      go_wp2
      refine wp_region_held_drew (S := TzW w g2 g4 g5 s) (by kernel_rfl) (⟨_, HTd⟩) (fun hH => ?_)
      refine held_val 1 rfl (by kernel_rfl) (by kernel_rfl) (by kernel_rfl) (fun _ _ _ _ h => h) (by rfl) (.int .u32 y) (fun W h => by go_simp) hH ?_
      try simp only [Act.put, List.setIfInBounds_toArray, List.set_cons_zero, List.set_cons_succ]
      refine held_val 2 rfl (by kernel_rfl) (by kernel_rfl) (by kernel_rfl) (fun _ _ _ _ h => h) (by rfl) (.int .i64 (i : Int)) (fun W h => by go_simp) hH ?_
      try simp only [Act.put, List.setIfInBounds_toArray, List.set_cons_zero, List.set_cons_succ]
      refine wpAnyH_ready (rs := [0, 3]) (by kernel_rfl) (by decide) ?_
      refine AllReadyH.cons rfl (fun K hK => ?_) (AllReadyH.cons rfl (fun K hK => ?_) AllReadyH.nil)
      · refine step_load_ints (by rfl) 159 (.tmp 5) rfl g5 (by kernel_rfl) 159 .u32 x HTd.1.trd _ Tryz.underlying159 rfl HXS.out ?_
        refine hK.out _ _ hH (fun _ => ?_)
        clear hK K
        try simp only [Act.put, List.setIfInBounds_toArray, List.set_cons_zero, List.set_cons_succ]
        refine wpAnyH_ready (rs := [3]) (by kernel_rfl) (by decide) ?_
        refine AllReadyH.cons rfl (fun K hK => ?_) AllReadyH.nil
        go_simp
        refine (D1.out _ HTd.kst).mono ?_
        rintro e _ ⟨rfl, rfl⟩
        refine hK.out _ _ hH (fun _ => ?_)
        clear hK K
        try simp only [Act.put, List.setIfInBounds_toArray, List.set_cons_zero, List.set_cons_succ]
        refine wpAnyH_ready (rs := [4]) (by kernel_rfl) (by decide) ?_
        refine AllReadyH.cons rfl (fun K hK => ?_) AllReadyH.nil
        go_simp
        refine (D2.out _).mono ?_
        rintro e w9 ⟨rfl, hbw9⟩
        have h9 := HTd.below hbw9
        refine hK.out _ _ ⟨_, h9⟩ (fun _ => ?_)
        clear hK K
        try simp only [Act.put, List.setIfInBounds_toArray, List.set_cons_zero, List.set_cons_succ]
        refine held_store 5 rfl (by kernel_rfl) (by rfl) 159 (.tmp 5) (.tmp 20) rfl g5 (by kernel_rfl) 159 .u32 x (roundL x y k) (h9.1.trd) (by kernel_rfl) (HLL.out) (HRS.out) ?_
        intro w10 hkw10 hbw10 how10
        refine ⟨⟨_, h9.store KW.out hkw10.out hbw10 how10⟩, ?_⟩
        try simp only [Act.put, List.setIfInBounds_toArray, List.set_cons_zero, List.set_cons_succ]
        refine wpAnyH_done (by kernel_rfl) ?_ _
        have HN := Lib.hid (h9.store KW.out hkw10.out hbw10 how10)
        rw [← HNX.out] at HN
        go_wp2
        go_roundw
        case rel => exact ⟨i + 1, by omega, by go_num, HN.out⟩
        case measure => simp [intOf]; omega
      · go_simp
        refine (D1.out _ HTd.kst).mono ?_
        rintro e _ ⟨rfl, rfl⟩
        refine hK.out _ _ hH (fun _ => ?_)
        clear hK K
        try simp only [Act.put, List.setIfInBounds_toArray, List.set_cons_zero, List.set_cons_succ]
        refine wpAnyH_ready (rs := [0]) (by kernel_rfl) (by decide) ?_
        refine AllReadyH.cons rfl (fun K hK => ?_) AllReadyH.nil
        refine step_load_ints (by rfl) 159 (.tmp 5) rfl g5 (by kernel_rfl) 159 .u32 x HTd.1.trd _ Tryz.underlying159 rfl HXS.out ?_
        refine hK.out _ _ hH (fun _ => ?_)
        clear hK K
        try simp only [Act.put, List.setIfInBounds_toArray, List.set_cons_zero, List.set_cons_succ]
        refine wpAnyH_ready (rs := [4]) (by kernel_rfl) (by decide) ?_
        refine AllReadyH.cons rfl (fun K hK => ?_) AllReadyH.nil
        go_simp
        refine (D2.out _).mono ?_
        rintro e w9 ⟨rfl, hbw9⟩
        have h9 := HTd.below hbw9
        refine hK.out _ _ ⟨_, h9⟩ (fun _ => ?_)
        clear hK K
        try simp only [Act.put, List.setIfInBounds_toArray, List.set_cons_zero, List.set_cons_succ]
        refine held_store 5 rfl (by kernel_rfl) (by rfl) 159 (.tmp 5) (.tmp 20) rfl g5 (by kernel_rfl) 159 .u32 x (roundL x y k) (h9.1.trd) (by kernel_rfl) (HLL.out) (HRS.out) ?_
        intro w10 hkw10 hbw10 how10
        refine ⟨⟨_, h9.store KW.out hkw10.out hbw10 how10⟩, ?_⟩
        try simp only [Act.put, List.setIfInBounds_toArray, List.set_cons_zero, List.set_cons_succ]
        refine wpAnyH_done (by kernel_rfl) ?_ _
        have HN := Lib.hid (h9.store KW.out hkw10.out hbw10 how10)
        rw [← HNX.out] at HN
        go_wp2
        go_roundw
        case rel => exact ⟨i + 1, by omega, by go_num, HN.out⟩
        case measure => simp [intOf]; omega
    · rw [show ((i : Nat) : Int) = 64 by omega]
      obtain rfl : i = 64 := by omega
      have hxl := HXL.out
      rw [HX.out] at HT
      have HI : In3 w g5 g4 g2 159 159 159 .u32 .u32 .u32 X0 Z8 s wr := ⟨HT.1.trd, HT.1.snd, HT.1.fst, HT.1.bel, HT.2.2, Ne.symm HG4.out.2.2, Ne.symm HG4.out.2.1⟩
      clear HT hi hlt
      go_wp2
      go_loopw [22] (fun v wr => ∃ i : Nat, i ≤ 8 ∧ v = .int .i64 i ∧ In3 w g5 g4 g2 159 159 159 .u32 .u32 .u32 X0 Z8 (sums s X0 i) wr) (fun v _ => 8 - (intOf v).toNat)
      case atStart => exact ⟨0, by omega, rfl, HI⟩
      case round =>
        clear HI
        obtain ⟨i, hi, rfl, HI⟩ := hrel
        by_cases hlt : i < 8
        · have hsl := sums_len s X0 i
          have c6 := HI.trd.cell (j := i) (by omega)
          rw [sums_at s X0 i i (Nat.le_refl _)] at c6
          have f6 := HI.trd.frozen i
          have c2 := HI.fst.cell (j := i) (by omega)
          have HN := Lib.hid (HI.set_ i ((s.getD i 0 + X0.getD i 0) % 4294967296)).drew
          rw [← sums] at HN
          obtain ⟨y, hy⟩ : ∃ y, s.getD i 0 = y := ⟨_, rfl⟩
          obtain ⟨z, hz⟩ : ∃ z, X0.getD i 0 = z := ⟨_, rfl⟩
          obtain ⟨v, hv⟩ : ∃ v, (y + z) % 4294967296 = v := ⟨_, rfl⟩
          rw [hy] at c6
          rw [hz] at c2
          rw [hy, hz, hv] at HN
          have e1 : IntKind.u32.wrap (y + z) = v := by rw [IntKind.wrap_u32]; exact hv
          have q0 : (0 : Int) ≤ (i : Int) ∧ (i : Int) < 8 := by omega
          clear HI hy hz hv hsl
          go_wp2
          go_region
          all_goals
            go_wp2
            go_roundw
            case rel => exact ⟨i + 1, by omega, by go_num, HN.out⟩
            case measure => simp [intOf]; omega
        · rw [show ((i : Nat) : Int) = 8 by omega]
          obtain rfl : i = 8 := by omega
          have hsl := sums_len s X0 8
          rw [hl] at hsl
          have RZ := Lib.hid (sized (sums s X0 8) hsl)
          have RL := Lib.hid (show Z8.length = (sums s X0 8).length by rw [hsl]; rfl)
          have H6 := Lib.hid HI.trd
          have H4 := Lib.hid HI.snd
          have HB := Lib.hid HI.bel
          rw [HR.out] at RZ RL H6
          clear HI hi hlt hsl
          go_wp2_with (first
            | (with_reducible refine at_any ?_; refine at_dst 34 rfl ?_; refine wpList_load_ints rfl 159 (.tmp 2) rfl g2 rfl 159 .u32 R H6.out _ Tryz.underlying159 rfl RZ.out ?_)
            | (with_reducible refine at_any ?_; refine at_store 4 rfl ?_; refine wpList_store_ints rfl 159 (.tmp 4) (.tmp 34) rfl g4 rfl 159 .u32 Z8 R H4.out rfl RL.out RZ.out ?_; intro w9 hk9 hs9 hb9 ho9)
            | (refine bodyPost_cell 4 159 rfl g4 rfl 159 .u32 R hk9.out _ Tryz.underlying159 rfl RZ.out rfl ?_))
          first | exact HB.out.trans (hb9 _ HG4.out.1) | (rw [← HW.out]; exact HB.out.trans (hb9 _ HG4.out.1))
end
section
open Go.ChangeShapes Go.WideShapes Go.ChangeAt Go.RowKit
def RetG (w : World) (g : Nat) (V : Array Value) (e : Ending) (w' : World) : Prop := e = .returned (.tuple #[]) ∧ Blk w' g 176 V ∧ Only g w w'
set_option maxHeartbeats 1000000 in
theorem qtake_c (g : Nat) (A : Option Addr) (r c : Nat) (s b : List Int) (n : Int) (hl : s.length = 8) (hs : WIn s) (hbl : b.length = 64) (hb : ∀ z ∈ b, 0 ≤ z ∧ z < 256) (w : World) (hg : Blk w g 176 (wrV s A r c n)) (hkst : Kst w) :
    Calls Tryz.prog 135 #[.pointer (some ⟨g, 0, none⟩), .agg (intsA .u8 b)] w (RetG w g (wrV (takeL s b) A r c n)) := by
  have hyl := takeL_len s b hl
  have HC := Lib.hid (fun W => ctake_c s b hl hs hbl hb W)
  obtain ⟨y, hy⟩ : ∃ y, takeL s b = y := ⟨_, rfl⟩
  rw [hy] at hyl HC ⊢
  have HPU := Lib.hid (wrV_put s y hl hyl A r c n)
  have SS := Lib.hid (sized s hl)
  have SY := Lib.hid (show (Tryz.prog.info? 159).map (·.size) = some (intsA .u32 y).size by rw [intsA_size, hyl]; exact size_state)
  have SB := Lib.hid (show (Tryz.prog.info? 137).map (·.size) = some (b.map (Value.int .u8)).length by rw [List.length_map, hbl]; exact size_blk)
  have LY := Lib.hid (show (intsA .u32 y).size ≤ (wrV s A r c n).size by rw [intsA_size, hyl, wrV_size s hl]; omega)
  have OY := Lib.hid (all_oneCell_toArray (ints_one .u32 y))
  have HST := Lib.hid (fun W (h : Blk W g 176 (wrV s A r c n)) => wrV_range h)
  obtain ⟨V, hV⟩ : ∃ V, wrV s A r c n = V := ⟨_, rfl⟩
  rw [hV] at hg HPU LY HST
  have HG := Lib.hid hg
  have HK := Lib.hid hkst
  clear hV hy hl hs hbl hb hg hkst
  go_enter Tryz.func135, Tryz.ntmps135
  go_wp2_with (with_reducible refine at_any ?_; refine at_dst 3 rfl ?_; refine wpList_box_ints rfl 137 (.tmp 1) rfl .u8 b rfl ?_; intro w1 hk1 hs1 hb1)
  have HG1 := HG.out.below hb1 HG.out.lt
  have HO1 : Only g w w1 := Only.of_below hb1
  have HK1 := HK.out.below hb1
  have HB1 := hk1.out
  have hne : w.heap.size ≠ g := by have := HG.out.lt; omega
  obtain ⟨q, hq⟩ : ∃ q, w.heap.size = q := ⟨_, rfl⟩
  rw [hq] at HB1 hne
  rw [hq]
  clear hk1 hs1 hb1 hq
  refine wp_region_held_drew (S := LiesB q b) (by kernel_rfl) (HB1.drew) (fun hH => ?_)
  refine held_v 0 (some 4) rfl rfl (by kernel_rfl) (by kernel_rfl) (by kernel_rfl) (fun _ _ _ _ h => h) (by kernel_rfl) (.pointer (some ⟨g, 0, none⟩)) (fun W h => by go_simp) hH ?_
  try simp only [Act.put, List.setIfInBounds_toArray, List.set_cons_zero, List.set_cons_succ]
  refine held_v 1 (some 5) rfl rfl (by kernel_rfl) (by kernel_rfl) (by kernel_rfl) (fun _ _ _ _ h => h) (by kernel_rfl) (.pointer (some ⟨g, 0, none⟩)) (fun W h => by go_simp) hH ?_
  try simp only [Act.put, List.setIfInBounds_toArray, List.set_cons_zero, List.set_cons_succ]
  refine held_v 2 (some 6) rfl rfl (by kernel_rfl) (by kernel_rfl) (by kernel_rfl) (fun _ _ _ _ h => h) (by kernel_rfl) (.pointer (some ⟨g, 0, none⟩)) (fun W h => by go_simp) hH ?_
  try simp only [Act.put, List.setIfInBounds_toArray, List.set_cons_zero, List.set_cons_succ]
  refine held_v 3 (some 7) rfl rfl (by kernel_rfl) (by kernel_rfl) (by kernel_rfl) (fun _ _ _ _ h => h) (by kernel_rfl) (.pointer (some ⟨g, 0, none⟩)) (fun W h => by go_simp) hH ?_
  try simp only [Act.put, List.setIfInBounds_toArray, List.set_cons_zero, List.set_cons_succ]
  refine held_v 4 (some 8) rfl rfl (by kernel_rfl) (by kernel_rfl) (by kernel_rfl) (fun _ _ _ _ h => h) (by kernel_rfl) (.pointer (some ⟨g, 0, none⟩)) (fun W h => by go_simp) hH ?_
  try simp only [Act.put, List.setIfInBounds_toArray, List.set_cons_zero, List.set_cons_succ]
  refine held_load_at 6 (some 10) rfl rfl (by kernel_rfl) (by kernel_rfl) (by kernel_rfl) (fun _ _ _ _ h => h) (by kernel_rfl) 137 (.tmp 3) rfl q 0 (by kernel_rfl) (b.map (Value.int .u8)) (fun W h => blk_range h) _ Tryz.underlying137 rfl SB.out hH ?_
  try simp only [Act.put, List.setIfInBounds_toArray, List.set_cons_zero, List.set_cons_succ]
  refine wpAnyH_ready (rs := [5]) (by kernel_rfl) (by decide) ?_
  refine AllReadyH.cons rfl (fun K hK => ?_) AllReadyH.nil
  refine step_load_at (some 9) rfl (by kernel_rfl) 159 (.tmp 8) rfl g 0 (by kernel_rfl) (s.map (Value.int .u32)) (HST.out _ HG1.drew) _ Tryz.underlying159 rfl (by rw [List.length_map]; exact SS.out) ?_
  refine hK.out _ _ hH (fun _ => ?_)
  clear hK K
  try simp only [Act.put, List.setIfInBounds_toArray, List.set_cons_zero, List.set_cons_succ]
  refine wpAnyH_ready (rs := [7]) (by kernel_rfl) (by decide) ?_
  refine AllReadyH.cons rfl (fun K hK => ?_) AllReadyH.nil
  refine step_call (some 11) rfl (by kernel_rfl) _ _ (by kernel_rfl) _ (HC.out w1.drew HK1.drew) ?_
  rintro e w4 ⟨rfl, hb4⟩
  have HG4 := HG1.drew.below hb4 HG1.lt
  have hH4 : LiesB q b w4 := BlkI.below hH hb4 (BlkI.lt hH)
  have HO4 : Only g w w4 := HO1.trans (Only.of_below (w := w1.drew) hb4).of_drew
  refine ⟨_, rfl, ?_⟩
  refine hK.out _ _ hH4 (fun hH4 => ?_)
  clear hK K
  try simp only [Act.put, List.setIfInBounds_toArray, List.set_cons_zero, List.set_cons_succ]
  refine held_v 8 (some 12) rfl rfl (by kernel_rfl) (by kernel_rfl) (by kernel_rfl) (fun _ _ _ _ h => h) (by kernel_rfl) (.pointer (some ⟨g, 0, none⟩)) (fun W h => by go_simp) hH4 ?_
  try simp only [Act.put, List.setIfInBounds_toArray, List.set_cons_zero, List.set_cons_succ]
  refine held_v 9 (some 13) rfl rfl (by kernel_rfl) (by kernel_rfl) (by kernel_rfl) (fun _ _ _ _ h => h) (by kernel_rfl) (.pointer (some ⟨g, 0, none⟩)) (fun W h => by go_simp) hH4 ?_
  try simp only [Act.put, List.setIfInBounds_toArray, List.set_cons_zero, List.set_cons_succ]
  refine held_v 10 (some 14) rfl rfl (by kernel_rfl) (by kernel_rfl) (by kernel_rfl) (fun _ _ _ _ h => h) (by kernel_rfl) (.pointer (some ⟨g, 0, none⟩)) (fun W h => by go_simp) hH4 ?_
  try simp only [Act.put, List.setIfInBounds_toArray, List.set_cons_zero, List.set_cons_succ]
  refine wpAnyH_ready (rs := [11]) (by kernel_rfl) (by decide) ?_
  refine AllReadyH.cons rfl (fun K hK => ?_) AllReadyH.nil
  refine step_store_at none rfl (by kernel_rfl) 159 (.tmp 14) (.tmp 11) rfl g (by kernel_rfl) 176 V (intsA .u32 y) HG4 (by kernel_rfl) LY.out SY.out OY.out ?_
  intro w5 hk5 ho5
  have hH5 : LiesB q b w5 := Blk.only hH4 ho5 hne
  refine hK.out _ _ hH5 (fun _ => ?_)
  clear hK K
  try simp only [Act.put, List.setIfInBounds_toArray, List.set_cons_zero, List.set_cons_succ]
  refine wpAnyH_done (by kernel_rfl) ?_ _
  go_wp2
  go_end0
  exact ⟨rfl, by rw [← HPU.out]; exact hk5.out, HO4.trans ho5⟩
end
section
open Go.ChangeShapes Go.WideShapes Go.ChangeAt Go.RowKit
def rdV (s : Src) (A : Option Addr) (c : Nat) (b : List Int) (h : Bool) : Array Value := ([Value.int .i64 s.kind, .slice A s.tape.length c, .int .u64 s.bits] ++ (s.seed.map (Value.int .u8) ++ ([Value.int .u64 s.dom, .int .u64 s.at_] ++ (b.map (Value.int .u8) ++ [Value.bool h])))).toArray
theorem rdV_size (s : Src) (hl : s.seed.length = 32) (A : Option Addr) (c : Nat) (b : List Int) (hb : b.length = 32) (h : Bool) : (rdV s A c b h).size = 70 := by simp [rdV, hl, hb]
theorem rdV_ones (s : Src) (A : Option Addr) (c : Nat) (b : List Int) (h : Bool) : (rdV s A c b h).all (·.oneCell') = true := all_oneCell_toArray (by
  intro u hu
  simp only [List.mem_append, List.mem_cons, List.not_mem_nil, or_false, List.mem_map] at hu
  rcases hu with (h | h | h) | ⟨_, _, h⟩ | (h | h) | ⟨_, _, h⟩ | h <;> subst h <;> rfl)
theorem rdV_kind (s : Src) (A : Option Addr) (c : Nat) (b : List Int) (h : Bool) : (rdV s A c b h)[0]? = some (.int .i64 s.kind) := rfl
theorem rdV_tape (s : Src) (A : Option Addr) (c : Nat) (b : List Int) (h : Bool) : (rdV s A c b h)[1]? = some (.slice A s.tape.length c) := rfl
theorem rdV_dom (s : Src) (hl : s.seed.length = 32) (A : Option Addr) (c : Nat) (b : List Int) (h : Bool) : (rdV s A c b h)[35]? = some (.int .u64 s.dom) := by
  unfold rdV
  rw [List.getElem?_toArray, List.getElem?_append_right (by simp), List.getElem?_append_right (by simp [hl])]
  simp [hl]
theorem rdV_at (s : Src) (hl : s.seed.length = 32) (A : Option Addr) (c : Nat) (b : List Int) (h : Bool) : (rdV s A c b h)[36]? = some (.int .u64 s.at_) := by
  unfold rdV
  rw [List.getElem?_toArray, List.getElem?_append_right (by simp), List.getElem?_append_right (by simp [hl])]
  simp [hl]
theorem rdV_blk (s : Src) (hl : s.seed.length = 32) (A : Option Addr) (c : Nat) (b : List Int) (h : Bool) (j : Nat) (hj : j < b.length) : (rdV s A c b h)[37 + j]? = some (.int .u8 (b.getD j 0)) := by
  unfold rdV
  rw [List.getElem?_toArray, List.getElem?_append_right (by simp; omega), List.getElem?_append_right (by simp [hl]; omega), List.getElem?_append_right (by simp [hl]; omega)]
  simp only [List.length_cons, List.length_nil, List.length_map, hl]
  rw [List.getElem?_append_left (by simp; omega), List.getElem?_map, show 37 + j - (0 + 1 + 1 + 1) - 32 - (0 + 1 + 1) = j by omega, List.getElem?_eq_getElem hj, List.getD_eq_getElem?_getD, List.getElem?_eq_getElem hj]
  rfl
theorem rdV_hashed (s : Src) (hl : s.seed.length = 32) (A : Option Addr) (c : Nat) (b : List Int) (hb : b.length = 32) (h : Bool) : (rdV s A c b h)[69]? = some (.bool h) := by
  unfold rdV
  rw [List.getElem?_toArray, List.getElem?_append_right (by simp), List.getElem?_append_right (by simp [hl]), List.getElem?_append_right (by simp [hl]), List.getElem?_append_right (by simp [hl, hb])]
  simp [hl, hb]
theorem rdV_set36 (s : Src) (hl : s.seed.length = 32) (A : Option Addr) (c : Nat) (b : List Int) (h : Bool) (n : Int) : (rdV s A c b h).setIfInBounds 36 (.int .u64 n) = rdV (s.to n) A c b h := by
  unfold rdV Src.to
  rw [List.setIfInBounds_toArray]
  congr 1
  rw [List.set_append_right _ _ (by simp), List.set_append_right _ _ (by simp [hl])]
  simp [hl]
theorem rdV_set69 (s : Src) (hl : s.seed.length = 32) (A : Option Addr) (c : Nat) (b : List Int) (hb : b.length = 32) (h h' : Bool) : (rdV s A c b h).setIfInBounds 69 (.bool h') = rdV s A c b h' := by
  unfold rdV
  rw [List.setIfInBounds_toArray]
  congr 1
  rw [List.set_append_right _ _ (by simp), List.set_append_right _ _ (by simp [hl]), List.set_append_right _ _ (by simp [hl]), List.set_append_right _ _ (by simp [hl, hb])]
  simp [hl, hb]
theorem putAll_mid : ∀ (vs old pre post : List Value), vs.length = old.length → putAll (pre ++ (old ++ post)).toArray pre.length vs = (pre ++ (vs ++ post)).toArray
  | [], [], _, _, _ => rfl
  | [], _ :: _, _, _, h => by simp at h
  | _ :: _, [], _, _, h => by simp at h
  | v :: vs, o :: old, pre, post, h => by
    have ih := putAll_mid vs old (pre ++ [v]) post (by simpa using h)
    rw [putAll, List.setIfInBounds_toArray, List.set_append_right _ _ (Nat.le_refl _), Nat.sub_self]
    rw [show (o :: old ++ post).set 0 v = [v] ++ (old ++ post) from rfl, ← List.append_assoc]
    rw [List.length_append, List.length_singleton] at ih
    rw [ih]
    simp
theorem rdV_put (s : Src) (hl : s.seed.length = 32) (A : Option Addr) (c : Nat) (b y : List Int) (hb : b.length = 32) (hy : y.length = 32) (h : Bool) : putAll (rdV s A c b h) 37 (intsA .u8 y).toList = rdV s A c y h := by
  have hm := putAll_mid (y.map (Value.int .u8)) (b.map (Value.int .u8)) ([Value.int .i64 s.kind, .slice A s.tape.length c, .int .u64 s.bits] ++ (s.seed.map (Value.int .u8) ++ [Value.int .u64 s.dom, .int .u64 s.at_])) [Value.bool h] (by simp [hb, hy])
  rw [show ([Value.int .i64 s.kind, .slice A s.tape.length c, .int .u64 s.bits] ++ (s.seed.map (Value.int .u8) ++ [Value.int .u64 s.dom, .int .u64 s.at_])).length = 37 by simp [hl]] at hm
  unfold rdV intsA
  rw [List.append_assoc, List.append_assoc] at hm
  rw [List.append_assoc, List.append_assoc] at hm
  exact hm
theorem rdV_seed {w : World} {g : Nat} {t : TypeId} {s : Src} {A : Option Addr} {c : Nat} {b : List Int} {h : Bool} (hk : Blk w g t (rdV s A c b h)) : w.rangeAt g 3 (s.seed.map (Value.int .u8)) := by
  intro j v hv
  have hj : j < (s.seed.map (Value.int .u8)).length := by
    rcases Nat.lt_or_ge j (s.seed.map (Value.int .u8)).length with h1 | h1
    · exact h1
    · rw [List.getElem?_eq_none h1] at hv; cases hv
  rw [hk.cell]
  unfold rdV
  rw [List.getElem?_toArray, List.getElem?_append_right (by simp), show 3 + j - [Value.int .i64 s.kind, .slice A s.tape.length c, .int .u64 s.bits].length = j by simp, List.getElem?_append_left hj]
  exact hv
theorem rdV_src {w : World} {g : Nat} {t : TypeId} {s : Src} {A : Option Addr} {c : Nat} {b : List Int} {h : Bool} (hk : Blk w g t (rdV s A c b h)) : w.rangeAt g 0 (srcV s A c).toList := by
  intro j v hv
  rw [Nat.zero_add, hk.cell]
  have e : rdV s A c b h = ((srcV s A c).toList ++ (b.map (Value.int .u8) ++ [Value.bool h])).toArray := by simp [rdV, srcV]
  have hj : j < (srcV s A c).toList.length := by
    rcases Nat.lt_or_ge j (srcV s A c).toList.length with h1 | h1
    · exact h1
    · rw [List.getElem?_eq_none h1] at hv; cases hv
  rw [e, List.getElem?_toArray, List.getElem?_append_left hj]
  exact hv
theorem size_rdg : (Tryz.prog.info? 133).map (·.size) = some 70 := by kernel_rfl
theorem zero_rdg : ∀ W, (zeroValue 133).run Tryz.prog W = .ok (.agg (rdV Src.zero none 0 (List.replicate 32 0) false)) W := (zero_of_info (n := 70) (by kernel_rfl)).1
theorem sizedR (s : Src) (hl : s.seed.length = 32) (A : Option Addr) (c : Nat) (b : List Int) (hb : b.length = 32) (h : Bool) : (Tryz.prog.info? 133).map (·.size) = some (rdV s A c b h).size := by rw [rdV_size s hl A c b hb]; exact size_rdg
theorem run_build_rd (v0 v1 v2 v3 v4 v5 v6 v7 v8 v9 v10 v11 v12 v13 v14 v15 v16 v17 v18 v19 v20 v21 v22 v23 v24 v25 v26 v27 v28 v29 v30 v31 v32 v33 v34 v35 v36 : Value) (w : World) : (Instr.build 133 #[(0, .agg #[v0, v1, v2, v3, v4, v5, v6, v7, v8, v9, v10, v11, v12, v13, v14, v15, v16, v17, v18, v19, v20, v21, v22, v23, v24, v25, v26, v27, v28, v29, v30, v31, v32, v33, v34, v35, v36])]).run Tryz.prog w = .ok (.agg #[v0, v1, v2, v3, v4, v5, v6, v7, v8, v9, v10, v11, v12, v13, v14, v15, v16, v17, v18, v19, v20, v21, v22, v23, v24, v25, v26, v27, v28, v29, v30, v31, v32, v33, v34, v35, v36, .int .u8 0, .int .u8 0, .int .u8 0, .int .u8 0, .int .u8 0, .int .u8 0, .int .u8 0, .int .u8 0, .int .u8 0, .int .u8 0, .int .u8 0, .int .u8 0, .int .u8 0, .int .u8 0, .int .u8 0, .int .u8 0, .int .u8 0, .int .u8 0, .int .u8 0, .int .u8 0, .int .u8 0, .int .u8 0, .int .u8 0, .int .u8 0, .int .u8 0, .int .u8 0, .int .u8 0, .int .u8 0, .int .u8 0, .int .u8 0, .int .u8 0, .int .u8 0, .bool false]) w :=
  run_build w _ _ _ (by kernel_rfl)
theorem build_rd {a : Act} {o : Oper} {x : Operand} (w : World) (s : Src) (hl : s.seed.length = 32) (A : Option Addr) (c : Nat) (ho : o.op = .build 133 #[(0, x)]) (hx : a.eval x = .agg (srcV s A c)) :
    (execOp a.eval o).run Tryz.prog w = .ok (.value (.agg (rdV s A c (List.replicate 32 0) false))) w := by
  have hL := list32 s.seed hl
  unfold execOp
  simp only [ho, List.map_toArray, List.map_cons, List.map_nil, hx]
  change ((Instr.build 133 #[(0, .agg (srcV s A c))]) >>= fun v => pure (Next.value v)).run Tryz.prog w = _
  have h : (Instr.build 133 #[(0, .agg (srcV s A c))]).run Tryz.prog w = .ok (.agg (rdV s A c (List.replicate 32 0) false)) w := by
    unfold srcV rdV
    rw [hL]
    exact run_build_rd _ _ _ _ _ _ _ _ _ _ _ _ _ _ _ _ _ _ _ _ _ _ _ _ _ _ _ _ _ _ _ _ _ _ _ _ _ w
  simp only [Sem.run_bind, h, Result.andThen_ok, Sem.run_pure]
section
variable {P : Program} {w w' : World} {ops : Array Oper} {rest : List Oper} {o : Oper} {a : Act} {Q : Exit → Act → World → Prop}
theorem step_store_off {K : Act → World → Prop} {E : Prop} (d : Option Tmp) (hd : o.dst = d) (hw : Region.wanted o (yielded ops a.tmps) = true) (ty : TypeId) (x y : Operand) (ho : o.op = .store ty x y) (g off : Nat) (hx : a.eval x = .pointer (some ⟨g, off, none⟩)) (t : TypeId) (cs ys : Array Value) (hb : Blk w g t cs)
    (hy : a.eval y = .agg ys) (hl : off + ys.size ≤ cs.size) (hz : (P.info? ty).map (·.size) = some ys.size) (h1 : ys.all (·.oneCell') = true)
    (h : ∀ w', Hid (Blk w' g t (putAll cs off ys.toList)) → Only g w w' → K (a.put d undef) w') :
    if Region.wanted o (yielded ops a.tmps) = true then Oper.wp P o a w K Q else E := by
  subst hd
  rw [if_pos hw]
  exact wp_store_mid ty x y ho g off ys hx hy (hb.there off ys.size hl) hz h1 (h _ (Blk.setCells _ _ hb) (Only.setCells g _ _ _))
end
section
variable {P : Program} {ops : Array Oper} {Q : Exit → Act → World → Prop} {md : Region.Mode} {S : World → Prop} {fuel : Nat} {listed : Array Bool} {a : Act} {w : World}
theorem held_load_arr {oi : Oper} (i : Nat) (d : Option Tmp) (hi : ops[i]? = some oi) (hd : oi.dst = d) (hs : Region.noSelect ops = true) (hf : Region.free md ops listed i = true) (hr : (Region.ready md ops listed).contains i = true)
    (hQ2 : ∀ c a v w, Q (.panic c) (a.put oi.dst v) w → Q (.panic c) a w) (hw : Region.wanted oi (yielded ops a.tmps) = true)
    (ty : TypeId) (x : Operand) (ho : oi.op = .load ty x) (g off : Nat) (hx : a.eval x = .pointer (some ⟨g, off, none⟩)) (cs : Array Value) (hS : ∀ w, S w → w.rangeAt g off cs.toList)
    (ds : TypeDesc) (hu : P.underlying ty = some ds) (hdr : ds.isRow = true) (hz : (P.info? ty).map (·.size) = some cs.size) (hSw : S w)
    (h : wpAnyH P md ops Q S fuel (listed.setIfInBounds i true) (a.put d (.agg cs)) w) : wpAnyH P md ops Q S (fuel + 1) listed a w :=
  held_load_at i d hi hd hs hf hr hQ2 hw ty x ho g off hx cs.toList hS ds hu hdr (by rw [Array.length_toList]; exact hz) hSw h
end
def BkA (s : Src) (b : List Int) (h : Bool) : Prop := b.length = 32 ∧ (∀ z ∈ b, 0 ≤ z ∧ z < 256) ∧ (s.kind = 2 → h = true → s.at_ % 256 ≠ 0 → b = blkL s.seed s.dom (s.at_ / 256))
def BkB (s : Src) (b : List Int) : Prop := b.length = 32 ∧ (∀ z ∈ b, 0 ≤ z ∧ z < 256) ∧ (s.kind = 2 → b = blkL s.seed s.dom (s.at_ / 256))
theorem BkA.zero (s : Src) : BkA s (List.replicate 32 0) false := ⟨by simp, fun z hz => by rw [List.eq_of_mem_replicate hz]; omega, fun _ h => by cases h⟩
theorem BkB.next {s : Src} {b : List Int} {h : Bool} (hb : BkB s b) : BkA (s.to (s.at_ + 1)) b h := by
  refine ⟨hb.1, hb.2.1, fun hk _ hn => ?_⟩
  have h1 := hb.2.2 hk
  change (s.at_ + 1) % 256 ≠ 0 at hn
  rw [h1]
  show blkL s.seed s.dom (s.at_ / 256) = blkL s.seed s.dom ((s.at_ + 1) / 256)
  rw [show (s.at_ + 1) / 256 = s.at_ / 256 by omega]
def octS (s : Src) : Int := if s.kind = 2 then (blkL s.seed s.dom (s.at_ / 256)).getD (s.at_ % 256 / 8).toNat 0 else s.tape.getD (s.at_ / 8).toNat 0
theorem bitS_oct (s : Src) : bitS s s.at_ = octS s / 2 ^ (7 - s.at_ % 8).toNat % 2 := by
  unfold bitS octS bitN bytN
  split <;> rfl
def RetOct (w : World) (g : Nat) (s : Src) (A : Option Addr) (c : Nat) (e : Ending) (w' : World) : Prop := ∃ b h, e = .returned (.int .u8 (octS s)) ∧ Blk w' g 133 (rdV s A c b h) ∧ BkB s b ∧ Only g w w'
def RetNum (w : World) (g : Nat) (n : Int) (s : Src) (A : Option Addr) (c : Nat) (e : Ending) (w' : World) : Prop := ∃ b h, e = .returned (.int .u64 n) ∧ Blk w' g 133 (rdV s A c b h) ∧ BkA s b h ∧ Only g w w'
def RdS (g : Nat) (s : Src) (A : Option Addr) (c : Nat) (w : World) : Prop := ∃ b h, Blk w g 133 (rdV s A c b h) ∧ b.length = 32
section
variable {g : Nat} {s : Src} {A : Option Addr} {c : Nat} {w w' : World}
theorem RdS.kind (h : RdS g s A c w) : w.cell? ⟨g, 0, none⟩ = some (.int .i64 s.kind) := by obtain ⟨b, hh, hk, _⟩ := h; rw [hk.cell]; exact rdV_kind _ _ _ _ _
theorem RdS.tape (h : RdS g s A c w) : w.cell? ⟨g, 1, none⟩ = some (.slice A s.tape.length c) := by obtain ⟨b, hh, hk, _⟩ := h; rw [hk.cell]; exact rdV_tape _ _ _ _ _
theorem RdS.dom (h : RdS g s A c w) (hl : s.seed.length = 32) : w.cell? ⟨g, 35, none⟩ = some (.int .u64 s.dom) := by obtain ⟨b, hh, hk, _⟩ := h; rw [hk.cell]; exact rdV_dom _ hl _ _ _ _
theorem RdS.at_ (h : RdS g s A c w) (hl : s.seed.length = 32) : w.cell? ⟨g, 36, none⟩ = some (.int .u64 s.at_) := by obtain ⟨b, hh, hk, _⟩ := h; rw [hk.cell]; exact rdV_at _ hl _ _ _ _
theorem RdS.seed (h : RdS g s A c w) : w.rangeAt g 3 (s.seed.map (Value.int .u8)) := by obtain ⟨b, hh, hk, _⟩ := h; exact rdV_seed hk
theorem RdS.below (h : RdS g s A c w) (hb : Below w.heap.size w w') : RdS g s A c w' := by obtain ⟨b, hh, hk, hl⟩ := h; exact ⟨b, hh, hk.below hb hk.lt, hl⟩
theorem RdS.drew (h : RdS g s A c w) : RdS g s A c w.drew := h.below (Below.refl _ _).drew
end
end
section
open Go.ChangeShapes Go.WideShapes Go.ChangeAt Go.RowKit
theorem size_u8h : (Tryz.prog.info? 5).map (·.size) = some 1 := by kernel_rfl
theorem hashF_splice (l : List Int) (i : Nat) (h : i < 8) : splice (hashF l i 0) (4 * i) (put4L (l.getD i 0)) = hashF l (i + 1) 0 := by
  rw [← hashF_next]
  have e1 := backTo_len l i
  unfold splice hashF
  rw [List.take_append_of_le_length (by omega), List.take_of_length_le (by omega), List.drop_append, List.drop_eq_nil_of_le (by omega), List.nil_append, e1]
  simp [put4L]
  omega
theorem index_st8 (zs : List Int) (hl : zs.length = 8) (j : Nat) (hj : j < 8) (w : World) : (Instr.index 159 (.agg (intsA .u32 zs)) (.int .i64 j)).run Tryz.prog w = .ok (.int .u32 (zs.getD j 0)) w := by
  obtain ⟨i0, hi, _, hs, _⟩ := info_parts info_u32c
  refine run_index_arr Tryz.underlying159 Tryz.underlying62 hi hs _ _ _ _ (by omega) (by omega) ?_ w
  rw [Int.toNat_natCast]
  exact intsA_at _ _ _ (by omega)
set_option maxHeartbeats 1000000 in
theorem qjoined_c (l : List Int) (hl : l.length = 8) (hb : ∀ z ∈ l, 0 ≤ z ∧ z < 4294967296) (w : World) :
    Calls Tryz.prog 136 #[.agg (intsA .u32 l)] w fun e w' => e = .returned (.agg (intsA .u8 (hashL l))) ∧ Below w.heap.size w w' := by
  have HSW := Lib.hid (show (Tryz.prog.info? 159).map (·.size) = some l.length by rw [hl]; exact size_state)
  go_enter Tryz.func136, Tryz.ntmps136
  go_wp2_with (first
    | (with_reducible refine at_any ?_; refine at_dst 1 rfl ?_; refine wpList_box_ints rfl 159 (.tmp 0) rfl .u32 l rfl ?_; intro w1 hk1 hs1 hb1)
    | (with_reducible refine at_any ?_; refine at_dst 2 rfl ?_; refine wpList_alloc_ints rfl 26 rfl .u8 (List.replicate 32 0) zero_hash ?_; intro w2 hk2 hs2 hb2)
    | (with_reducible refine at_any ?_; refine at_dst 3 rfl ?_; refine wpList_alloc_ints rfl 26 rfl .u8 (List.replicate 32 0) zero_hash ?_; intro w3 hk3 hs3 hb3)
    | (with_reducible refine at_any ?_; refine at_dst 7 rfl ?_; refine wpList_load_ints rfl 159 (.tmp 1) rfl w.heap.size rfl 159 .u32 l ((hk1.out.below hb2 (by have := hs1.out; omega)).below hb3 (by have := hs1.out; have := hs2.out; omega)) _ Tryz.underlying159 rfl HSW.out ?_))
  have HI : In3 w w.heap.size w1.heap.size w2.heap.size 159 26 26 .u32 .u8 .u8 l (List.replicate 32 0) (hashF l 0 0) w3 := by
    rw [hashF_zero]
    have q1 := hs1.out
    have q2 := hs2.out
    have q3 := hs3.out
    exact ⟨(hk1.out.below hb2 (by omega)).below hb3 (by omega), hk2.out.below hb3 (by omega), hk3.out, hb1.trans ((hb2.mono (by omega)).trans (hb3.mono (by omega))), by omega, by omega, by omega⟩
  have HG : w.heap.size < w2.heap.size ∧ w1.heap.size < w2.heap.size := by have q1 := hs1.out; have q2 := hs2.out; omega
  obtain ⟨g1, hg1⟩ : ∃ g, w.heap.size = g := ⟨_, rfl⟩
  obtain ⟨g2, hg2⟩ : ∃ g, w1.heap.size = g := ⟨_, rfl⟩
  obtain ⟨g3, hg3⟩ : ∃ g, w2.heap.size = g := ⟨_, rfl⟩
  have HG2 := Lib.hid (show w.heap.size ≤ g2 by have := hb1.size; omega)
  rw [hg1, hg2, hg3] at HI HG
  rw [hg1, hg2, hg3]
  have HGH := Lib.hid HG
  clear hk1 hs1 hb1 hk2 hs2 hb2 hk3 hs3 hb3 HG
  go_loopw [8] (fun v wr => ∃ i : Nat, i ≤ 8 ∧ v = .int .i64 i ∧ In3 w g1 g2 g3 159 26 26 .u32 .u8 .u8 l (List.replicate 32 0) (hashF l i 0) wr) (fun v _ => 8 - (intOf v).toNat)
  case atStart => exact ⟨0, by omega, rfl, HI⟩
  case round =>
    clear HI
    obtain ⟨i, hi, rfl, HI⟩ := hrel
    by_cases hlt : i < 8
    · have hix := fun W => index_st8 l hl i hlt W
      have rx : 0 ≤ l.getD i 0 ∧ l.getD i 0 < 4294967296 := by
        have h : i < l.length := by omega
        simp [h]; exact hb _ (List.getElem_mem h)
      have hsp := hashF_splice l i hlt
      have hfl := hashF_len l i 0 (by omega) (by omega)
      obtain ⟨x, hx⟩ : ∃ x, l.getD i 0 = x := ⟨_, rfl⟩
      rw [hx] at hix rx hsp
      obtain ⟨p0, p1, p2, p3, hps⟩ : ∃ p0 p1 p2 p3, put4L x = [p0, p1, p2, p3] := ⟨_, _, _, _, rfl⟩
      have hput := fun W => put32_c x rx.1 rx.2 W
      have hp4 : put4 x = ((put4L x).map (Value.int .u8)).toArray := rfl
      rw [hp4, hps] at hput
      rw [hps] at hsp
      have HP := Lib.hid hput
      have HSP := Lib.hid hsp
      have HFL := Lib.hid hfl
      have HI' := Lib.hid HI
      obtain ⟨m, hm⟩ : ∃ m, 4 * i = m := ⟨_, rfl⟩
      have e0 : IntKind.i64.wrap (4 * (i : Int)) = (m : Int) := by rw [IntWalk.i64_in _ (by omega)]; omega
      have q0 : (0 : Int) ≤ (m : Int) := by omega
      have q1 : (m : Int) ≤ 32 := by omega
      have q2 : ¬ 32 = m := by omega
      have q3 : m + 4 ≤ 32 := by omega
      have i0 : (0 : Int) ≤ (i : Int) := by omega
      have i1 : (i : Int) < 8 := by omega
      rw [hm] at HSP
      clear hput hp4 hps hsp hfl hx HI hm
      go_wp2_with (go_at_call 142; (with_reducible refine (HP.out _).mono ?_); rintro e w4 ⟨rfl, hb4, _⟩)
      have HB5 := Lib.hid (BlkI.new w4 172 .u8 [p0, p1, p2, p3])
      have HI5 := Lib.hid ((HI'.out.below hb4).below ((Below.refl _ _).alloc (Nat.le_refl _) (Obj.cells (intsA .u8 [p0, p1, p2, p3]) 172)))
      obtain ⟨W5, hW5⟩ : ∃ W5, w4.alloc (Obj.cells #[.int .u8 p0, .int .u8 p1, .int .u8 p2, .int .u8 p3] 172) = W5 := ⟨_, rfl⟩
      have hW5' : w4.alloc (Obj.cells (intsA .u8 [p0, p1, p2, p3]) 172) = W5 := hW5
      rw [hW5'] at HB5 HI5
      rw [hW5]
      obtain ⟨g5, hg5⟩ : ∃ g, w4.heap.size = g := ⟨_, rfl⟩
      rw [hg5] at HB5 ⊢
      clear hW5 hW5' hg5 hb4 HI' rx HP hix
      go_region_law (refine step_dst 18 rfl ?_; refine step_copy_ints rfl (.tmp 16) (.tmp 17) 23 23 rfl 5 Tryz.underlying23 size_u8h (some ⟨g3, m, none⟩) (some ⟨g5, 0, none⟩) (32 - m) (32 - m) 4 4 (by kernel_rfl) (by kernel_rfl) g3 m .u8 _ 26 HI5.out.trd.drew 4 (by omega) _ [p0, p1, p2, p3] HB5.out.rd.drew (fun _ => rfl) (by rw [HFL.out]; omega) g3 W5.drew (Below.refl _ _) (Nat.le_refl _) ?_; intro w6 HK6 hb6)
      all_goals
        go_wp2
        go_roundw
        case rel =>
          have hk := HK6.out
          rw [HSP.out] at hk
          obtain ⟨h1, h2, h3, h4, h5, h6, h7⟩ := HI5.out
          exact ⟨i + 1, by omega, by go_num, h1.drew.below hb6 HGH.out.1, h2.drew.below hb6 HGH.out.2, hk, h4.trans (below_of_drew (hb6.mono h5)), h5, h6, h7⟩
        case measure => simp [intOf]; omega
    · rw [show ((i : Nat) : Int) = 8 by omega]
      obtain rfl : i = 8 := by omega
      rw [hashF_full] at HI
      obtain ⟨h1, h2, h3, h4, h5, h6, h7⟩ := HI
      have hpl : (hashL l).length = 32 := backTo_len l 8
      have HPL := Lib.hid hpl
      have H3 := Lib.hid h3
      have H2 := Lib.hid h2
      have hg2 : w.heap.size ≤ g2 := HG2.out
      clear hpl h1 h2 h3
      go_wp2_with (first
        | (with_reducible refine at_any ?_; refine at_dst 20 rfl ?_; refine wpList_load_ints rfl 26 (.tmp 3) rfl g3 rfl 26 .u8 (hashL l) H3.out _ Tryz.underlying26 rfl (by rw [HPL.out]; exact size_hash) ?_)
        | (with_reducible refine at_any ?_; refine at_store 2 rfl ?_; refine wpList_store_ints rfl 26 (.tmp 2) (.tmp 20) rfl g2 rfl 26 .u8 (List.replicate 32 0) (hashL l) H2.out rfl (by rw [HPL.out]; simp) (by rw [HPL.out]; exact size_hash) ?_; intro w9 hk9 hs9 hb9 ho9)
        | (refine bodyPost_cell 2 26 rfl g2 rfl 26 .u8 (hashL l) hk9.out _ Tryz.underlying26 rfl (by rw [HPL.out]; exact size_hash) rfl ?_))
      rw [← hg1]
      exact h4.trans (hb9 _ hg2)
end
section
open Go.ChangeShapes Go.WideShapes Go.ChangeAt Go.RowKit
theorem run_build_wg (s0 s1 s2 s3 s4 s5 s6 s7 : Int) (A : Option Addr) (r c : Nat) (n : Int) (w : World) :
    (Instr.build 176 #[(0, .agg #[.int .u32 s0, .int .u32 s1, .int .u32 s2, .int .u32 s3, .int .u32 s4, .int .u32 s5, .int .u32 s6, .int .u32 s7, .slice A r c, .int .u64 n])]).run Tryz.prog w = .ok (.agg #[.int .u32 s0, .int .u32 s1, .int .u32 s2, .int .u32 s3, .int .u32 s4, .int .u32 s5, .int .u32 s6, .int .u32 s7, .slice A r c, .int .u64 n]) w := by
  go_simp
theorem build_wg {a : Act} {o : Oper} {x : Operand} (w : World) (s : List Int) (hl : s.length = 8) (A : Option Addr) (r c : Nat) (n : Int) (ho : o.op = .build 176 #[(0, x)]) (hx : a.eval x = .agg (wrV s A r c n)) :
    (execOp a.eval o).run Tryz.prog w = .ok (.value (.agg (wrV s A r c n))) w := by
  obtain ⟨s0, s1, s2, s3, s4, s5, s6, s7, rfl⟩ : ∃ a b d e f p q u, s = [a, b, d, e, f, p, q, u] := ⟨_, _, _, _, _, _, _, _, list8 s hl⟩
  have h := run_build_wg s0 s1 s2 s3 s4 s5 s6 s7 A r c n w
  unfold execOp
  simp only [ho, List.map_toArray, List.map_cons, List.map_nil, hx]
  change ((Instr.build 176 #[(0, .agg #[.int .u32 s0, .int .u32 s1, .int .u32 s2, .int .u32 s3, .int .u32 s4, .int .u32 s5, .int .u32 s6, .int .u32 s7, .slice A r c, .int .u64 n])]) >>= fun v => pure (Next.value v)).run Tryz.prog w = _
  simp only [Sem.run_bind, h, Result.andThen_ok, Sem.run_pure]
  rfl
theorem size_sl : (Tryz.prog.info? 23).map (·.size) = some 1 := by kernel_rfl
def RetP (w : World) (s r : List Int) (n : Int) (e : Ending) (w' : World) : Prop := ∃ g A c, e = .returned (.pointer (some ⟨g, 0, none⟩)) ∧ Wrt w g A c s r n w'
set_option maxHeartbeats 1000000 in
theorem qbegin_c (s rest : List Int) (hl : s.length = 8) (A : Option Addr) (r c : Nat) (n : Int) (hr : r ≤ 64) (hrc : r ≤ c) (w : World) (hrd : Rd .u8 w w.heap.size A r rest) :
    Calls Tryz.prog 124 #[.agg (wrV s A r c n)] w (RetP w s rest n) := by
  obtain ⟨i0, hi, hz0, hz1, hzb⟩ := info_parts info_u8'
  have hmk : ∀ W, (Instr.makeSlice 23 (.int .i64 (r : Int)) (.int .i64 64)).run Tryz.prog W = .ok (.slice (some ⟨W.heap.size, 0, none⟩) r 64) (W.alloc (.cells (intsA .u8 (List.replicate 64 0)) 5)) := fun W => run_make_cap (P := Tryz.prog) 23 5 i0 .u8 Tryz.underlying23 hi hz0 hz1 hzb r 64 hr (by omega) W
  obtain ⟨L, hL⟩ : ∃ L : List Int, List.replicate 64 0 = L := ⟨_, rfl⟩
  have HLL := Lib.hid (show L.length = 64 by rw [← hL]; simp)
  rw [hL] at hmk
  have HC8 := Lib.hid (wrV_rest s hl A r c n)
  have HV8 := Lib.hid (fun A' => wrV_set8 s hl A A' r c r 64 n)
  have SV := Lib.hid (wrV_size s hl A r c n)
  have SW := Lib.hid (fun A' => sizedW s hl A' r 64 n)
  have HBG := Lib.hid (fun (a : Act) (o : Oper) (x : Operand) W A' => build_wg (a := a) (o := o) (x := x) W s hl A' r 64 n)
  have HRD := Lib.hid hrd
  have HLR := Lib.hid hrd.len
  obtain ⟨V, hV⟩ : ∃ V, wrV s A r c n = V := ⟨_, rfl⟩
  rw [hV] at HC8 HV8 SV ⊢
  clear hL hV hrd hi hz0 hz1 hzb
  go_enter Tryz.func124, Tryz.ntmps124
  go_wp2_with (first
    | (with_reducible refine at_any ?_; refine at_dst 1 rfl ?_; refine wpList_box_any rfl 166 (.tmp 0) rfl V rfl ?_; intro w1 hk1 hs1 hb1; have c8 := hk1.out.cell 8; rw [HC8.out] at c8; have d8 := (hk1.out.alloc (.cells (intsA .u8 L) 5)).cell 8; rw [HC8.out] at d8)
    | (with_reducible refine at_any ?_; refine at_dst 11 rfl ?_; refine wpList_copy_ints rfl (.tmp 8) (.tmp 10) 23 23 rfl 5 Tryz.underlying23 size_u8h _ _ _ _ _ _ rfl rfl w1.heap.size 0 .u8 L 5 (BlkI.new _ _ _ _) r (by omega) w.heap.size rest ((HRD.out.below hb1).alloc hb1.size _) (fun _ => rfl) (by rw [HLL.out]; omega) w1.heap.size w1 ((Below.refl _ _).alloc (Nat.le_refl _) _) (Nat.le_refl _) ?_; intro w7 HK7 hb7; have hk7 := Lib.hid (hk1.out.below hb7 hk1.out.lt); have bl7 := Lib.hid (hb1.trans (hb7.mono hb1.size)))
    | (with_reducible refine at_any ?_; refine at_store 13 rfl ?_; refine wpList_store_cell rfl 23 (.tmp 13) (.tmp 12) rfl w.heap.size 8 rfl 166 V hk7.out (.slice (some ⟨w1.heap.size, 0, none⟩) r 64) rfl (by rw [SV.out]; omega) size_sl rfl rfl ?_; intro w8 hk8 ho8; rw [HV8.out] at hk8)
    | (with_reducible refine at_any ?_; refine at_dst 14 rfl ?_; refine wpList_load_blk rfl 166 (.tmp 1) rfl w.heap.size rfl 166 (wrV s (some ⟨w1.heap.size, 0, none⟩) r 64 n) hk8.out _ Tryz.underlying166 rfl (SW.out _) ?_)
    | (with_reducible refine at_any ?_; refine at_dst 15 rfl ?_; refine wpList_val rfl (.agg (wrV s (some ⟨w1.heap.size, 0, none⟩) r 64 n)) (HBG.out _ _ _ _ _ rfl rfl) ?_)
    | (with_reducible refine at_any ?_; refine at_dst 16 rfl ?_; refine wpList_box_any rfl 176 (.tmp 15) rfl (wrV s (some ⟨w1.heap.size, 0, none⟩) r 64 n) rfl ?_; intro w9 hk9 hs9 hb9))
  go_ret
  have h1 : w.heap.size < w1.heap.size := by have := hs1.out; omega
  have hk8b : BlkI w8 w1.heap.size 5 .u8 (splice L 0 rest) := Blk.only HK7.out ho8 (by omega)
  have hk9b := hk8b.below hb9 hk8b.lt
  have bl8 : Below w.heap.size w w8 := bl7.out.trans (ho8.below (Nat.le_refl _) bl7.out.size)
  have hsl : (splice L 0 rest).length = 64 := by rw [length_splice _ _ _ (by rw [HLL.out, HLR.out]; omega), HLL.out]
  have hst : (splice L 0 rest).take rest.length = rest := by unfold splice; simp
  have hO : OwnI w9 w.heap.size 5 .u8 (.slice (some ⟨w1.heap.size, 0, none⟩) rest.length 64) rest := OwnI.of_blk hk9b (by omega) (by rw [HLR.out]; exact hr) (by simp [maxLen]) hsl hst
  refine ⟨w8.heap.size, some ⟨w1.heap.size, 0, none⟩, 64, rfl, ?_, hO, bl8.trans (hb9.mono bl8.size), bl8.size⟩
  rw [HLR.out]
  exact hk9.out
end
section
open Go.ChangeShapes Go.WideShapes Go.ChangeAt Go.RowKit
def RetTailR (w : World) (zs : List Int) (e : Ending) (w' : World) : Prop := ∃ A c, e = .returned (.tuple #[.slice A zs.length c, .bool true]) ∧ Rd .u8 w' w'.heap.size A zs.length zs ∧ zs.length ≤ c ∧ Below w.heap.size w w'
def RetCutR (w : World) (zs : List Int) (q L : Nat) (bs : List (List Int)) (e : Ending) (w' : World) : Prop :=
  ∃ A1 c1 A2 c2, e = .returned (.tuple #[.slice A1 bs.length c1, .slice A2 (L - 64 * q) c2]) ∧ RdA .u8 64 w' w'.heap.size A1 bs.length bs ∧ Rd .u8 w' w'.heap.size A2 (L - 64 * q) (zs.drop (64 * q)) ∧ L - 64 * q ≤ c2 ∧ Below w.heap.size w w'
end
end Go.Proofs.YtgnclifmfefbcaaGreatDoor

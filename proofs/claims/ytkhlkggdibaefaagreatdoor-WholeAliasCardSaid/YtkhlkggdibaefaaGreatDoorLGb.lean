/-
  Texts of this claim, joined (what the claim does not need is left out): UniQ, ComQ, NatP, NatM, NatR, ComM, ComL, ComT, ComG, TzK, CompK, NedA, PlanA, CompA, CompT, ShaN, TapM, StrmA, ShaJ, ShaG, PadR, PadT, PadC, ShaH, ShaR, ShaW, ShaB, ShaA, StrmB, StrmC.
-/
import Derived.Test.YtkhlkggdibaefaaGreatDoorLGa
import Derived.Test.YtkhlkggdibaefaaGreatDoorRows
import Derived.Lib.LaidTab
import Derived.Lib.TrailingZeros
import Derived.ProofKit
import Derived.LaidMore
import Derived.OpenShut
import Derived.Stop.Joined
import Derived.Deep.RegionHeld3
import Derived.Deep.RegionLaw
import Derived.KernelRfl
import Derived.Laws.Cover3
set_option maxRecDepth 100000
set_option linter.unusedVariables false
set_option linter.unusedSimpArgs false
set_option linter.unusedSectionVars false
namespace Go.Proofs.YtkhlkggdibaefaaGreatDoor
section
def bitB (x bits i q : Nat) : Int := if q < i then ((x / 2 ^ (bits - 1 - q) % 2 : Nat) : Int) else 0
def byteB (x bits i j : Nat) : Int := 128 * bitB x bits i (8 * j) + 64 * bitB x bits i (8 * j + 1) + 32 * bitB x bits i (8 * j + 2) + 16 * bitB x bits i (8 * j + 3) + 8 * bitB x bits i (8 * j + 4) + 4 * bitB x bits i (8 * j + 5) + 2 * bitB x bits i (8 * j + 6) + bitB x bits i (8 * j + 7)
def bytesB (x bits i : Nat) : List Int := (List.range ((i + 7) / 8)).map (byteB x bits i)
def bytesC (x bits i : Nat) : List Int := (List.range (i / 8 + 1)).map (byteB x bits i)
theorem bitB_in (x bits i q : Nat) : 0 ≤ bitB x bits i q ∧ bitB x bits i q < 2 := by unfold bitB; split <;> omega
theorem bitB_out (x bits i q : Nat) (h : i ≤ q) : bitB x bits i q = 0 := by unfold bitB; rw [if_neg (by omega)]
theorem bitB_old (x bits i q : Nat) (h : q ≠ i) : bitB x bits (i + 1) q = bitB x bits i q := by
  unfold bitB
  by_cases h1 : q < i
  · rw [if_pos h1, if_pos (by omega)]
  · rw [if_neg h1, if_neg (by omega)]
theorem byteB_in (x bits i j : Nat) : 0 ≤ byteB x bits i j ∧ byteB x bits i j < 256 := by
  have h0 := bitB_in x bits i (8 * j)
  have h1 := bitB_in x bits i (8 * j + 1)
  have h2 := bitB_in x bits i (8 * j + 2)
  have h3 := bitB_in x bits i (8 * j + 3)
  have h4 := bitB_in x bits i (8 * j + 4)
  have h5 := bitB_in x bits i (8 * j + 5)
  have h6 := bitB_in x bits i (8 * j + 6)
  have h7 := bitB_in x bits i (8 * j + 7)
  unfold byteB
  omega
theorem byteB_other (x bits i j : Nat) (h : j ≠ i / 8) : byteB x bits (i + 1) j = byteB x bits i j := by
  unfold byteB
  rw [bitB_old _ _ _ _ (by omega), bitB_old _ _ _ _ (by omega), bitB_old _ _ _ _ (by omega), bitB_old _ _ _ _ (by omega), bitB_old _ _ _ _ (by omega), bitB_old _ _ _ _ (by omega), bitB_old _ _ _ _ (by omega), bitB_old _ _ _ _ (by omega)]
theorem eight (r : Nat) (h : r < 8) : r = 0 ∨ r = 1 ∨ r = 2 ∨ r = 3 ∨ r = 4 ∨ r = 5 ∨ r = 6 ∨ r = 7 := by omega
theorem byteB_next (x bits i : Nat) : byteB x bits (i + 1) (i / 8) = byteB x bits i (i / 8) + bitB x bits (i + 1) i * 2 ^ (7 - i % 8) ∧ byteB x bits i (i / 8) + 2 ^ (7 - i % 8) < 256 := by
  obtain ⟨a, r, hr, rfl⟩ : ∃ a r, r < 8 ∧ i = 8 * a + r := ⟨i / 8, i % 8, by omega, by omega⟩
  rw [show (8 * a + r) / 8 = a by omega, show (8 * a + r) % 8 = r by omega]
  have ho := fun q (h : q ≠ 8 * a + r) => bitB_old x bits (8 * a + r) q h
  have hz := fun q (h : 8 * a + r ≤ q) => bitB_out x bits (8 * a + r) q h
  have hi := fun q => bitB_in x bits (8 * a + r) q
  have hn := bitB_in x bits (8 * a + r + 1) (8 * a + r)
  have i0 := hi (8 * a)
  have i1 := hi (8 * a + 1)
  have i2 := hi (8 * a + 2)
  have i3 := hi (8 * a + 3)
  have i4 := hi (8 * a + 4)
  have i5 := hi (8 * a + 5)
  have i6 := hi (8 * a + 6)
  have i7 := hi (8 * a + 7)
  unfold byteB
  rcases eight r hr with rfl | rfl | rfl | rfl | rfl | rfl | rfl | rfl
  · rw [ho (8 * a + 1) (by omega), ho (8 * a + 2) (by omega), ho (8 * a + 3) (by omega), ho (8 * a + 4) (by omega), ho (8 * a + 5) (by omega), ho (8 * a + 6) (by omega), ho (8 * a + 7) (by omega)]
    have z0 := hz (8 * a) (by omega)
    have z1 := hz (8 * a + 1) (by omega)
    have z2 := hz (8 * a + 2) (by omega)
    have z3 := hz (8 * a + 3) (by omega)
    have z4 := hz (8 * a + 4) (by omega)
    have z5 := hz (8 * a + 5) (by omega)
    have z6 := hz (8 * a + 6) (by omega)
    have z7 := hz (8 * a + 7) (by omega)
    simp only [Nat.add_zero] at *
    omega
  · rw [ho (8 * a) (by omega), ho (8 * a + 2) (by omega), ho (8 * a + 3) (by omega), ho (8 * a + 4) (by omega), ho (8 * a + 5) (by omega), ho (8 * a + 6) (by omega), ho (8 * a + 7) (by omega)]
    have z1 := hz (8 * a + 1) (by omega)
    have z2 := hz (8 * a + 2) (by omega)
    have z3 := hz (8 * a + 3) (by omega)
    have z4 := hz (8 * a + 4) (by omega)
    have z5 := hz (8 * a + 5) (by omega)
    have z6 := hz (8 * a + 6) (by omega)
    have z7 := hz (8 * a + 7) (by omega)
    omega
  · rw [ho (8 * a) (by omega), ho (8 * a + 1) (by omega), ho (8 * a + 3) (by omega), ho (8 * a + 4) (by omega), ho (8 * a + 5) (by omega), ho (8 * a + 6) (by omega), ho (8 * a + 7) (by omega)]
    have z2 := hz (8 * a + 2) (by omega)
    have z3 := hz (8 * a + 3) (by omega)
    have z4 := hz (8 * a + 4) (by omega)
    have z5 := hz (8 * a + 5) (by omega)
    have z6 := hz (8 * a + 6) (by omega)
    have z7 := hz (8 * a + 7) (by omega)
    omega
  · rw [ho (8 * a) (by omega), ho (8 * a + 1) (by omega), ho (8 * a + 2) (by omega), ho (8 * a + 4) (by omega), ho (8 * a + 5) (by omega), ho (8 * a + 6) (by omega), ho (8 * a + 7) (by omega)]
    have z3 := hz (8 * a + 3) (by omega)
    have z4 := hz (8 * a + 4) (by omega)
    have z5 := hz (8 * a + 5) (by omega)
    have z6 := hz (8 * a + 6) (by omega)
    have z7 := hz (8 * a + 7) (by omega)
    omega
  · rw [ho (8 * a) (by omega), ho (8 * a + 1) (by omega), ho (8 * a + 2) (by omega), ho (8 * a + 3) (by omega), ho (8 * a + 5) (by omega), ho (8 * a + 6) (by omega), ho (8 * a + 7) (by omega)]
    have z4 := hz (8 * a + 4) (by omega)
    have z5 := hz (8 * a + 5) (by omega)
    have z6 := hz (8 * a + 6) (by omega)
    have z7 := hz (8 * a + 7) (by omega)
    omega
  · rw [ho (8 * a) (by omega), ho (8 * a + 1) (by omega), ho (8 * a + 2) (by omega), ho (8 * a + 3) (by omega), ho (8 * a + 4) (by omega), ho (8 * a + 6) (by omega), ho (8 * a + 7) (by omega)]
    have z5 := hz (8 * a + 5) (by omega)
    have z6 := hz (8 * a + 6) (by omega)
    have z7 := hz (8 * a + 7) (by omega)
    omega
  · rw [ho (8 * a) (by omega), ho (8 * a + 1) (by omega), ho (8 * a + 2) (by omega), ho (8 * a + 3) (by omega), ho (8 * a + 4) (by omega), ho (8 * a + 5) (by omega), ho (8 * a + 7) (by omega)]
    have z6 := hz (8 * a + 6) (by omega)
    have z7 := hz (8 * a + 7) (by omega)
    omega
  · rw [ho (8 * a) (by omega), ho (8 * a + 1) (by omega), ho (8 * a + 2) (by omega), ho (8 * a + 3) (by omega), ho (8 * a + 4) (by omega), ho (8 * a + 5) (by omega), ho (8 * a + 6) (by omega)]
    have z7 := hz (8 * a + 7) (by omega)
    omega
theorem byteB_bit (x bits i q : Nat) : byteB x bits i (q / 8) / 2 ^ (7 - q % 8) % 2 = bitB x bits i q := by
  obtain ⟨a, r, hr, rfl⟩ : ∃ a r, r < 8 ∧ q = 8 * a + r := ⟨q / 8, q % 8, by omega, by omega⟩
  rw [show (8 * a + r) / 8 = a by omega, show (8 * a + r) % 8 = r by omega]
  have hi := fun q => bitB_in x bits i q
  have i0 := hi (8 * a)
  have i1 := hi (8 * a + 1)
  have i2 := hi (8 * a + 2)
  have i3 := hi (8 * a + 3)
  have i4 := hi (8 * a + 4)
  have i5 := hi (8 * a + 5)
  have i6 := hi (8 * a + 6)
  have i7 := hi (8 * a + 7)
  unfold byteB
  rcases eight r hr with rfl | rfl | rfl | rfl | rfl | rfl | rfl | rfl
  all_goals
    try rw [show (2 : Int) ^ (7 - 0) = 128 from rfl]
    try rw [show (2 : Int) ^ (7 - 1) = 64 from rfl]
    try rw [show (2 : Int) ^ (7 - 2) = 32 from rfl]
    try rw [show (2 : Int) ^ (7 - 3) = 16 from rfl]
    try rw [show (2 : Int) ^ (7 - 4) = 8 from rfl]
    try rw [show (2 : Int) ^ (7 - 5) = 4 from rfl]
    try rw [show (2 : Int) ^ (7 - 6) = 2 from rfl]
    try rw [show (2 : Int) ^ (7 - 7) = 1 from rfl]
    try rw [show 8 * a + 0 = 8 * a from rfl]
    omega
theorem bytesB_len (x bits i : Nat) : (bytesB x bits i).length = (i + 7) / 8 := by unfold bytesB; rw [List.length_map, List.length_range]
theorem bytesC_len (x bits i : Nat) : (bytesC x bits i).length = i / 8 + 1 := by unfold bytesC; rw [List.length_map, List.length_range]
theorem bytesB_in (x bits i : Nat) : ∀ z ∈ bytesB x bits i, 0 ≤ z ∧ z < 256 := by
  intro z hz
  obtain ⟨j, _, rfl⟩ := List.mem_map.1 hz
  exact byteB_in x bits i j
theorem bytesB_at (x bits i j : Nat) (h : j < (i + 7) / 8) : (bytesB x bits i).getD j 0 = byteB x bits i j := by
  unfold bytesB
  rw [List.getD_eq_getElem?_getD, List.getElem?_map, List.getElem?_range h]
  rfl
theorem bytesC_at (x bits i : Nat) : (bytesC x bits i).getD (i / 8) 0 = byteB x bits i (i / 8) := by
  unfold bytesC
  rw [List.getD_eq_getElem?_getD, List.getElem?_map, List.getElem?_range (by omega)]
  rfl
theorem bytesB_get (x bits i j : Nat) (h : j < (bytesB x bits i).length) : (bytesB x bits i)[j] = byteB x bits i j := by simp [bytesB]
theorem bytesC_get (x bits i j : Nat) (h : j < (bytesC x bits i).length) : (bytesC x bits i)[j] = byteB x bits i j := by simp [bytesC]
theorem bytesC_new (x bits i : Nat) (h : i % 8 = 0) : bytesB x bits i ++ [0] = bytesC x bits i := by
  unfold bytesB bytesC
  rw [List.range_succ, List.map_append, show (i + 7) / 8 = i / 8 by omega]
  congr 1
  show [0] = [byteB x bits i (i / 8)]
  unfold byteB
  rw [bitB_out _ _ _ _ (by omega), bitB_out _ _ _ _ (by omega), bitB_out _ _ _ _ (by omega), bitB_out _ _ _ _ (by omega), bitB_out _ _ _ _ (by omega), bitB_out _ _ _ _ (by omega), bitB_out _ _ _ _ (by omega), bitB_out _ _ _ _ (by omega)]
  rfl
theorem bytesC_old (x bits i : Nat) (h : i % 8 ≠ 0) : bytesB x bits i = bytesC x bits i := by
  unfold bytesB bytesC
  rw [show (i + 7) / 8 = i / 8 + 1 by omega]
theorem bytesB_next (x bits i : Nat) : bytesB x bits (i + 1) = (bytesC x bits i).set (i / 8) (byteB x bits (i + 1) (i / 8)) := by
  apply List.ext_getElem
  · rw [bytesB_len, List.length_set, bytesC_len]; omega
  · intro j h1 h2
    rw [List.getElem_set, bytesB_get]
    split
    · rename_i h; rw [← h]
    · rename_i h; rw [bytesC_get]; exact byteB_other x bits i j (fun h3 => h h3.symm)
theorem bytesB_zero (x bits i : Nat) (h : bitB x bits (i + 1) i = 0) : bytesB x bits (i + 1) = bytesC x bits i := by
  rw [bytesB_next, (byteB_next x bits i).1, h, Int.zero_mul, Int.add_zero]
  apply List.ext_getElem
  · rw [List.length_set]
  · intro j h1 h2
    rw [List.getElem_set]
    split
    · rename_i h3; subst h3; rw [bytesC_get]
    · rfl
theorem bytesB_one (x bits i : Nat) (h : bitB x bits (i + 1) i = 1) : bytesB x bits (i + 1) = (bytesC x bits i).set (i / 8) (byteB x bits i (i / 8) + 2 ^ (7 - i % 8)) := by
  rw [bytesB_next, (byteB_next x bits i).1, h, Int.one_mul]
theorem bitB_at (x bits i : Nat) : bitB x bits (i + 1) i = ((x / 2 ^ (bits - 1 - i) % 2 : Nat) : Int) := by unfold bitB; rw [if_pos (by omega)]
def numT (x bits : Nat) : Src := ⟨1, bytesB x bits bits, bits, List.replicate 32 0, 0, 0⟩
theorem numT_ok (x bits : Nat) (h : bits ≤ 1000) : (numT x bits).Ok := ⟨(by show (-9223372036854775808 : Int) ≤ 1; omega), (by show (1 : Int) < 9223372036854775808; omega), by show (bytesB x bits bits).length ≤ _; rw [bytesB_len]; omega, bytesB_in x bits bits, by show (0 : Int) ≤ (bits : Int); omega, by show (bits : Int) < _; omega, rfl, fun z hz => by rw [List.eq_of_mem_replicate hz]; omega, Int.le_refl _, (by show (0 : Int) < 18446744073709551616; omega), Int.le_refl _, (by show (0 : Int) < 18446744073709551616; omega)⟩
theorem numT_bit (x bits n : Nat) (h : n < bits) (p : Int) : bitS ((numT x bits).to p) (n : Int) = ((x / 2 ^ (bits - 1 - n) % 2 : Nat) : Int) := by
  rw [bitS_to]
  unfold bitS
  rw [if_neg (by show ¬ (1 : Int) = 2; omega)]
  show (bytesB x bits bits).getD ((n : Int) / 8).toNat 0 / 2 ^ (7 - (n : Int) % 8).toNat % 2 = _
  rw [show ((n : Int) / 8).toNat = n / 8 by omega, show (7 - (n : Int) % 8).toNat = 7 - n % 8 by omega, bytesB_at _ _ _ _ (by omega), byteB_bit]
  unfold bitB
  rw [if_pos h]
theorem numT_num (x bits a : Nat) (p : Int) : ∀ k, a + k ≤ bits → numS ((numT x bits).to p) (a : Int) k = ((x / 2 ^ (bits - a - k) % 2 ^ k : Nat) : Int)
  | 0, _ => by rw [Nat.pow_zero, Nat.mod_one]; rfl
  | k + 1, h => by
    rw [numS_succ, numT_num x bits a p k (by omega), show (a : Int) + (k : Int) = ((a + k : Nat) : Int) by omega, numT_bit x bits (a + k) (by omega)]
    rw [show bits - 1 - (a + k) = bits - a - (k + 1) by omega, show bits - a - k = bits - a - (k + 1) + 1 by omega, Nat.pow_succ 2 (bits - a - (k + 1)), ← Nat.div_div_eq_div_mul]
    generalize x / 2 ^ (bits - a - (k + 1)) = y
    rw [Nat.pow_succ 2 k, Nat.mul_comm (2 ^ k) 2, Nat.mod_mul]
    generalize y / 2 % 2 ^ k = z
    omega
theorem numT_take (x bits a k : Nat) (h : a + k ≤ bits) (hk : k ≤ 64) : takeE ((numT x bits).to (a : Int)) k = 0 ∧ takeV ((numT x bits).to (a : Int)) k = ((x / 2 ^ (bits - a - k) % 2 ^ k : Nat) : Int) := by
  have hr : rightS ((numT x bits).to (a : Int)) = true := by
    unfold rightS
    rw [if_pos (show ((numT x bits).to (a : Int)).kind = 1 from rfl)]
    show (decide ((bits : Int) ≤ 8 * ((bytesB x bits bits).length : Int)) && decide ((a : Int) ≤ (bits : Int))) = true
    rw [bytesB_len, decide_eq_true (by omega), decide_eq_true (by omega)]
    rfl
  have hl : leftS ((numT x bits).to (a : Int)) = (bits : Int) - a := by
    unfold leftS
    rw [if_pos hr, if_pos (show ((numT x bits).to (a : Int)).kind = 1 from rfl)]
    rfl
  have he : takeE ((numT x bits).to (a : Int)) k = 0 := takeE_ok.2 ⟨hr, by omega, by omega, by rw [hl]; omega⟩
  refine ⟨he, ?_⟩
  unfold takeV
  rw [if_pos he, Int.toNat_natCast]
  exact numT_num x bits a _ k h
def DrawsAs (bits : Nat) (h : Option Nat) (r : Int × Src × Int) : Prop := match h with
  | some v => r.1 = (v : Int) ∧ r.2.2 = 0 ∧ r.2.1.at_ ≤ (bits : Int)
  | none => r.2.2 = 9 ∧ r.2.1.at_ = (bits : Int)
theorem numT_draw (x k n m : Nat) (hk : k ≤ 64) : ∀ j, j ≤ m → DrawsAs (k * m) (hits (2 ^ k) n j (x % (2 ^ k) ^ j)) (drawGo k (n : Int) j ((numT x (k * m)).to ((k * (m - j) : Nat) : Int)))
  | 0, _ => by
    rw [drawGo_zero]
    exact ⟨rfl, by show ((k * (m - 0) : Nat) : Int) = _; rw [Nat.sub_zero]⟩
  | j + 1, hj => by
    have hd := numT_draw x k n m hk j (by omega)
    have e1 : k * (m - j) = k * (m - (j + 1)) + k := by rw [show m - j = m - (j + 1) + 1 by omega, Nat.mul_add, Nat.mul_one]
    have e2 : k * m = k * (m - j) + k * j := by rw [← Nat.mul_add]; congr 1; omega
    obtain ⟨h1, h2⟩ := numT_take x (k * m) (k * (m - (j + 1))) k (by omega) hk
    have e3 : k * m - k * (m - (j + 1)) - k = k * j := by omega
    rw [e3, Nat.pow_mul] at h2
    have e4 : x % (2 ^ k) ^ (j + 1) / (2 ^ k) ^ j = x / (2 ^ k) ^ j % 2 ^ k := by rw [Nat.pow_succ, Nat.mod_mul_right_div_self]
    have e5 : x % (2 ^ k) ^ (j + 1) % (2 ^ k) ^ j = x % (2 ^ k) ^ j := by rw [Nat.pow_succ]; exact Nat.mod_mul_right_mod _ _ _
    rw [hits, e4, e5]
    by_cases hx : x / (2 ^ k) ^ j % 2 ^ k < n
    · rw [if_pos hx, drawGo_hit h1 (by rw [h2]; exact_mod_cast hx)]
      exact ⟨h2, rfl, by rw [takeS_to h1]; show ((k * (m - (j + 1)) : Nat) : Int) + (k : Int) ≤ _; omega⟩
    · rw [if_neg hx, drawGo_miss h1 (by rw [h2]; exact_mod_cast hx), takeS_to h1, to_to]
      rw [show ((numT x (k * m)).to ((k * (m - (j + 1)) : Nat) : Int)).at_ + (k : Int) = ((k * (m - j) : Nat) : Int) from (by show ((k * (m - (j + 1)) : Nat) : Int) + (k : Int) = _; omega)]
      exact hd
end
section
def wayD (k st lost : Nat) (g : Nat → Nat) : Nat → Nat → Nat
  | 0, _ => 0
  | a + 1, r => if k ≤ r then st * g (r - k) + lost * wayD k st lost g a (r - k) else 0
def memB (l : List Int) (i : Int) : Prop := 0 ≤ i ∧ i < (l.length : Int) ∧ 0 < l.getD i.toNat 0
instance (l : List Int) (i : Int) : Decidable (memB l i) := inferInstanceAs (Decidable (_ ∧ _ ∧ _))
theorem need_pow {n : Int} (h : 1 ≤ n) (h2 : n < 9223372036854775808) : needN n ≤ 63 ∧ n.toNat ≤ 2 ^ needN n := by
  by_cases h1 : n = 1
  · subst h1; exact ⟨by decide, by decide⟩
  · have e : needN n = (n - 1).toNat.log2 + 1 := by
      unfold needN Wd.bitsL
      rw [if_neg (by omega), if_neg (by omega)]
    obtain ⟨x, hx⟩ : ∃ x, (n - 1).toNat = x := ⟨_, rfl⟩
    rw [hx] at e
    have h3 := Nat.log2_self_le (n := x) (by omega)
    have h4 := Nat.lt_log2_self (n := x)
    rw [e]
    refine ⟨?_, by omega⟩
    rcases Nat.lt_or_ge x.log2 63 with h5 | h5
    · omega
    · have h6 : 9223372036854775808 ≤ 2 ^ x.log2 := Nat.le_trans (by decide) (Nat.pow_le_pow_right (n := 2) (by omega) h5)
      omega
theorem sum_ge {l : List Int} (hz : ∀ z ∈ l, 0 ≤ z) {k : Nat} (hk : k < l.length) : l.getD k 0 ≤ sumL l := by
  have h1 := preL_next hk
  have h2 := preL_nn hz k
  have h3 := preL_le hz (k + 1)
  omega
theorem sum_set {l : List Int} (hz : ∀ z ∈ l, 0 ≤ z) (k : Nat) : sumL (l.set k 0) ≤ sumL l := by
  by_cases hk : k < l.length
  · have h := preL_set (l := l) 0 hk l.length
    have e1 : preL (l.set k 0) l.length = sumL (l.set k 0) := by
      have := preL_all (l.set k 0)
      rwa [List.length_set] at this
    rw [e1, preL_all, if_pos hk] at h
    have := hz _ (getD_in hk)
    omega
  · rw [List.set_eq_of_length_le (by omega)]
    exact Int.le_refl _
end
section
def Lim (l : List Int) : Prop := ∀ z ∈ l, 0 ≤ z ∧ z < 4294967296
def valL : List Int → Nat
  | [] => 0
  | x :: l => x.toNat + 4294967296 * valL l
def trimL : List Int → List Int
  | [] => []
  | x :: l => if trimL l = [] ∧ x = 0 then [] else x :: trimL l
def natL (n : Nat) : List Int := if h : n = 0 then [] else ((n % 4294967296 : Nat) : Int) :: natL (n / 4294967296)
  termination_by n
  decreasing_by exact Nat.div_lt_self (by omega) (by omega)
theorem natL_zero : natL 0 = [] := by rw [natL]; rfl
theorem natL_pos {n : Nat} (h : n ≠ 0) : natL n = ((n % 4294967296 : Nat) : Int) :: natL (n / 4294967296) := by rw [natL, dif_neg h]
theorem Lim.nil : Lim [] := fun z h => by cases h
theorem Lim.cons {x : Int} {l : List Int} (h : 0 ≤ x ∧ x < 4294967296) (hl : Lim l) : Lim (x :: l) := fun z hz => by
  rcases List.mem_cons.1 hz with rfl | hz
  · exact h
  · exact hl z hz
theorem Lim.hd {x : Int} {l : List Int} (h : Lim (x :: l)) : 0 ≤ x ∧ x < 4294967296 := h x (by simp)
theorem Lim.tl {x : Int} {l : List Int} (h : Lim (x :: l)) : Lim l := fun z hz => h z (by simp [hz])
theorem Lim.app {l m : List Int} (hl : Lim l) (hm : Lim m) : Lim (l ++ m) := fun z hz => by
  rcases List.mem_append.1 hz with h | h
  · exact hl z h
  · exact hm z h
theorem Lim.take {l : List Int} (h : Lim l) (k : Nat) : Lim (l.take k) := fun z hz => h z (List.mem_of_mem_take hz)
theorem Lim.drop {l : List Int} (h : Lim l) (k : Nat) : Lim (l.drop k) := fun z hz => h z (List.mem_of_mem_drop hz)
theorem Lim.getD {l : List Int} (h : Lim l) (k : Nat) : 0 ≤ l.getD k 0 ∧ l.getD k 0 < 4294967296 := by
  rw [List.getD_eq_getElem?_getD]
  by_cases hk : k < l.length
  · rw [List.getElem?_eq_getElem hk]; exact h _ (List.getElem_mem hk)
  · rw [List.getElem?_eq_none (by omega)]; exact ⟨Int.le_refl _, by show (0 : Int) < 4294967296; omega⟩
theorem Lim.set {l : List Int} (h : Lim l) (k : Nat) {x : Int} (hx : 0 ≤ x ∧ x < 4294967296) : Lim (l.set k x) := fun z hz => by
  rcases List.mem_or_eq_of_mem_set hz with h1 | rfl
  · exact h z h1
  · exact hx
theorem Lim.rep (n : Nat) : Lim (List.replicate n 0) := fun z hz => by rw [List.eq_of_mem_replicate hz]; omega
theorem natL_lim (n : Nat) : Lim (natL n) := by
  induction n using Nat.strongRecOn with
  | ind n ih =>
    by_cases h : n = 0
    · subst h; rw [natL_zero]; exact Lim.nil
    · rw [natL_pos h]
      exact Lim.cons (by omega) (ih _ (Nat.div_lt_self (by omega) (by omega)))
theorem natL_val (n : Nat) : valL (natL n) = n := by
  induction n using Nat.strongRecOn with
  | ind n ih =>
    by_cases h : n = 0
    · subst h; rw [natL_zero]; rfl
    · rw [natL_pos h, valL, ih _ (Nat.div_lt_self (by omega) (by omega)), Int.toNat_natCast]
      omega
theorem natL_ne {n : Nat} (h : n ≠ 0) : natL n ≠ [] := by rw [natL_pos h]; simp
theorem natL_nil {n : Nat} (h : natL n = []) : n = 0 := Decidable.byContradiction fun hn => natL_ne hn h
theorem trimL_natL (n : Nat) : trimL (natL n) = natL n := by
  induction n using Nat.strongRecOn with
  | ind n ih =>
    by_cases h : n = 0
    · subst h; rw [natL_zero]; rfl
    · rw [natL_pos h, trimL, ih _ (Nat.div_lt_self (by omega) (by omega)), if_neg]
      rintro ⟨h1, h2⟩
      have := natL_nil h1
      omega
theorem trimL_eq {l : List Int} (h : Lim l) : trimL l = natL (valL l) := by
  induction l with
  | nil => rw [valL, natL_zero]; rfl
  | cons x l ih =>
    have hx := h.hd
    rw [trimL, ih h.tl]
    by_cases hz : valL (x :: l) = 0
    · have h1 : valL l = 0 := by rw [valL] at hz; omega
      have h2 : x = 0 := by rw [valL] at hz; omega
      rw [hz, h1, natL_zero, if_pos ⟨rfl, h2⟩]
    · rw [natL_pos hz]
      have e1 : valL (x :: l) % 4294967296 = x.toNat := by rw [valL]; omega
      have e2 : valL (x :: l) / 4294967296 = valL l := by rw [valL]; omega
      rw [e1, e2, Int.toNat_of_nonneg hx.1, if_neg]
      rintro ⟨h1, h2⟩
      have h3 := natL_nil h1
      apply hz
      rw [valL, h3, h2]
      rfl
theorem valL_app (l m : List Int) : valL (l ++ m) = valL l + 4294967296 ^ l.length * valL m := by
  induction l with
  | nil => simp [valL]
  | cons x l ih =>
    rw [List.cons_append, valL, valL, ih, List.length_cons, Nat.pow_succ, Nat.mul_add, Nat.mul_comm (4294967296 ^ l.length) 4294967296, Nat.mul_assoc]
    omega
theorem valL_lt {l : List Int} (h : Lim l) : valL l < 4294967296 ^ l.length := by
  induction l with
  | nil => exact Nat.one_pos
  | cons x l ih =>
    have h1 := ih h.tl
    have h2 := h.hd
    rw [valL, List.length_cons, Nat.pow_succ, Nat.mul_comm]
    generalize 4294967296 ^ l.length = p at *
    omega
theorem valL_rep (n : Nat) : valL (List.replicate n 0) = 0 := by
  induction n with
  | zero => rfl
  | succ n ih => rw [List.replicate_succ, valL, ih]; rfl
theorem valL_take_drop (l : List Int) (k : Nat) (hk : k ≤ l.length) : valL l = valL (l.take k) + 4294967296 ^ k * valL (l.drop k) := by
  conv => lhs; rw [← List.take_append_drop k l, valL_app]
  rw [List.length_take, Nat.min_eq_left hk]
theorem valL_drop_getD (l : List Int) (k : Nat) : valL (l.drop k) = (l.getD k 0).toNat + 4294967296 * valL (l.drop (k + 1)) := by
  by_cases hk : k < l.length
  · rw [List.drop_eq_getElem_cons hk, valL, List.getD_eq_getElem?_getD, List.getElem?_eq_getElem hk]
    rfl
  · rw [List.drop_eq_nil_of_le (by omega), List.drop_eq_nil_of_le (by omega), List.getD_eq_getElem?_getD, List.getElem?_eq_none (by omega)]
    rfl
theorem valL_take_succ (l : List Int) (k : Nat) (hk : k < l.length) : valL (l.take (k + 1)) = valL (l.take k) + 4294967296 ^ k * (l.getD k 0).toNat := by
  rw [List.take_add_one, valL_app, List.getElem?_eq_getElem hk, List.length_take, Nat.min_eq_left (by omega), List.getD_eq_getElem?_getD, List.getElem?_eq_getElem hk]
  show _ + _ * ((l[k]).toNat + 4294967296 * 0) = _ + _ * (l[k]).toNat
  rw [Nat.mul_zero, Nat.add_zero]
theorem valL_set (l : List Int) (k : Nat) (x : Int) (hk : k < l.length) : valL (l.set k x) + 4294967296 ^ k * (l.getD k 0).toNat = valL l + 4294967296 ^ k * x.toNat := by
  induction l generalizing k with
  | nil => cases hk
  | cons y l ih =>
    cases k with
    | zero =>
      show x.toNat + 4294967296 * valL l + 1 * y.toNat = y.toNat + 4294967296 * valL l + 1 * x.toNat
      omega
    | succ k =>
      have h := ih k (by simpa using hk)
      show y.toNat + 4294967296 * valL (l.set k x) + 4294967296 ^ (k + 1) * (l.getD k 0).toNat = y.toNat + 4294967296 * valL l + 4294967296 ^ (k + 1) * x.toNat
      rw [Nat.pow_succ, Nat.mul_comm (4294967296 ^ k) 4294967296, Nat.mul_assoc, Nat.mul_assoc]
      generalize 4294967296 ^ k * (l.getD k 0).toNat = p at *
      generalize 4294967296 ^ k * x.toNat = q at *
      omega
def lastOk (l : List Int) : Bool := match l.getLast? with
  | none => true
  | some x => x != 0
def rightN (l : List Int) : Bool := decide (l.length ≤ 256) && lastOk l
theorem lastOk_can {l : List Int} : lastOk l = true ↔ trimL l = l := by
  induction l with
  | nil => exact ⟨fun _ => rfl, fun _ => rfl⟩
  | cons x l ih =>
    cases l with
    | nil =>
      show (x != 0) = true ↔ (if ([] : List Int) = [] ∧ x = 0 then [] else [x]) = [x]
      by_cases hx : x = 0
      · simp [hx]
      · simp [hx]
    | cons y l =>
      have e : lastOk (x :: y :: l) = lastOk (y :: l) := by simp [lastOk, List.getLast?_cons_cons]
      rw [e, ih, show trimL (x :: y :: l) = (if trimL (y :: l) = [] ∧ x = 0 then [] else x :: trimL (y :: l)) from rfl]
      constructor
      · intro h; rw [h, if_neg (by rintro ⟨h1, _⟩; cases h1)]
      · intro h
        split at h
        · cases h
        · injection h
theorem can_eq {l : List Int} (h : Lim l) (hc : lastOk l = true) : l = natL (valL l) := by rw [← trimL_eq h, lastOk_can.1 hc]
theorem natL_ok (n : Nat) : lastOk (natL n) = true := lastOk_can.2 (trimL_natL n)
theorem natL_len (n k : Nat) : (natL n).length ≤ k ↔ n < 4294967296 ^ k := by
  induction k generalizing n with
  | zero =>
    rw [Nat.pow_zero]
    by_cases h : n = 0
    · subst h; rw [natL_zero]; simp
    · have := natL_ne h
      have h2 : (natL n).length ≠ 0 := fun h3 => this (List.eq_nil_of_length_eq_zero h3)
      constructor
      · omega
      · omega
  | succ k ih =>
    by_cases h : n = 0
    · subst h
      rw [natL_zero]
      exact ⟨fun _ => Nat.pow_pos (by omega), fun _ => by simp⟩
    · rw [natL_pos h, List.length_cons, Nat.pow_succ, Nat.succ_le_succ_iff, ih, Nat.div_lt_iff_lt_mul (by omega)]
theorem trimL_len (l : List Int) : (trimL l).length ≤ l.length := by
  induction l with
  | nil => exact Nat.le_refl _
  | cons x l ih =>
    rw [trimL]
    split
    · simp
    · simp [ih]
theorem trimL_take (l : List Int) : trimL l = l.take (trimL l).length := by
  induction l with
  | nil => rfl
  | cons x l ih =>
    rw [trimL]
    split
    · rfl
    · rw [List.length_cons, List.take_succ_cons, ← ih]
theorem trimL_snoc_zero (l : List Int) : trimL (l ++ [0]) = trimL l := by
  induction l with
  | nil => rfl
  | cons x l ih => rw [List.cons_append, trimL, ih, trimL]
end
section
open Go.ChangeShapes Go.WideShapes Go.ChangeAt Go.RowKit
theorem info_u32d : (Tryz.prog.info? 89).map (fun i => (i.zero, i.size, i.bytes)) = some (some (.int .u32 0), 1, 4) := by kernel_rfl
def RetN (w : World) (zs : List Int) (e : Ending) (w' : World) : Prop := ∃ A c, e = .returned (.slice A zs.length c) ∧ zs.length ≤ c ∧ c ≤ maxLen ∧ Rd .u32 w' w'.heap.size A zs.length zs ∧ Below w.heap.size w w'
theorem ret_boolN {p q : Bool} (h : p = q) : Ending.returned (.bool p) = .returned (.bool q) := by rw [h]
theorem ret_slice {A : Option Addr} {n m c : Nat} (h : n = m) : Ending.returned (.slice A n c) = .returned (.slice A m c) := by rw [h]
theorem ret_sliceE {A : Option Addr} {n m c : Nat} {e : Int} (h : n = m) : Ending.returned (.tuple #[.slice A n c, .int .i64 e]) = .returned (.tuple #[.slice A m c, .int .i64 e]) := by rw [h]
theorem rd_two32 (w : World) (e : TypeId) (x y : Int) : Rd .u32 (w.alloc (.cells #[.int .u32 x, .int .u32 y] e)) (w.alloc (.cells #[.int .u32 x, .int .u32 y] e)).heap.size (some ⟨w.heap.size, 0, none⟩) 2 [x, y] := by
  refine ⟨rfl, fun _ => ⟨w.heap.size, 0, rfl, (Blk.new w e #[.int .u32 x, .int .u32 y]).lt, fun j hj => ?_⟩⟩
  have : j = 0 ∨ j = 1 := by omega
  rcases this with rfl | rfl
  · rw [(Blk.new w e #[.int .u32 x, .int .u32 y]).cell]; rfl
  · rw [(Blk.new w e #[.int .u32 x, .int .u32 y]).cell]; rfl
theorem rd_trim {w : World} {B n : Nat} {A : Option Addr} {zs : List Int} (h : Rd .u32 w B A n zs) : Rd .u32 w B A (trimL zs).length (trimL zs) := by
  have h1 := h.upto (j := (trimL zs).length) (by rw [← h.len]; exact trimL_len zs)
  rwa [← trimL_take] at h1
theorem rightN_big {l : List Int} (h : 256 < l.length) : rightN l = false := by unfold rightN; rw [decide_eq_false (by omega)]; rfl
theorem lastOk_at {l : List Int} {m : Nat} (h : l.length = m + 1) : lastOk l = (l.getD m 0 != 0) := by
  have e : l.getLast? = some (l.getD m 0) := by
    rw [List.getLast?_eq_getElem?, h, Nat.add_sub_cancel, List.getD_eq_getElem?_getD, List.getElem?_eq_getElem (by omega)]
    rfl
  unfold lastOk
  rw [e]
theorem rightN_at {l : List Int} {m : Nat} (h : l.length = m + 1) (hm : m + 1 ≤ 256) : rightN l = (l.getD m 0 != 0) := by
  unfold rightN
  rw [decide_eq_true (by omega), Bool.true_and, lastOk_at h]
theorem trimL_zero {l : List Int} {k : Nat} (h : k < l.length) (hz : l.getD k 0 = 0) : trimL (l.take k) = trimL (l.take (k + 1)) := by
  rw [List.take_add_one, List.getElem?_eq_getElem h]
  rw [List.getD_eq_getElem?_getD, List.getElem?_eq_getElem h] at hz
  have hz2 : l[k] = 0 := hz
  show _ = trimL (l.take k ++ [l[k]])
  rw [hz2, trimL_snoc_zero]
theorem trimL_stop {l : List Int} {k : Nat} (h : k < l.length) (hz : l.getD k 0 ≠ 0) : (trimL (l.take (k + 1))).length = k + 1 := by
  have hl : (l.take (k + 1)).length = k + 1 := by rw [List.length_take]; omega
  have e : (l.take (k + 1)).getD k 0 = l.getD k 0 := by
    rw [List.getD_eq_getElem?_getD, List.getD_eq_getElem?_getD, List.getElem?_take, if_pos (by omega)]
  have h1 : lastOk (l.take (k + 1)) = true := by
    rw [lastOk_at hl, e]
    simpa [bne] using hz
  rw [lastOk_can.1 h1, hl]
theorem mul_step (P p q r o x y Y Vo Vn T : Nat) (h : p + 4294967296 * q = o + x * y + r) (hs : Vn + P * o = Vo + P * p) (hv : Vo + P * (r + x * (y + 4294967296 * Y)) = T) : Vn + P * 4294967296 * (q + x * Y) = T := by
  have h1 : P * (p + 4294967296 * q) = P * (o + x * y + r) := by rw [h]
  have h2 : P * (r + x * (y + 4294967296 * Y)) = P * r + P * (x * y) + P * (4294967296 * (x * Y)) := by
    rw [← Nat.mul_add, ← Nat.mul_add]
    congr 1
    rw [Nat.mul_add, Nat.mul_left_comm x 4294967296 Y]
    omega
  have h3 : P * 4294967296 * (q + x * Y) = P * (4294967296 * q) + P * (4294967296 * (x * Y)) := by rw [Nat.mul_assoc, ← Nat.mul_add, Nat.mul_add]
  rw [Nat.mul_add, Nat.mul_add, Nat.mul_add] at h1
  rw [h2] at hv
  rw [h3]
  generalize P * (4294967296 * (x * Y)) = a1 at *
  generalize P * (4294967296 * q) = a2 at *
  generalize P * (x * y) = a3 at *
  generalize P * p = a4 at *
  generalize P * o = a5 at *
  generalize P * r = a6 at *
  omega
theorem limb_zero {l : List Int} (h : Lim l) {j : Nat} (hv : valL l < 4294967296 ^ j) : l.getD j 0 = 0 := by
  by_cases hj : j < l.length
  · have h1 := valL_take_drop l j (by omega)
    rw [valL_drop_getD l j] at h1
    have h2 := h.getD j
    have h3 : (l.getD j 0).toNat = 0 := by
      rcases Nat.eq_zero_or_pos (l.getD j 0).toNat with h4 | h4
      · exact h4
      · have h5 := Nat.le_mul_of_pos_right (4294967296 ^ j) (show 0 < (l.getD j 0).toNat + 4294967296 * valL (l.drop (j + 1)) by omega)
        omega
    omega
  · rw [List.getD_eq_getElem?_getD, List.getElem?_eq_none (by omega)]; rfl
theorem mul_bound {x y : Nat} (hx : x < 4294967296) (hy : y < 4294967296) : x * y ≤ 18446744065119617025 := Nat.mul_le_mul (show x ≤ 4294967295 by omega) (show y ≤ 4294967295 by omega)
theorem intsA_set32 (zs : List Int) (j : Nat) (z : Int) : (intsA .u32 zs).setIfInBounds j (.int .u32 z) = intsA .u32 (zs.set j z) := by simp [intsA, List.map_set]
theorem size_u32s : (Tryz.prog.info? 89).map (·.size) = some 1 := by kernel_rfl
def NatS (w : World) (g : Nat) (out : List Int) (w' : World) : Prop := Blk w' g 89 (intsA .u32 out) ∧ w.heap.size ≤ g ∧ Below w.heap.size w w'
theorem NatS.blk {w w' : World} {g : Nat} {out : List Int} (h : NatS w g out w') : Blk w' g 89 (intsA .u32 out) := h.1
theorem NatS.bel {w w' : World} {g : Nat} {out : List Int} (h : NatS w g out w') : Below w.heap.size w w' := h.2.2
theorem NatS.drew {w w' : World} {g : Nat} {out : List Int} (h : NatS w g out w') : NatS w g out w'.drew := ⟨h.1, h.2.1, h.2.2.trans ((Below.refl _ _).drew)⟩
theorem NatS.drewN {w w' : World} {g : Nat} {out : List Int} (h : NatS w g out w') (n : Nat) : NatS w g out (w'.drewN n) := ⟨h.1, h.2.1, below_drewN h.2.2 n⟩
theorem NatS.below {w w' w'' : World} {g : Nat} {out : List Int} (h : NatS w g out w') (hb : Below w'.heap.size w' w'') : NatS w g out w'' := ⟨h.1.below hb h.1.lt, h.2.1, h.2.2.trans (hb.mono h.2.2.size)⟩
theorem NatS.set {w w' w'' : World} {g j : Nat} {out : List Int} {z : Int} (h : NatS w g out w') (hk : Blk w'' g 89 ((intsA .u32 out).setIfInBounds j (.int .u32 z))) (ho : Only g w' w'') : NatS w g (out.set j z) w'' := ⟨by rw [← intsA_set32]; exact hk, h.2.1, h.2.2.trans (ho.below h.2.1 h.2.2.size)⟩
theorem NatS.rd {w w' : World} {g : Nat} {out : List Int} (h : NatS w g out w') : Rd .u32 w' w'.heap.size (some ⟨g, 0, none⟩) out.length out := ⟨rfl, fun _ => ⟨g, 0, rfl, h.1.lt, fun j hj => by rw [h.1.cell, Nat.zero_add, intsA_at _ _ _ hj]⟩⟩
theorem NatS.at_ {w w' : World} {g : Nat} {out : List Int} (h : NatS w g out w') {j : Nat} (hj : j < out.length) : w'.cell? ⟨g, j, none⟩ = some (.int .u32 (out.getD j 0)) := by rw [h.1.cell, intsA_at _ _ _ hj]
theorem nat_lt {out : List Int} {j : Nat} (hj : j < out.length) : j < (intsA .u32 out).size := by rw [intsA_size]; exact hj
end
section
open Go.ChangeShapes Go.WideShapes Go.ChangeAt Go.RowKit
structure NRow where
  A : Option Addr
  n : Nat
  c : Nat
  zs : List Int
def NRow.val (r : NRow) : Value := .slice r.A r.n r.c
def RdNs (w : World) (B : Nat) (A : Option Addr) (n : Nat) (rs : List NRow) : Prop :=
  rs.length = n ∧ (0 < n → ∃ b off, A = some ⟨b, off, none⟩ ∧ b < B ∧ ∀ (j : Nat) (r : NRow), rs[j]? = some r → w.cell? ⟨b, off + j, none⟩ = some r.val) ∧ ∀ r ∈ rs, Rd .u32 w B r.A r.n r.zs ∧ r.n ≤ r.c ∧ r.c ≤ maxLen ∧ Lim r.zs
theorem RdNs.below {w w' : World} {B n : Nat} {A : Option Addr} {rs : List NRow} (h : RdNs w B A n rs) (hb : Below B w w') : RdNs w' B A n rs :=
  ⟨h.1, fun hn => by
    obtain ⟨b, off, e, hlt, hc⟩ := h.2.1 hn
    exact ⟨b, off, e, hlt, fun j r hj => (hb.cell (p := ⟨b, off + j, none⟩) hlt).trans (hc j r hj)⟩, fun r hr => ⟨(h.2.2 r hr).1.below hb, (h.2.2 r hr).2⟩⟩
theorem RdNs.mono {w : World} {B B' n : Nat} {A : Option Addr} {rs : List NRow} (h : RdNs w B A n rs) (hB : B ≤ B') : RdNs w B' A n rs :=
  ⟨h.1, fun hn => by
    obtain ⟨b, off, e, hlt, hc⟩ := h.2.1 hn
    exact ⟨b, off, e, by omega, hc⟩, fun r hr => ⟨(h.2.2 r hr).1.mono hB, (h.2.2 r hr).2⟩⟩
theorem RdNs.to {w w' : World} {n : Nat} {A : Option Addr} {rs : List NRow} (h : RdNs w w.heap.size A n rs) (hb : Below w.heap.size w w') : RdNs w' w'.heap.size A n rs := (h.below hb).mono hb.size
theorem RdNs.row {w : World} {B n : Nat} {A : Option Addr} {rs : List NRow} (h : RdNs w B A n rs) {j : Nat} (hj : j < n) : ∃ r b off, rs[j]? = some r ∧ A = some ⟨b, off, none⟩ ∧ w.cell? ⟨b, off + j, none⟩ = some (.slice r.A r.n r.c) ∧ Rd .u32 w B r.A r.n r.zs ∧ r.n ≤ r.c ∧ r.c ≤ maxLen ∧ Lim r.zs ∧ rs.drop j = r :: rs.drop (j + 1) := by
  have hl : j < rs.length := by rw [h.1]; exact hj
  obtain ⟨b, off, e, _, hc⟩ := h.2.1 (by omega)
  have hr := h.2.2 _ (List.getElem_mem hl)
  exact ⟨rs[j], b, off, List.getElem?_eq_getElem hl, e, hc j _ (List.getElem?_eq_getElem hl), hr.1, hr.2.1, hr.2.2.1, hr.2.2.2, List.drop_eq_getElem_cons hl⟩
def allN (rs : List NRow) : Bool := rs.all fun r => rightN r.zs
def addGo : Nat → List NRow → Int × List Int
  | s, [] => (0, natL s)
  | s, r :: l => if 256 < (natL (s + valL r.zs)).length then (11, []) else addGo (s + valL r.zs) l
def mulGo : Nat → List NRow → Int × List Int
  | s, [] => (0, natL s)
  | s, r :: l => if 256 < (natL (s * valL r.zs)).length then (11, []) else mulGo (s * valL r.zs) l
def addR (rs : List NRow) : Int × List Int := if allN rs = true then addGo 0 rs else (1, [])
def mulR (rs : List NRow) : Int × List Int := if allN rs = true then mulGo 1 rs else (1, [])
theorem allN_zs {rs rs' : List NRow} (h : rs.map (·.zs) = rs'.map (·.zs)) : allN rs = allN rs' := by
  unfold allN
  have e : ∀ l : List NRow, (l.all fun r => rightN r.zs) = (l.map (·.zs)).all rightN := fun l => by rw [List.all_map]; rfl
  rw [e, e, h]
theorem mulGo_zs {rs rs' : List NRow} (h : rs.map (·.zs) = rs'.map (·.zs)) (s : Nat) : mulGo s rs = mulGo s rs' := by
  induction rs generalizing rs' s with
  | nil => cases rs' with
    | nil => rfl
    | cons r l => cases h
  | cons r l ih => cases rs' with
    | nil => cases h
    | cons r' l' =>
      rw [List.map_cons, List.map_cons] at h
      injection h with h1 h2
      rw [mulGo, mulGo, h1, ih h2]
theorem mulR_zs {rs rs' : List NRow} (h : rs.map (·.zs) = rs'.map (·.zs)) : mulR rs = mulR rs' := by unfold mulR; rw [allN_zs h, mulGo_zs h]
theorem rightN_len {l : List Int} (h : rightN l = true) : l.length ≤ 256 := by
  unfold rightN at h
  rw [Bool.and_eq_true] at h
  exact of_decide_eq_true h.1
theorem rightN_can {l : List Int} (hl : Lim l) (h : rightN l = true) : l = natL (valL l) := by
  unfold rightN at h
  rw [Bool.and_eq_true] at h
  exact can_eq hl h.2
theorem rightN_natL {n : Nat} (h : (natL n).length ≤ 256) : rightN (natL n) = true := by unfold rightN; rw [decide_eq_true h, natL_ok]; rfl
def RetNE (w : World) (r : Int × List Int) (e : Ending) (w' : World) : Prop := ∃ A c, e = .returned (.tuple #[.slice A r.2.length c, .int .i64 r.1]) ∧ r.2.length ≤ c ∧ c ≤ maxLen ∧ Rd .u32 w' w'.heap.size A r.2.length r.2 ∧ Below w.heap.size w w'
theorem RetNE.nil {w w' : World} (e : Int) (hb : Below w.heap.size w w') : RetNE w (e, []) (.returned (.tuple #[.slice none 0 0, .int .i64 e])) w' := ⟨none, 0, rfl, Nat.le_refl _, by simp [maxLen], Rd.none_, hb⟩
def twoR (k : Int) : Int × List Int := if 0 ≤ k ∧ k ≤ 8191 then (0, natL (2 ^ k.toNat)) else (1, [])
theorem two_limbs (k : Nat) : List.replicate (k / 32) 0 ++ [((2 ^ (k % 32) : Nat) : Int)] = natL (2 ^ k) := by
  have hp : 2 ^ (k % 32) ≤ 2 ^ 31 := Nat.pow_le_pow_right (by omega) (by omega)
  have hp0 : 0 < 2 ^ (k % 32) := Nat.pow_pos (by omega)
  have hl : Lim (List.replicate (k / 32) 0 ++ [((2 ^ (k % 32) : Nat) : Int)]) := (Lim.rep _).app (Lim.cons ⟨by omega, by omega⟩ Lim.nil)
  have hv : valL (List.replicate (k / 32) 0 ++ [((2 ^ (k % 32) : Nat) : Int)]) = 2 ^ k := by
    rw [valL_app, valL_rep, List.length_replicate, Nat.zero_add, show (4294967296 : Nat) = 2 ^ 32 from rfl, ← Nat.pow_mul]
    show 2 ^ (32 * (k / 32)) * (((2 ^ (k % 32) : Nat) : Int).toNat + 4294967296 * 0) = 2 ^ k
    rw [Nat.mul_zero, Nat.add_zero, Int.toNat_natCast, ← Nat.pow_add]
    congr 1
    omega
  have ho : lastOk (List.replicate (k / 32) 0 ++ [((2 ^ (k % 32) : Nat) : Int)]) = true := by
    unfold lastOk
    rw [List.getLast?_append]
    show (((2 ^ (k % 32) : Nat) : Int) != 0) = true
    rw [bne_iff_ne]
    omega
  rw [can_eq hl ho, hv]
def rowOf (zs : List Int) : NRow := ⟨none, 0, 0, zs⟩
def powR (zs : List Int) (k : Int) : Int × List Int := if rightN zs = true ∧ 0 ≤ k ∧ k ≤ 64 then mulR (List.replicate k.toNat (rowOf zs)) else (1, [])
theorem rep_set (q : Nat) (x : Int) : (List.replicate (q + 1) 0).set q x = List.replicate q 0 ++ [x] := by
  rw [List.replicate_succ', List.set_append_right _ _ (by simp)]
  simp
theorem allN_step {rs : List NRow} {r : NRow} {k : Nat} (h : rs.drop k = r :: rs.drop (k + 1)) : allN (rs.drop k) = (rightN r.zs && allN (rs.drop (k + 1))) := by rw [h]; rfl
theorem allN_mem {rs : List NRow} (h : allN rs = true) {r : NRow} (hr : r ∈ rs) : rightN r.zs = true := List.all_eq_true.1 h r hr
theorem mulGo_step {rs : List NRow} {r : NRow} {k s : Nat} (h : rs.drop k = r :: rs.drop (k + 1)) : mulGo s (rs.drop k) = if 256 < (natL (s * valL r.zs)).length then (11, []) else mulGo (s * valL r.zs) (rs.drop (k + 1)) := by rw [h]; rfl
theorem drop_end {rs : List NRow} {n : Nat} (h : rs.length = n) : rs.drop n = [] := List.drop_eq_nil_of_le (by omega)
theorem natL_one : natL 1 = [1] := by rw [natL_pos (by omega)]; show [((1 % 4294967296 : Nat) : Int)] ++ natL (1 / 4294967296) = [1]; rw [show 1 / 4294967296 = 0 from rfl, natL_zero]; rfl
theorem info_nat : (Tryz.prog.info? 45).map (fun i => (i.zero, i.size, i.bytes)) = some (some (.slice none 0 0), 1, 24) := by kernel_rfl
theorem pow_two_le {i : Nat} (h : i ≤ 31) : 2 ^ i ≤ 2147483648 := Nat.pow_le_pow_right (n := 2) (by omega) h
theorem powR_zs {zs : List Int} {k : Nat} {rs : List NRow} (hr : rightN zs = true) (hk : k ≤ 64) (h : rs.map (·.zs) = List.replicate k zs) : mulR rs = powR zs (k : Int) := by
  unfold powR
  rw [if_pos ⟨hr, by omega, by omega⟩, Int.toNat_natCast]
  exact mulR_zs (by rw [h, List.map_replicate]; rfl)
theorem ext_getDN {l m : List Int} (h : l.length = m.length) (h2 : ∀ j, j < l.length → l.getD j 0 = m.getD j 0) : l = m := by
  apply List.ext_getElem h
  intro j h3 h4
  have h5 := h2 j h3
  simpa [List.getD_eq_getElem?_getD, List.getElem?_eq_getElem h3, List.getElem?_eq_getElem h4] using h5
end
section
open Go.ChangeShapes Go.WideShapes Go.ChangeAt Go.RowKit
def Frs (w : World) (A : Option Addr) : Prop := ∀ b off, A = some ⟨b, off, none⟩ → w.heap.size ≤ b
theorem Frs.none (w : World) : Frs w none := fun b off h => by cases h
theorem Frs.of_own {w w' : World} {e : TypeId} {k : IntKind} {A : Option Addr} {n c : Nat} {zs : List Int} (h : OwnI w' w.heap.size e k (.slice A n c) zs) : Frs w A := fun b off hA => by subst hA; exact h.block_ge b rfl
theorem Frs.apt {w : World} {A : Option Addr} {n g : Nat} (h : Frs w A) (hg : g < w.heap.size) : Apt n A g := fun b off _ hA => by have := h b off hA; omega
theorem Frs.from {w w' : World} {A : Option Addr} (h : Frs w' A) (hs : w.heap.size ≤ w'.heap.size) : Frs w A := fun b off hA => Nat.le_trans hs (h b off hA)
def RetComm (w : World) (s : Src) (A : Option Addr) (r : List Int × Src × Int) (e : Ending) (w' : World) : Prop :=
  ∃ A' c' AM cM, e = .returned (.tuple #[.slice AM r.1.length cM, .agg (srcV r.2.1 A' c'), .int .i64 r.2.2]) ∧ Rd .i64 w' w'.heap.size AM r.1.length r.1 ∧ r.1.length ≤ cM ∧ cM ≤ maxLen ∧ Frs w AM ∧ Rd .u8 w' w'.heap.size A' s.tape.length s.tape ∧ s.tape.length ≤ c' ∧ c' ≤ maxLen ∧ Sep w A A' ∧ Below w.heap.size w w'
end
section
open Go.ChangeShapes Go.WideShapes Go.ChangeAt Go.RowKit
theorem Fx.lit2i {l : List Fact} {w : World} (h : Fx l w) (x y : Int) : Fx (.rdb .i64 (w.alloc (.cells #[.int .i64 x, .int .i64 y] 3)).heap.size (some ⟨w.heap.size, 0, none⟩) 2 [x, y] :: l) (w.alloc (.cells #[.int .i64 x, .int .i64 y] 3)) :=
  Fx.addR h ((Below.refl _ _).alloc (Nat.le_refl _) _) (rd_alloc w _ .i64 [x, y])
theorem Fx.lit1n {l : List Fact} {w : World} (h : Fx l w) (x : Int) : Fx (.rdb .u32 (w.alloc (.cells #[.int .u32 x] 89)).heap.size (some ⟨w.heap.size, 0, none⟩) 1 [x] :: l) (w.alloc (.cells #[.int .u32 x] 89)) :=
  Fx.addR h ((Below.refl _ _).alloc (Nat.le_refl _) _) (rd_alloc w _ .u32 [x])
end
section
open Go.ChangeShapes Go.WideShapes Go.ChangeAt Go.RowKit
theorem info_intd : (Tryz.prog.info? 3).map (fun i => (i.zero, i.size, i.bytes)) = some (some (.int .i64 0), 1, 8) := by kernel_rfl
theorem OwnI.lt {w : World} {b : Nat} {e : TypeId} {k : IntKind} {v : Value} {zs : List Int} (h : OwnI w b e k v zs) : ∀ g, v.ownBlock = some g → g < w.heap.size := by
  intro g hg
  rcases h.2 with ⟨rfl, _⟩ | ⟨g', cap, cur, rfl, _, hh, _⟩
  · cases hg
  · injection hg with hg
    subst hg
    rcases Nat.lt_or_ge g' w.heap.size with h' | h'
    · exact h'
    · rw [Array.getElem?_eq_none h'] at hh; cases hh
theorem OwnI.grownO {w w' : World} {b b' : Nat} {e e' : TypeId} {k k' : IntKind} {v v' : Value} {zs zs' : List Int} (h : OwnI w b e k v zs) (ho : OwnI w b' e' k' v' zs') (hne : e' ≠ e) (hg : w.grownBy w' v'.ownBlock) : OwnI w' b e k v zs := by
  refine ⟨h.1, ?_⟩
  rcases h.2 with h1 | ⟨g, cap, cur, h1, h2, h3, h4⟩
  · exact .inl h1
  · refine .inr ⟨g, cap, cur, h1, h2, ?_, h4⟩
    exact Blk.grown (w := w) (w' := w') (g := g) (t := e) (cs := cur) h3 ho hne hg
structure ComS (w0 : World) (g3 g7 : Nat) (V Z : Array Value) (A : Option Addr) (L : Nat) (zs : List Int) (gr n cr : Nat) (l : List Int) (ov : Value) (os : List Int) (w : World) : Prop where
  src : DrS w0 g3 g7 V A L zs w
  res : Blk w g7 40 Z
  rest : OwnI w w0.heap.size 24 .u64 (.slice (some ⟨gr, 0, none⟩) n cr) l
  out : OwnI w w0.heap.size 3 .i64 ov os
  len : l.length = n
  ler : w0.heap.size ≤ gr
  apr : Apt L A gr
  apo : ∀ g, ov.ownBlock = some g → Apt L A g
structure NxtS (w0 : World) (g3 g7 g14 gr : Nat) (V2 : Array Value) (A2 : Option Addr) (L : Nat) (zs : List Int) (ov : Value) (w : World) : Prop where
  hand : DrH w0 g7 g14 V2 A2 L zs w
  ap3 : Apt L A2 g3
  apr : Apt L A2 gr
  apo : ∀ g, ov.ownBlock = some g → Apt L A2 g
section
variable {w0 w w' w5 w6 w7 w8 : World} {g3 g7 g14 gr n cr L k : Nat} {V V2 Z : Array Value} {A A2 : Option Addr} {zs l os : List Int} {ov ov' : Value} {z : Int} {cur : Array Value}
theorem ComS.below (h : ComS w0 g3 g7 V Z A L zs gr n cr l ov os w) (hb : Below w.heap.size w w') : ComS w0 g3 g7 V Z A L zs gr n cr l ov os w' :=
  ⟨h.src.below hb, h.res.below hb h.res.lt, h.rest.below hb, h.out.below hb, h.len, h.ler, h.apr, h.apo⟩
theorem ComS.drew (h : ComS w0 g3 g7 V Z A L zs gr n cr l ov os w) : ComS w0 g3 g7 V Z A L zs gr n cr l ov os w.drew := h.below (Below.refl _ _).drew
theorem ComS.rd (h : ComS w0 g3 g7 V Z A L zs gr n cr l ov os w) : Rd .u64 w w.heap.size (some ⟨gr, 0, none⟩) n l := OwnI.rd h.rest h.len
theorem ComS.fx (h : ComS w0 g3 g7 V Z A L zs gr n cr l ov os w) : Fx [.blk g7 40 Z] w := ⟨h.res, trivial⟩
theorem ComS.row (h : ComS w0 g3 g7 V Z A L zs gr n cr l ov os w) (hn : 0 < n) : ∃ cur, Hid (Blk w gr 24 cur) ∧ Hid (∀ j, j < n → j < cur.size) := by
  obtain ⟨g, cur, e, -, hk, hs, -⟩ := h.rest.whole (by rw [h.len]; exact hn)
  injection e with e
  injection e with e1 e2
  subst e1
  exact ⟨cur, Lib.hid hk, Lib.hid (fun j hj => by rw [h.len] at hs; omega)⟩
theorem ComS.took (h : ComS w0 g3 g7 V Z A L zs gr n cr l ov os w) (hgr : gr < w.heap.size) (hr : Rd .u8 w5 w5.heap.size A2 L zs) (hsp : Sep w A A2) (hb5 : Below w.heap.size w w5) (hb6 : Below w5.heap.size w5 w6) (hk6 : Blk w6 w5.heap.size 40 Z) (hk7 : Blk w7 w5.heap.size 40 V2) (hs7 : w7.heap.size = w6.heap.size) (hb7 : ∀ B, B ≤ w5.heap.size → Below B w6 w7) (ho7 : ∀ j, j ≠ w5.heap.size → w7.heap[j]? = w6.heap[j]?) :
    ComS w0 g3 g7 V Z A L zs gr n cr l ov os w7 ∧ NxtS w0 g3 g7 w5.heap.size gr V2 A2 L zs ov w7 := by
  obtain ⟨t1, t2, t3, t4, t5, t6⟩ := h.src.took h.fx hr hsp hb5 hb6 hk6 hk7 hs7 hb7 ho7
  have h6 := (h.below hb5).below hb6
  have z5 := hb5.size
  refine ⟨⟨t1, t2.1, OwnI.other h6.rest hk6 (by decide) ho7, OwnI.other h6.out hk6 (by decide) ho7, h.len, h.ler, h.apr, h.apo⟩, ⟨t6, t4, Apt.of_sep hsp h.apr hgr, fun g hg => Apt.of_sep hsp (h.apo g hg) (h.out.lt g hg)⟩⟩
theorem ComS.put (h : ComS w0 g3 g7 V Z A L zs gr n cr l ov os w) (hn : NxtS w0 g3 g7 g14 gr V2 A2 L zs ov w) (hk : Blk w' g3 40 V2) (hs : w'.heap.size = w.heap.size) (hb : ∀ B, B ≤ g3 → Below B w w') (ho : ∀ j, j ≠ g3 → w'.heap[j]? = w.heap[j]?) : ComS w0 g3 g7 V2 Z A2 L zs gr n cr l ov os w' :=
  ⟨h.src.put3 hn.hand.rd hn.ap3 hn.hand.apt hk hs hb ho, Blk.other h.res ho (Nat.ne_of_gt h.src.lt), OwnI.other h.rest h.src.blk (by decide) ho, OwnI.other h.out h.src.blk (by decide) ho, h.len, h.ler, hn.apr, hn.apo⟩
theorem ComS.reslt (h : ComS w0 g3 g7 V Z A L zs gr n cr l ov os w) : w0.heap.size ≤ w.heap.size := h.src.bel.size
theorem ComS.app (h : ComS w0 g3 g7 V Z A L zs gr n cr l ov os w) (ho : OwnI w' w0.heap.size 3 .i64 ov' (os ++ [z])) (hg : w.grownBy w' ov.ownBlock) (hat : ov'.ownBlock = ov.ownBlock ∨ ov'.ownBlock = some w.heap.size) : ComS w0 g3 g7 V Z A L zs gr n cr l ov' (os ++ [z]) w' := by
  have hbel : Below w0.heap.size w0 w' := h.out.below_ h.src.bel h.reslt hg
  have hapt : Apart L A ov := fun b off hn hA hb => h.apo b hb b off hn hA rfl
  have hrd : RdP A L zs w' := (Rd.grownA h.src.rd.rd hapt (Nat.le_refl _) hg).mono hg.size
  have hs : DrS w0 g3 g7 V A L zs w' := ⟨h.src.blk.grown h.out (by decide) hg, hbel, hrd, h.src.apt3, h.src.apt7, h.src.le3, h.src.lt, by have := h.src.lt7; have := hg.size; omega⟩
  refine ⟨hs, h.res.grown h.out (by decide) hg, h.rest.grownO h.out (by decide) hg, ho, h.len, h.ler, h.apr, fun g he => ?_⟩
  rcases hat with e | e
  · exact h.apo g (by rw [← e]; exact he)
  · rw [he] at e
    injection e with e
    subst e
    exact Apt.of_lt h.src.rd.rd (Nat.le_refl _)
end
structure FinS (w0 : World) (g3 g7 : Nat) (V : Array Value) (A : Option Addr) (L : Nat) (zs : List Int) (ov : Value) (os : List Int) (w : World) : Prop where
  src : DrS w0 g3 g7 V A L zs w
  out : OwnI w w0.heap.size 3 .i64 ov os
section
variable {w0 w w' : World} {g3 g7 L : Nat} {V Z : Array Value} {A : Option Addr} {zs os : List Int} {ov : Value}
theorem FinS.below (h : FinS w0 g3 g7 V A L zs ov os w) (hb : Below w.heap.size w w') : FinS w0 g3 g7 V A L zs ov os w' := ⟨h.src.below hb, h.out.below hb⟩
theorem FinS.drew (h : FinS w0 g3 g7 V A L zs ov os w) : FinS w0 g3 g7 V A L zs ov os w.drew := h.below (Below.refl _ _).drew
theorem FinS.store {g : Nat} {t : TypeId} {cs : Array Value} (h : FinS w0 g3 g7 V A L zs ov os w) (hk : Blk w g t cs) (ha : (g3 ≠ g ∧ Apt L A g ∧ w0.heap.size ≤ g) ∧ 3 ≠ t) (hs : w'.heap.size = w.heap.size) (hb : ∀ B, B ≤ g → Below B w w') (ho : ∀ j, j ≠ g → w'.heap[j]? = w.heap[j]?) : FinS w0 g3 g7 V A L zs ov os w' :=
  ⟨h.src.store hk ha.1 hs hb ho, OwnI.other h.out hk ha.2 ho⟩
theorem FinS.store7 (h : FinS w0 g3 g7 V A L zs ov os w) : (g3 ≠ g7 ∧ Apt L A g7 ∧ w0.heap.size ≤ g7) ∧ 3 ≠ 40 := ⟨h.src.store7, by decide⟩
theorem FinS.blk (h : FinS w0 g3 g7 V A L zs ov os w) : Blk w g3 40 V := h.src.blk
end
def comAcc (os : List Int) (r : List Int × Src × Int) : List Int × Src × Int := if r.2.2 = 0 then (os ++ r.1, r.2.1, 0) else ([], r.2.1, r.2.2)
theorem comAcc_nil (a : Int) (c : Nat) (l : List Int) (s : Src) : comAcc [] (comGo a c l s) = comGo a c l s := by
  unfold comAcc
  by_cases h : (comGo a c l s).2.2 = 0
  · rw [if_pos h, List.nil_append, ← h]
  · rw [if_neg h, ← comGo_err a c l s h]
theorem comAcc_no {a : Int} {c : Nat} {l : List Int} {s : Src} (os : List Int) (h : (ledR l s a).2.2 ≠ 0) : comAcc os (comGo a (c + 1) l s) = ([], (ledR l s a).2.1, (ledR l s a).2.2) := by
  rw [comGo_no h]
  unfold comAcc
  rw [if_neg h]
theorem comAcc_on {a : Int} {c : Nat} {l : List Int} {s : Src} (os : List Int) (h : (ledR l s a).2.2 = 0) : comAcc os (comGo a (c + 1) l s) = comAcc (os ++ [(ledR l s a).1]) (comGo a c (l.set (ledR l s a).1.toNat 0) (ledR l s a).2.1) := by
  by_cases h2 : (comGo a c (l.set (ledR l s a).1.toNat 0) (ledR l s a).2.1).2.2 = 0
  · rw [comGo_on h h2]
    unfold comAcc
    rw [if_pos rfl, if_pos h2, List.append_assoc]
    rfl
  · rw [comGo_off h h2]
    unfold comAcc
    rw [if_neg h2, if_neg h2]
theorem comAcc_end (os l : List Int) (s : Src) (a : Int) : comAcc os (comGo a 0 l s) = (os, s, 0) := by
  rw [comGo_zero]
  unfold comAcc
  rw [if_pos rfl, List.append_nil]
def lenOf : Value → Nat
  | .slice _ n _ => n
  | _ => 0
theorem rdi_one (w : World) (e : TypeId) (x : Int) : Rd .i64 (w.alloc (.cells #[.int .i64 x] e)) (w.alloc (.cells #[.int .i64 x] e)).heap.size (some ⟨w.heap.size, 0, none⟩) 1 [x] := rd_one1 w e .i64 x
end
section
open Go.ChangeShapes Go.WideShapes Go.ChangeAt Go.RowKit
theorem DrS.from_ {w0 w1 w : World} {g3 g7 L : Nat} {V : Array Value} {A : Option Addr} {zs : List Int} (h : DrS w1 g3 g7 V A L zs w) (hb : Below w0.heap.size w0 w1) : DrS w0 g3 g7 V A L zs w :=
  ⟨h.blk, hb.trans (h.bel.mono hb.size), h.rd, h.apt3, h.apt7, Nat.le_trans hb.size h.le3, h.lt, h.lt7⟩
structure ComF (w0 : World) (g3 g7 gF : Nat) (V Z : Array Value) (A : Option Addr) (L : Nat) (zs : List Int) (AF : Option Addr) (n cF : Nat) (l : List Int) (ov : Value) (os : List Int) (w : World) : Prop where
  src : DrS w0 g3 g7 V A L zs w
  res : Blk w g7 40 Z
  tre : Blk w gF 32 #[.slice AF n cF]
  trd : Rd .u64 w w.heap.size AF n (treeL l)
  out : OwnI w w0.heap.size 3 .i64 ov os
  lef : w0.heap.size ≤ gF
  at3 : Apt n AF g3
  at7 : Apt n AF g7
  atF : Apt n AF gF
  aF : Apt L A gF
  ao : ∀ g, ov.ownBlock = some g → Apt L A g
  ato : ∀ g, ov.ownBlock = some g → Apt n AF g
structure NxtF (w0 : World) (g3 g7 gF g13 : Nat) (V2 : Array Value) (A2 : Option Addr) (L : Nat) (zs : List Int) (ov : Value) (w : World) : Prop where
  hand : DrH w0 g7 g13 V2 A2 L zs w
  ap3 : Apt L A2 g3
  apF : Apt L A2 gF
  apo : ∀ g, ov.ownBlock = some g → Apt L A2 g
section
variable {w0 w w' w5 w6 w7 : World} {g3 g7 gF g13 n cF cF' L k : Nat} {V V2 Z : Array Value} {A A2 AF AF' : Option Addr} {zs l l' os : List Int} {ov ov' : Value} {z : Int}
theorem blk_ne {t t' : TypeId} {cs cs' : Array Value} {g g' : Nat} (h : Blk w g t cs) (h' : Blk w g' t' cs') (hne : t ≠ t') : g ≠ g' := by
  rintro rfl
  unfold Blk at h h'
  rw [h] at h'
  injection h' with h'
  injection h' with _ h5
  exact hne h5
theorem Rd.other_ {kd : IntKind} {m r : Nat} {B : Option Addr} {ys : List Int} (h : Rd kd w w.heap.size B m ys) (ha : Apt m B r) (hs : w'.heap.size = w.heap.size) (ho : ∀ j, j ≠ r → w'.heap[j]? = w.heap[j]?) : Rd kd w' w'.heap.size B m ys := by
  have h1 := Rd.other h ho ha
  rw [hs]
  exact h1
theorem ComF.below (h : ComF w0 g3 g7 gF V Z A L zs AF n cF l ov os w) (hb : Below w.heap.size w w') : ComF w0 g3 g7 gF V Z A L zs AF n cF l ov os w' :=
  ⟨h.src.below hb, h.res.below hb h.res.lt, h.tre.below hb h.tre.lt, (h.trd.below hb).mono hb.size, h.out.below hb, h.lef, h.at3, h.at7, h.atF, h.aF, h.ao, h.ato⟩
theorem ComF.drew (h : ComF w0 g3 g7 gF V Z A L zs AF n cF l ov os w) : ComF w0 g3 g7 gF V Z A L zs AF n cF l ov os w.drew := h.below (Below.refl _ _).drew
theorem NxtF.below (h : NxtF w0 g3 g7 gF g13 V2 A2 L zs ov w) (hb : Below w.heap.size w w') : NxtF w0 g3 g7 gF g13 V2 A2 L zs ov w' := ⟨h.hand.below hb, h.ap3, h.apF, h.apo⟩
theorem NxtF.drew (h : NxtF w0 g3 g7 gF g13 V2 A2 L zs ov w) : NxtF w0 g3 g7 gF g13 V2 A2 L zs ov w.drew := h.below (Below.refl _ _).drew
theorem ComF.fx (h : ComF w0 g3 g7 gF V Z A L zs AF n cF l ov os w) : Fx [.blk g7 40 Z] w := ⟨h.res, trivial⟩
theorem ComF.size (h : ComF w0 g3 g7 gF V Z A L zs AF n cF l ov os w) : w0.heap.size ≤ w.heap.size := h.src.bel.size
theorem ComF.nf3 (h : ComF w0 g3 g7 gF V Z A L zs AF n cF l ov os w) : gF ≠ g3 := blk_ne h.tre h.src.blk (by decide)
theorem ComF.nf7 (h : ComF w0 g3 g7 gF V Z A L zs AF n cF l ov os w) : gF ≠ g7 := blk_ne h.tre h.res (by decide)
theorem ComF.took (h : ComF w0 g3 g7 gF V Z A L zs AF n cF l ov os w) (hr : Rd .u8 w5 w5.heap.size A2 L zs) (hsp : Sep w A A2) (hb5 : Below w.heap.size w w5) (hb6 : Below w5.heap.size w5 w6) (hk6 : Blk w6 w5.heap.size 40 Z) (hk7 : Blk w7 w5.heap.size 40 V2) (hs7 : w7.heap.size = w6.heap.size) (hb7 : ∀ B, B ≤ w5.heap.size → Below B w6 w7) (ho7 : ∀ j, j ≠ w5.heap.size → w7.heap[j]? = w6.heap[j]?) :
    ComF w0 g3 g7 gF V Z A L zs AF n cF l ov os w7 ∧ NxtF w0 g3 g7 gF w5.heap.size V2 A2 L zs ov w7 := by
  obtain ⟨t1, t2, t3, t4, t5, t6⟩ := h.src.took h.fx hr hsp hb5 hb6 hk6 hk7 hs7 hb7 ho7
  have h5 := h.below hb5
  have h6 := h5.below hb6
  have z5 := hb5.size
  exact ⟨⟨t1, t2.1, Blk.other h6.tre ho7 (Nat.ne_of_lt (h5.tre.lt)), Rd.other_ h6.trd (Apt.of_lt h5.trd (Nat.le_refl _)) hs7 ho7, OwnI.other h6.out hk6 (by decide) ho7, h.lef, h.at3, h.at7, h.atF, h.aF, h.ao, h.ato⟩,
    ⟨t6, t4, Apt.of_sep hsp h.aF h.tre.lt, fun g hg => Apt.of_sep hsp (h.ao g hg) (h.out.lt g hg)⟩⟩
theorem ComF.app (h : ComF w0 g3 g7 gF V Z A L zs AF n cF l ov os w) (ho : OwnI w' w0.heap.size 3 .i64 ov' (os ++ [z])) (hg : w.grownBy w' ov.ownBlock) (hat : ov'.ownBlock = ov.ownBlock ∨ ov'.ownBlock = some w.heap.size) : ComF w0 g3 g7 gF V Z A L zs AF n cF l ov' (os ++ [z]) w' := by
  have hbel : Below w0.heap.size w0 w' := h.out.below_ h.src.bel h.size hg
  have hapt : Apart L A ov := fun b off hn hA hb => h.ao b hb b off hn hA rfl
  have hapF : Apart n AF ov := fun b off hn hA hb => h.ato b hb b off hn hA rfl
  have hrd : RdP A L zs w' := (Rd.grownA h.src.rd.rd hapt (Nat.le_refl _) hg).mono hg.size
  have hs : DrS w0 g3 g7 V A L zs w' := ⟨h.src.blk.grown h.out (by decide) hg, hbel, hrd, h.src.apt3, h.src.apt7, h.src.le3, h.src.lt, by have := h.src.lt7; have := hg.size; omega⟩
  refine ⟨hs, h.res.grown h.out (by decide) hg, h.tre.grown h.out (by decide) hg, (Rd.grownA h.trd hapF (Nat.le_refl _) hg).mono hg.size, ho, h.lef, h.at3, h.at7, h.atF, h.aF, fun g he => ?_, fun g he => ?_⟩
  · rcases hat with e | e
    · exact h.ao g (by rw [← e]; exact he)
    · rw [he] at e
      injection e with e
      subst e
      exact Apt.of_lt h.src.rd.rd (Nat.le_refl _)
  · rcases hat with e | e
    · exact h.ato g (by rw [← e]; exact he)
    · rw [he] at e
      injection e with e
      subst e
      exact Apt.of_lt h.trd (Nat.le_refl _)
theorem NxtF.app (h : NxtF w0 g3 g7 gF g13 V2 A2 L zs ov w) (hown : OwnI w w0.heap.size 3 .i64 ov os) (hg : w.grownBy w' ov.ownBlock) (hat : ov'.ownBlock = ov.ownBlock ∨ ov'.ownBlock = some w.heap.size) : NxtF w0 g3 g7 gF g13 V2 A2 L zs ov' w' := by
  have hapt : Apart L A2 ov := fun b off hn hA hb => h.apo b hb b off hn hA rfl
  have hrd : RdP A2 L zs w' := (Rd.grownA h.hand.rd.rd hapt (Nat.le_refl _) hg).mono hg.size
  refine ⟨⟨h.hand.blk.grown hown (by decide) hg, hown.below_ h.hand.bel h.hand.bel.size hg, hrd, h.hand.apt, h.hand.ne, h.hand.le⟩, h.ap3, h.apF, fun g he => ?_⟩
  rcases hat with e | e
  · exact h.apo g (by rw [← e]; exact he)
  · rw [he] at e
    injection e with e
    subst e
    exact Apt.of_lt h.hand.rd.rd (Nat.le_refl _)
theorem ComF.put (h : ComF w0 g3 g7 gF V Z A L zs AF n cF l ov os w) (hn : NxtF w0 g3 g7 gF g13 V2 A2 L zs ov w) (hk : Blk w' g3 40 V2) (hs : w'.heap.size = w.heap.size) (hb : ∀ B, B ≤ g3 → Below B w w') (ho : ∀ j, j ≠ g3 → w'.heap[j]? = w.heap[j]?) : ComF w0 g3 g7 gF V2 Z A2 L zs AF n cF l ov os w' :=
  ⟨h.src.put3 hn.hand.rd hn.ap3 hn.hand.apt hk hs hb ho, Blk.other h.res ho (Nat.ne_of_gt h.src.lt), Blk.other h.tre ho h.nf3, Rd.other_ h.trd h.at3 hs ho, OwnI.other h.out h.src.blk (by decide) ho, h.lef, h.at3, h.at7, h.atF, hn.apF, hn.apo, h.ato⟩
theorem ComF.setf (h : ComF w0 g3 g7 gF V Z A L zs AF n cF l ov os w) (hr : Rd .u64 w5 w5.heap.size AF' n (treeL l')) (hf : ∀ b off, AF' = some ⟨b, off, none⟩ → w.heap.size ≤ b) (hb5 : Below w.heap.size w w5) (hk : Blk w' gF 32 #[.slice AF' n cF']) (hs : w'.heap.size = w5.heap.size) (hb : ∀ B, B ≤ gF → Below B w5 w') (ho : ∀ j, j ≠ gF → w'.heap[j]? = w5.heap[j]?) : ComF w0 g3 g7 gF V Z A L zs AF' n cF' l' ov os w' := by
  have h5 := h.below hb5
  have fr : ∀ g, g < w.heap.size → Apt n AF' g := fun g hg b off _ e => by have := hf b off e; omega
  exact ⟨h5.src.store h5.tre ⟨fun e => h.nf3 e.symm, h.aF, h.lef⟩ hs hb ho, Blk.other h5.res ho (fun e => h.nf7 e.symm), hk, Rd.other_ hr (fr gF h.tre.lt) hs ho, OwnI.other h5.out h5.tre (by decide) ho, h.lef, fr _ h.src.lt3, fr _ h.src.lt7, fr _ h.tre.lt, h.aF, h.ao, fun g hg => fr g (h.out.lt g hg)⟩
end
theorem exec_bldI {o : Oper} {a : Act} {w : World} (p : Operand) (x : Int) (ho : o.op = .buildSlice 64 1 #[(0, p)]) (hp : a.eval p = .int .i64 x) :
    (execOp a.eval o).run Tryz.prog w = .ok (.value (.slice (some ⟨w.heap.size, 0, none⟩) 1 1)) (w.alloc (.cells #[.int .i64 x] 3)) := by
  have hr1 : (Instr.buildSlice 64 1 #[(0, .int .i64 x)]).run Tryz.prog w = .ok (.slice (some ⟨w.heap.size, 0, none⟩) 1 1) (w.alloc (.cells #[.int .i64 x] 3)) := by go_simp
  unfold execOp
  simp only [ho, List.map_toArray, List.map_cons, List.map_nil, hp]
  change ((Instr.buildSlice 64 1 #[(0, .int .i64 x)]) >>= fun v => pure (Next.value v)).run Tryz.prog w = _
  simp only [Sem.run_bind, hr1, Result.andThen_ok, Sem.run_pure]
theorem step_bldI {ops : Array Oper} {o : Oper} {a : Act} {w : World} {K : Act → World → Prop} {Q : Exit → Act → World → Prop} {E : Prop} (d : Option Tmp) (hd : o.dst = d) (hw : Region.wanted o (yielded ops a.tmps) = true) (p : Operand) (ho : o.op = .buildSlice 64 1 #[(0, p)])
    (x : Int) (hp : a.eval p = .int .i64 x) (h : ∀ g w', Rd .i64 w' w'.heap.size (some ⟨g, 0, none⟩) 1 [x] → Below w.heap.size w w' → K (a.put d (.slice (some ⟨g, 0, none⟩) 1 1)) w') :
    if Region.wanted o (yielded ops a.tmps) = true then Oper.wp Tryz.prog o a w K Q else E := by
  subst hd
  rw [if_pos hw]
  have he := exec_bldI (w := w) p x ho hp
  unfold Oper.wp
  rw [he]
  exact h _ _ (rdi_one w _ x) ((Below.refl _ _).alloc (Nat.le_refl _) _)
end
section
open Go.ChangeShapes Go.WideShapes Go.ChangeAt Go.RowKit
def tzTab : List Int := Lib.deBruijn64tab.map fun (n : Nat) => (n : Int)
def TzT (w : World) : Prop := Lib.TabIs Tryz.prog w "math/bits.deBruijn64tab" .u8 tzTab
theorem TzT.below {w w' : World} (h : TzT w) (hb : Below w.heap.size w w') : TzT w' := by
  unfold TzT Lib.TabIs World.var? at *
  cases hg : Tryz.prog.globalNamed "math/bits.deBruijn64tab" with
  | none => simp [hg] at h
  | some g =>
    simp only [hg, Option.bind_some] at h ⊢
    have hlt : g < w.heap.size := by
      rcases Nat.lt_or_ge g w.heap.size with h' | h'
      · exact h'
      · rw [Array.getElem?_eq_none h'] at h; simp at h
    rw [hb.block g hlt]
    exact h
theorem TzT.alloc {w : World} (h : TzT w) (o : Obj) : TzT (w.alloc o) := h.below ((Below.refl _ _).alloc (Nat.le_refl _) o)
theorem TzT.drew {w : World} (h : TzT w) : TzT w.drew := h
theorem gTz : Tryz.prog.globalNamed "math/bits.deBruijn64tab" = some 1 := by kernel_rfl
theorem tTz : (Tryz.prog.globals[1]?).map (·.type) = some 178 := by kernel_rfl
end
section
open Go.ChangeShapes Go.WideShapes Go.ChangeAt Go.RowKit
def KstC (w : World) : Prop := 4 < w.heap.size ∧ ∀ j, j < 64 → w.cell? ⟨4, j, none⟩ = some (.int .u32 (constL.getD j 0))
theorem KstC.below {w w' : World} (h : KstC w) (hb : Below w.heap.size w w') : KstC w' :=
  ⟨Nat.lt_of_lt_of_le h.1 hb.size, fun j hj => by rw [hb.cell (p := ⟨4, j, none⟩) h.1]; exact h.2 j hj⟩
def Kst (w : World) : Prop := KstC w ∧ TzT w
theorem Kst.of {w : World} (h : KstC w) (h2 : TzT w) : Kst w := ⟨h, h2⟩
theorem Kst.tz {w : World} (h : Kst w) : TzT w := h.2
theorem Kst.c {w : World} (h : Kst w) : KstC w := h.1
theorem Kst.below {w w' : World} (h : Kst w) (hb : Below w.heap.size w w') : Kst w' := ⟨h.1.below hb, h.2.below hb⟩
theorem Kst.at_ {w : World} (h : Kst w) : ∀ j, j < 64 → w.cell? ⟨4, j, none⟩ = some (.int .u32 (constL.getD j 0)) := h.c.2
theorem Kst.alloc {w : World} (h : Kst w) (o : Obj) : Kst (w.alloc o) := h.below ((Below.refl _ _).alloc (Nat.le_refl _) o)
theorem Kst.drew {w : World} (h : Kst w) : Kst w.drew := h
abbrev laidK : List (String × DataW Unit) := [("drawlot/comp.constants", Rows.laid_drawlot_comp_constants), ("math/bits.deBruijn32tab", Rows.laid_math_bits_deBruijn32tab), ("math/bits.deBruijn64tab", Rows.laid_math_bits_deBruijn64tab)]
abbrev kindsK : List LaidKind := [.data, .data, .data]
theorem laidTzK : (Rows.laid_math_bits_deBruijn64tab : DataW Unit) = Lib.tabData .u8 tzTab := by kernel_rfl
theorem gConsts : Tryz.prog.globalNamed "drawlot/comp.constants" = some 4 := by kernel_rfl
theorem tConsts : (Tryz.prog.globals[4]?).map (·.type) = some 206 := by kernel_rfl
theorem laidD : (Rows.laid_drawlot_comp_constants : DataW Unit) = .agg (constL.map fun z => .lit (.int .u32 z)) := by kernel_rfl
theorem trod_arr_ints {H : Type} {enc : TypeId × Value → H} {P : Program} {w : World} {base n fuel : Nat} {spare : TypeId → Bool} {held : Bool} {t e : TypeId} {q : IntKind} {cs : Array Value} {ys : List Int} {p : List MemPlace} (ht : P.underlying t = some (.array n e)) (he : P.underlying e = some (.int q)) (hc : P.cellsOf e = 1) (hC : P.cellsOf t = n)
    (hf : DataW.trod enc P w base spare held fuel t cs.toList = some (.agg (ys.map fun z => .lit (.int q z)), p)) : ∀ i, i < n → cs[i]? = some (.int q (ys.getD i 0)) := by
  obtain ⟨xs, m, _, hx, hl, hxl, hat⟩ := DataW.trod_array ht hf
  rw [hC] at hl
  rw [hc] at hat
  have hl' : cs.size = n := by simpa using hl
  have hd := congrArg Prod.fst hx
  simp only [DataW.agg.injEq] at hd
  intro i hi
  have h1 := hat i hi
  have e1 : List.take 1 (List.drop (i * 1) cs.toList) = [cs[i]'(by omega)] := by
    simp only [Nat.mul_one]
    rw [List.drop_eq_getElem_cons (by simpa using (show i < cs.size by omega))]
    simp
  rw [e1] at h1
  have hxi : xs[i]? = some (xs[i]'(by omega)) := List.getElem?_eq_getElem (by omega)
  rw [hxi] at h1
  obtain ⟨a, ea, ex, wa⟩ := DataW.trod_int he h1
  have h2 := congrArg (fun l => l[i]?) hd
  simp only [List.getElem?_map, hxi, Option.map_some, ex] at h2
  have h3 : ys[i]? = some a := by
    cases hy : ys[i]? with
    | none => rw [hy] at h2; cases h2
    | some y => rw [hy] at h2; simp only [Option.map_some, Option.some.injEq, DataW.lit.injEq, Lit.int.injEq, true_and] at h2; rw [h2]
  rw [Array.getElem?_eq_getElem (by omega), List.getD_eq_getElem?_getD, h3]
  simpa using ea
theorem kst_of_laid {W : World} (h : laidMetH Tryz.prog laidK W) : Kst W := by
  rw [MakeChecks.laidMetH_plain _ _ _ (by kernel_rfl)] at h
  obtain ⟨ps, ⟨g0, t0, cs0, f0, p0, q0, hg0, ht0, hv0, hd0, ⟨_, _, _, _, _, _, _, _, _, _, ⟨g1, t1, cs1, f1, p1, q1, hg1, ht1, hv1, hd1, _⟩, _⟩, _⟩, _⟩ := h
  obtain rfl := Option.some.inj (gConsts.symm.trans hg0)
  obtain rfl := Option.some.inj (tConsts.symm.trans ht0)
  rw [laidD] at hd0
  have hz := trod_arr_ints Tryz.underlying206 Tryz.underlying89 (by kernel_rfl) (by kernel_rfl) hd0
  have hc : ∀ j, j < 64 → W.cell? ⟨4, j, none⟩ = some (.int .u32 (constL.getD j 0)) := fun j hj => (World.var?_cell hg0 hv0 j).trans (hz j hj)
  have hC : KstC W := by
    refine ⟨?_, hc⟩
    have h0 := hc 0 (by decide)
    by_cases hlt : 4 < W.heap.size
    · exact hlt
    · exfalso
      simp only [World.cell?, Array.getElem?_eq_none (Nat.le_of_not_lt hlt)] at h0
      cases h0
  obtain rfl := Option.some.inj (gTz.symm.trans hg1)
  obtain rfl := Option.some.inj (tTz.symm.trans ht1)
  rw [laidTzK] at hd1
  refine Kst.of hC ?_
  unfold TzT Lib.TabIs
  rw [hv1, ← Lib.cells_of_tab Tryz.underlying178 Tryz.underlying5 (by kernel_rfl) (by kernel_rfl) hd1]
theorem door_met (os : Os) (args : Array Value) : laidMetH Tryz.prog laidK ((World.doorLaid Tryz.prog 400 os).forCall (fun _ _ => 0) ⟨#[], args, []⟩).memory :=
  laidMetH_of_parts3 (fuel := 8) (laidMet_of_run' 8 (by kernel_rfl) (by kernel_rfl)) (by kernel_rfl) (by kernel_rfl)
end
section
open Go.ChangeShapes Go.WideShapes Go.ChangeAt Go.RowKit
theorem q8need_c (n : Int) (n0 : 0 ≤ n) (n1 : n < 18446744073709551616) (w : World) : Calls Tryz.prog 47 #[.int .u64 n] w fun e w' => e = .returned (.int .i64 (needN n : Nat)) ∧ w = w' := by
  by_cases h : n = 0
  · subst h
    go_enter Tryz.func47, Tryz.ntmps47
    go_wp2
    go_ret
    exact ⟨rfl, rfl⟩
  · have HB := Lib.hid (fun W => bits_i (n - 1) (by omega) (by omega) W)
    have hR : needN n = Wd.bitsL (n - 1).toNat := by unfold needN; rw [if_neg h]
    rw [hR]
    obtain ⟨B, hB⟩ : ∃ B, Wd.bitsL (n - 1).toNat = B := ⟨_, rfl⟩
    rw [hB] at HB ⊢
    have t1 : (n == 0) = false := by rw [beq_eq_false_iff_ne]; exact h
    have e1 : IntKind.u64.wrap (n - 1) = n - 1 := by rw [IntKind.wrap_u64]; omega
    clear h hR hB
    go_enter Tryz.func47, Tryz.ntmps47
    go_wp2_with (go_at_call 78; (with_reducible refine (HB.out _).mono ?_); rintro e _ ⟨rfl, rfl⟩)
    go_ret
    exact ⟨rfl, rfl⟩
end
section
open Go.ChangeShapes Go.WideShapes Go.ChangeAt Go.RowKit
theorem pfirst_c (x : Int) (h0 : 0 ≤ x) (h1 : x < 4294967296) (w : World) :
    Calls Tryz.prog 151 #[.int .u32 x] w fun e w' => e = .returned (.int .u32 (mix1 x)) ∧ w = w' := by
  unfold mix1
  go_enter Tryz.func151, Tryz.ntmps151
  go_wp2_with (first
    | (go_at_call 154; (with_reducible refine (rotate_c _ _ (by omega) (by omega) (by omega) (by omega) _).mono ?_); rintro e _ ⟨rfl, rfl⟩)
    | (go_at_call 155; (with_reducible refine (right_c _ _ (by omega) (by omega) (by omega) (by omega) _).mono ?_); rintro e _ ⟨rfl, rfl⟩))
  go_ret
  exact ⟨rfl, rfl⟩
theorem psecond_c (x : Int) (h0 : 0 ≤ x) (h1 : x < 4294967296) (w : World) :
    Calls Tryz.prog 150 #[.int .u32 x] w fun e w' => e = .returned (.int .u32 (mix2 x)) ∧ w = w' := by
  unfold mix2
  go_enter Tryz.func150, Tryz.ntmps150
  go_wp2_with (first
    | (go_at_call 154; (with_reducible refine (rotate_c _ _ (by omega) (by omega) (by omega) (by omega) _).mono ?_); rintro e _ ⟨rfl, rfl⟩)
    | (go_at_call 155; (with_reducible refine (right_c _ _ (by omega) (by omega) (by omega) (by omega) _).mono ?_); rintro e _ ⟨rfl, rfl⟩))
  go_ret
  exact ⟨rfl, rfl⟩
set_option maxHeartbeats 1000000 in
theorem pof_c (b : List Int) (hl : b.length = 64) (hb : ∀ z ∈ b, 0 ≤ z ∧ z < 256) (w : World) :
    Calls Tryz.prog 144 #[.agg (intsA .u8 b)] w fun e w' => e = .returned (.agg (intsA .u32 (planL b))) ∧ Below w.heap.size w w' := by
  go_enter Tryz.func144, Tryz.ntmps144
  go_wp2_with (first
    | (with_reducible refine at_any ?_; refine at_dst 1 rfl ?_; refine wpList_box_ints rfl 178 (.tmp 0) rfl .u8 b rfl ?_; intro w1 hk1 hs1 hb1)
    | (with_reducible refine at_any ?_; refine at_dst 2 rfl ?_; refine wpList_alloc_ints rfl 207 rfl .u32 (List.replicate 64 0) zero_plan ?_; intro w2 hk2 hs2 hb2)
    | (with_reducible refine at_any ?_; refine at_dst 3 rfl ?_; refine wpList_alloc_ints rfl 207 rfl .u32 (List.replicate 64 0) zero_plan ?_; intro w3 hk3 hs3 hb3))
  have HI : In3 w w.heap.size w1.heap.size w2.heap.size 178 207 207 .u8 .u32 .u32 b (List.replicate 64 0) (planF b 0) w3 := by
    rw [planF_zero]
    have q1 := hs1.out
    have q2 := hs2.out
    have q3 := hs3.out
    exact ⟨(hk1.out.below hb2 (by omega)).below hb3 (by omega), hk2.out.below hb3 (by omega), hk3.out, hb1.trans ((hb2.mono (by omega)).trans (hb3.mono (by omega))), by omega, by omega, by omega⟩
  obtain ⟨g1, hg1⟩ : ∃ g, w.heap.size = g := ⟨_, rfl⟩
  obtain ⟨g2, hg2⟩ : ∃ g, w1.heap.size = g := ⟨_, rfl⟩
  obtain ⟨g3, hg3⟩ : ∃ g, w2.heap.size = g := ⟨_, rfl⟩
  have HG2 := Lib.hid (show w.heap.size ≤ g2 by have := hb1.size; omega)
  rw [hg1, hg2, hg3] at HI
  rw [hg1, hg2, hg3]
  clear hk1 hs1 hb1 hk2 hs2 hb2 hk3 hs3 hb3
  go_loopw [7] (fun v wr => ∃ i : Nat, i ≤ 16 ∧ v = .int .i64 i ∧ In3 w g1 g2 g3 178 207 207 .u8 .u32 .u32 b (List.replicate 64 0) (planF b i) wr) (fun v _ => 16 - (intOf v).toNat)
  case atStart => exact ⟨0, by omega, rfl, HI⟩
  case round =>
    clear HI
    obtain ⟨i, hi, rfl, HI⟩ := hrel
    by_cases hlt : i < 16
    · have hpl := planF_len b i (by omega)
      have HW := HI.open_ (i := i) (by omega)
      have hset := fun v hv => planF_set b i (by omega) v hv
      obtain ⟨m, hm⟩ : ∃ m, 4 * i = m := ⟨_, rfl⟩
      obtain ⟨m1, hm1⟩ : ∃ m1, 4 * i + 1 = m1 := ⟨_, rfl⟩
      obtain ⟨m2, hm2⟩ : ∃ m2, 4 * i + 2 = m2 := ⟨_, rfl⟩
      obtain ⟨m3, hm3⟩ : ∃ m3, 4 * i + 3 = m3 := ⟨_, rfl⟩
      have c0 := HW.cell1 (j := m) (by omega)
      have c1 := HW.cell1 (j := m1) (by omega)
      have c2 := HW.cell1 (j := m2) (by omega)
      have c3 := HW.cell1 (j := m3) (by omega)
      have hg : ∀ j, j < 64 → 0 ≤ b.getD j 0 ∧ b.getD j 0 < 256 := by
        intro j hj
        have h : j < b.length := by omega
        simp [h]; exact hb _ (List.getElem_mem h)
      have r0 := hg m (by omega)
      have r1 := hg m1 (by omega)
      have r2 := hg m2 (by omega)
      have r3 := hg m3 (by omega)
      have hv : word4 b i = Wd.get4 (b.getD m 0) (b.getD m1 0) (b.getD m2 0) (b.getD m3 0) := by unfold word4; rw [hm1, hm2, hm3, hm]
      have hsv := hset (word4 b i) (by rw [if_pos hlt])
      have HK : ∀ w', In3W w g1 g2 g3 178 207 207 .u8 .u32 .u32 b (List.replicate 64 0) (planF b i) i w' → w'.cell? ⟨g1, m, none⟩ = some (.int .u8 (b.getD m 0)) ∧ w'.cell? ⟨g1, m1, none⟩ = some (.int .u8 (b.getD m1 0)) ∧ w'.cell? ⟨g1, m2, none⟩ = some (.int .u8 (b.getD m2 0)) ∧ w'.cell? ⟨g1, m3, none⟩ = some (.int .u8 (b.getD m3 0)) ∧ In3W w g1 g2 g3 178 207 207 .u8 .u32 .u32 b (List.replicate 64 0) (planF b i) i w' :=
        fun w' h => ⟨h.cell1 (by omega), h.cell1 (by omega), h.cell1 (by omega), h.cell1 (by omega), h⟩
      have HA : ∀ w', In3W w g1 g2 g3 178 207 207 .u8 .u32 .u32 b (List.replicate 64 0) (planF b i) i w' → (∃ u, w'.cell? ⟨g3, i, none⟩ = some (.int .u32 u)) ∧ w'.frozen? ⟨g3, i, none⟩ = false := fun w' h => h.at_ (by omega)
      obtain ⟨a0, ha0⟩ : ∃ a, b.getD m 0 = a := ⟨_, rfl⟩
      obtain ⟨a1, ha1⟩ : ∃ a, b.getD m1 0 = a := ⟨_, rfl⟩
      obtain ⟨a2, ha2⟩ : ∃ a, b.getD m2 0 = a := ⟨_, rfl⟩
      obtain ⟨a3, ha3⟩ : ∃ a, b.getD m3 0 = a := ⟨_, rfl⟩
      rw [ha0, ha1, ha2, ha3] at HK hv
      rw [ha0] at c0 r0
      rw [ha1] at c1 r1
      rw [ha2] at c2 r2
      rw [ha3] at c3 r3
      rw [hv] at hsv
      have HK' := Lib.hid HK
      have HA' := Lib.hid HA
      have HSV := Lib.hid hsv
      have e0 : IntKind.i64.wrap (4 * (i : Int)) = (m : Int) := by rw [IntWalk.i64_in _ (by omega)]; omega
      have e1 : IntKind.i64.wrap ((m : Int) + 1) = (m1 : Int) := by rw [IntWalk.i64_in _ (by omega)]; omega
      have e2 : IntKind.i64.wrap ((m : Int) + 2) = (m2 : Int) := by rw [IntWalk.i64_in _ (by omega)]; omega
      have e3 : IntKind.i64.wrap ((m : Int) + 3) = (m3 : Int) := by rw [IntWalk.i64_in _ (by omega)]; omega
      have q0 : (0 : Int) ≤ (m : Int) ∧ (m : Int) < 64 := by omega
      have q1 : (0 : Int) ≤ (m1 : Int) ∧ (m1 : Int) < 64 := by omega
      have q2 : (0 : Int) ≤ (m2 : Int) ∧ (m2 : Int) < 64 := by omega
      have q3 : (0 : Int) ≤ (m3 : Int) ∧ (m3 : Int) < 64 := by omega
      have q4 : (0 : Int) ≤ (i : Int) ∧ (i : Int) < 64 := by omega
      obtain ⟨⟨u0, hu0⟩, hf0⟩ := HA _ HW
      clear hset HK HA hg ha0 ha1 ha2 ha3 hm hm1 hm2 hm3 hv hsv hpl HI
      have HWd : In3W w g1 g2 g3 178 207 207 .u8 .u32 .u32 b (List.replicate 64 0) (planF b i) i wr.drew := by obtain ⟨u, hu⟩ := HW; exact ⟨u, hu.drew⟩
      go_wp2
      go_region_held3 (fun w' => w'.cell? ⟨g1, m, none⟩ = some (.int .u8 a0) ∧ w'.cell? ⟨g1, m1, none⟩ = some (.int .u8 a1) ∧ w'.cell? ⟨g1, m2, none⟩ = some (.int .u8 a2) ∧ w'.cell? ⟨g1, m3, none⟩ = some (.int .u8 a3) ∧ In3W w g1 g2 g3 178 207 207 .u8 .u32 .u32 b (List.replicate 64 0) (planF b i) i w')
        (first | assumption | exact HK'.out _ HWd | (go_split_ands; exact HK'.out _ HW5) | (go_split_ands; exact HK'.out _ (HW5.again _)))
        (first
          | (go_at_call 149; (with_reducible refine (get32_c a0 a1 a2 a3 r0.1 r0.2 r1.1 r1.2 r2.1 r2.2 r3.1 r3.2 _).mono ?_); rintro e w5 ⟨rfl, hb5, _⟩; have HW5 := HWd.below hb5; obtain ⟨⟨u5, hu5⟩, hf5⟩ := HA'.out _ HW5))
      all_goals
        go_wp2
        go_roundw
        case rel => exact ⟨i + 1, by omega, by go_num, by rw [← HSV.out]; exact HW5.set_ _⟩
        case measure => simp [intOf]; omega
    · rw [show ((i : Nat) : Int) = 16 by omega]
      obtain rfl : i = 16 := by omega
      clear hi hlt
      go_wp2
      go_loopw [6] (fun v wr => ∃ i : Nat, 16 ≤ i ∧ i ≤ 64 ∧ v = .int .i64 i ∧ In3 w g1 g2 g3 178 207 207 .u8 .u32 .u32 b (List.replicate 64 0) (planF b i) wr) (fun v _ => 64 - (intOf v).toNat)
      case atStart => exact ⟨16, by omega, by omega, rfl, HI⟩
      case round =>
        clear HI
        obtain ⟨i, hi16, hi, rfl, HI⟩ := hrel
        by_cases hlt : i < 64
        · have hpl := planF_len b i (by omega)
          have HW := HI.open_ (i := i) (by omega)
          have hin := planTo_in b hb i
          have hg : ∀ j, j < i → (planF b i).getD j 0 = (planTo b i).getD j 0 ∧ 0 ≤ (planTo b i).getD j 0 ∧ (planTo b i).getD j 0 < 4294967296 := by
            intro j hj
            have h : j < (planTo b i).length := by rw [planTo_len]; exact hj
            refine ⟨planF_at b i j hj, ?_⟩
            simp [h]; exact hin _ (List.getElem_mem h)
          obtain ⟨m2, hm2⟩ : ∃ m, i - 2 = m := ⟨_, rfl⟩
          obtain ⟨m7, hm7⟩ : ∃ m, i - 7 = m := ⟨_, rfl⟩
          obtain ⟨m15, hm15⟩ : ∃ m, i - 15 = m := ⟨_, rfl⟩
          obtain ⟨m16, hm16⟩ : ∃ m, i - 16 = m := ⟨_, rfl⟩
          have hsv := planF_set b i hlt (nextW (planTo b i) i) (by rw [if_neg (by omega)])
          have hv : nextW (planTo b i) i = (mix2 ((planTo b i).getD m2 0) + (planTo b i).getD m7 0 + mix1 ((planTo b i).getD m15 0) + (planTo b i).getD m16 0) % 4294967296 := by unfold nextW; rw [hm2, hm7, hm15, hm16]
          have HK : ∀ w', In3W w g1 g2 g3 178 207 207 .u8 .u32 .u32 b (List.replicate 64 0) (planF b i) i w' → w'.cell? ⟨g3, m2, none⟩ = some (.int .u32 ((planF b i).getD m2 0)) ∧ w'.cell? ⟨g3, m7, none⟩ = some (.int .u32 ((planF b i).getD m7 0)) ∧ w'.cell? ⟨g3, m15, none⟩ = some (.int .u32 ((planF b i).getD m15 0)) ∧ w'.cell? ⟨g3, m16, none⟩ = some (.int .u32 ((planF b i).getD m16 0)) ∧ In3W w g1 g2 g3 178 207 207 .u8 .u32 .u32 b (List.replicate 64 0) (planF b i) i w' :=
            fun w' h => ⟨h.cell3 (by omega) (by omega), h.cell3 (by omega) (by omega), h.cell3 (by omega) (by omega), h.cell3 (by omega) (by omega), h⟩
          obtain ⟨⟨u0, hu0⟩, hf0⟩ := HW.at_ (by omega)
          rw [(hg m2 (by omega)).1, (hg m7 (by omega)).1, (hg m15 (by omega)).1, (hg m16 (by omega)).1] at HK
          have r2 := (hg m2 (by omega)).2
          have r7 := (hg m7 (by omega)).2
          have r15 := (hg m15 (by omega)).2
          have r16 := (hg m16 (by omega)).2
          obtain ⟨x2, hx2⟩ : ∃ a, (planTo b i).getD m2 0 = a := ⟨_, rfl⟩
          obtain ⟨x7, hx7⟩ : ∃ a, (planTo b i).getD m7 0 = a := ⟨_, rfl⟩
          obtain ⟨x15, hx15⟩ : ∃ a, (planTo b i).getD m15 0 = a := ⟨_, rfl⟩
          obtain ⟨x16, hx16⟩ : ∃ a, (planTo b i).getD m16 0 = a := ⟨_, rfl⟩
          rw [hx2, hx7, hx15, hx16] at HK hv
          rw [hx2] at r2
          rw [hx7] at r7
          rw [hx15] at r15
          rw [hx16] at r16
          obtain ⟨c0, c1, c2, c3, _⟩ := HK _ HW
          obtain ⟨y2, hy2⟩ : ∃ a, mix2 x2 = a := ⟨_, rfl⟩
          obtain ⟨y15, hy15⟩ : ∃ a, mix1 x15 = a := ⟨_, rfl⟩
          have k2 := mix2_in x2
          have k15 := mix1_in x15
          rw [hy2, hy15] at hv
          rw [hy2] at k2
          rw [hy15] at k15
          obtain ⟨t1, ht1⟩ : ∃ t, (y2 + x7) % 4294967296 = t := ⟨_, rfl⟩
          obtain ⟨t2, ht2⟩ : ∃ t, (t1 + y15) % 4294967296 = t := ⟨_, rfl⟩
          obtain ⟨t3, ht3⟩ : ∃ t, (t2 + x16) % 4294967296 = t := ⟨_, rfl⟩
          have hv3 : nextW (planTo b i) i = t3 := by rw [hv]; omega
          rw [hv3] at hsv
          have f1 : IntKind.u32.wrap (y2 + x7) = t1 := by rw [IntKind.wrap_u32]; exact ht1
          have f2 : IntKind.u32.wrap (t1 + y15) = t2 := by rw [IntKind.wrap_u32]; exact ht2
          have f3 : IntKind.u32.wrap (t2 + x16) = t3 := by rw [IntKind.wrap_u32]; exact ht3
          have HK' := Lib.hid HK
          have HSV := Lib.hid hsv
          have e2 : IntKind.i64.wrap ((i : Int) - 2) = (m2 : Int) := by rw [IntWalk.i64_in _ (by omega)]; omega
          have e7 : IntKind.i64.wrap ((i : Int) - 7) = (m7 : Int) := by rw [IntWalk.i64_in _ (by omega)]; omega
          have e15 : IntKind.i64.wrap ((i : Int) - 15) = (m15 : Int) := by rw [IntWalk.i64_in _ (by omega)]; omega
          have e16 : IntKind.i64.wrap ((i : Int) - 16) = (m16 : Int) := by rw [IntWalk.i64_in _ (by omega)]; omega
          have q0 : (0 : Int) ≤ (m2 : Int) ∧ (m2 : Int) < 64 := by omega
          have q1 : (0 : Int) ≤ (m7 : Int) ∧ (m7 : Int) < 64 := by omega
          have q2 : (0 : Int) ≤ (m15 : Int) ∧ (m15 : Int) < 64 := by omega
          have q3 : (0 : Int) ≤ (m16 : Int) ∧ (m16 : Int) < 64 := by omega
          have q4 : (0 : Int) ≤ (i : Int) ∧ (i : Int) < 64 := by omega
          have H2 := Lib.hid hy2
          have H15 := Lib.hid hy15
          clear HK hg hin hx2 hx7 hx15 hx16 hm2 hm7 hm15 hm16 hv hv3 hsv hpl HI ht1 ht2 ht3 hy2 hy15
          have HWd : In3W w g1 g2 g3 178 207 207 .u8 .u32 .u32 b (List.replicate 64 0) (planF b i) i wr.drew := by obtain ⟨u, hu⟩ := HW; exact ⟨u, hu.drew⟩
          go_wp2
          go_region_held3 (fun w' => w'.cell? ⟨g3, m2, none⟩ = some (.int .u32 x2) ∧ w'.cell? ⟨g3, m7, none⟩ = some (.int .u32 x7) ∧ w'.cell? ⟨g3, m15, none⟩ = some (.int .u32 x15) ∧ w'.cell? ⟨g3, m16, none⟩ = some (.int .u32 x16) ∧ In3W w g1 g2 g3 178 207 207 .u8 .u32 .u32 b (List.replicate 64 0) (planF b i) i w')
            (first | assumption | exact HK'.out _ HWd | (go_split_ands; exact HK'.out _ (HWd.again _)))
            (first
              | (go_at_call 150; (with_reducible refine (psecond_c x2 r2.1 r2.2 _).mono ?_); rw [H2.out]; rintro e w5 ⟨rfl, rfl⟩)
              | (go_at_call 151; (with_reducible refine (pfirst_c x15 r15.1 r15.2 _).mono ?_); rw [H15.out]; rintro e w5 ⟨rfl, rfl⟩))
          all_goals
            go_wp2
            go_roundw
            case rel => exact ⟨i + 1, by omega, by omega, by go_num, by rw [← HSV.out]; exact (HW.set_ _).drew⟩
            case measure => simp [intOf]; omega
        · rw [show ((i : Nat) : Int) = 64 by omega]
          obtain rfl : i = 64 := by omega
          rw [planF_full] at HI
          obtain ⟨h1, h2, h3, h4, h5, h6, h7⟩ := HI
          have hpl : (planL b).length = 64 := planTo_len b 64
          have HPL := Lib.hid hpl
          have H3 := Lib.hid h3
          have H2 := Lib.hid h2
          have hg2 : w.heap.size ≤ g2 := HG2.out
          clear hpl h1 h2 h3
          go_wp2_with (first
            | (with_reducible refine at_any ?_; refine at_dst 59 rfl ?_; refine wpList_load_ints rfl 207 (.tmp 3) rfl g3 rfl 207 .u32 (planL b) H3.out _ Tryz.underlying207 rfl (by rw [HPL.out]; exact size_plan) ?_)
            | (with_reducible refine at_any ?_; refine at_store 2 rfl ?_; refine wpList_store_ints rfl 207 (.tmp 2) (.tmp 59) rfl g2 rfl 207 .u32 (List.replicate 64 0) (planL b) H2.out rfl (by rw [HPL.out]; simp) (by rw [HPL.out]; exact size_plan) ?_; intro w9 hk9 hs9 hb9 ho9)
            | (refine bodyPost_cell 2 207 rfl g2 rfl 207 .u32 (planL b) hk9.out _ Tryz.underlying207 rfl (by rw [HPL.out]; exact size_plan) rfl ?_))
          rw [← hg1]
          exact h4.trans (hb9 _ hg2)
end
section
open Go.ChangeShapes Go.WideShapes Go.ChangeAt Go.RowKit
theorem cturned_c (x a b c : Int) (h0 : 0 ≤ x) (h1 : x < 4294967296) (a0 : 0 ≤ a) (a1 : a < 32) (b0 : 0 ≤ b) (b1 : b < 32) (c0 : 0 ≤ c) (c1 : c < 32) (w : World) :
    Calls Tryz.prog 156 #[.int .u32 x, .int .i64 a, .int .i64 b, .int .i64 c] w fun e w' => e = .returned (.int .u32 (turn3 x a b c)) ∧ w = w' := by
  unfold turn3
  go_enter Tryz.func156, Tryz.ntmps156
  go_wp2_with (go_at_call 154; (with_reducible refine (rotate_c _ _ (by omega) (by omega) (by omega) (by omega) _).mono ?_); rintro e _ ⟨rfl, rfl⟩)
  go_ret
  exact ⟨rfl, rfl⟩
theorem not_u32 (e : Int) (h0 : 0 ≤ e) (h1 : e < 4294967296) : bits .xor .u32 IntKind.u32.max e = 4294967295 - e := by
  obtain ⟨n, rfl⟩ := Int.eq_ofNat_of_zero_le h0
  have hn : n < 2 ^ 32 := by omega
  have e1 : (4294967295 : Nat) ^^^ n = 4294967295 - n := by
    have h := congrArg BitVec.toNat (BitVec.allOnes_xor (x := BitVec.ofNat 32 n))
    rw [BitVec.toNat_xor, BitVec.toNat_allOnes, BitVec.toNat_not, BitVec.toNat_ofNat, Nat.mod_eq_of_lt hn] at h
    exact h
  have e2 : IntKind.u32.max = ((4294967295 : Nat) : Int) := by decide
  rw [e2, u32_xor_nat _ _ (by omega) (by omega), e1]
  omega
theorem cchoice_c (e f g : Int) (e0 : 0 ≤ e) (e1 : e < 4294967296) (f0 : 0 ≤ f) (f1 : f < 4294967296) (g0 : 0 ≤ g) (g1 : g < 4294967296) (w : World) :
    Calls Tryz.prog 157 #[.int .u32 e, .int .u32 f, .int .u32 g] w fun r w' => r = .returned (.int .u32 (chW e f g)) ∧ w = w' := by
  unfold chW
  have hn := not_u32 e e0 e1
  rw [← hn]
  clear hn
  go_enter Tryz.func157, Tryz.ntmps157
  go_wp2
  go_ret
  exact ⟨rfl, rfl⟩
theorem cmajority_c (a b c : Int) (a0 : 0 ≤ a) (a1 : a < 4294967296) (b0 : 0 ≤ b) (b1 : b < 4294967296) (c0 : 0 ≤ c) (c1 : c < 4294967296) (w : World) :
    Calls Tryz.prog 158 #[.int .u32 a, .int .u32 b, .int .u32 c] w fun r w' => r = .returned (.int .u32 (majW a b c)) ∧ w = w' := by
  unfold majW
  go_enter Tryz.func158, Tryz.ntmps158
  go_wp2
  go_ret
  exact ⟨rfl, rfl⟩
def lowW (e f g : Int) : Int := (turn3 e 6 11 25 + chW e f g) % 4294967296
def uppW (a b c : Int) : Int := (turn3 a 2 13 22 + majW a b c) % 4294967296
theorem clower_c (e f g : Int) (e0 : 0 ≤ e) (e1 : e < 4294967296) (f0 : 0 ≤ f) (f1 : f < 4294967296) (g0 : 0 ≤ g) (g1 : g < 4294967296) (w : World) :
    Calls Tryz.prog 152 #[.int .u32 e, .int .u32 f, .int .u32 g] w fun r w' => r = .returned (.int .u32 (lowW e f g)) ∧ w = w' := by
  obtain ⟨v, hv⟩ : ∃ v, lowW e f g = v := ⟨_, rfl⟩
  rw [hv]
  unfold lowW at hv
  have c1 := fun W => cturned_c e 6 11 25 e0 e1 (by omega) (by omega) (by omega) (by omega) (by omega) (by omega) W
  have c2 := fun W => cchoice_c e f g e0 e1 f0 f1 g0 g1 W
  obtain ⟨y1, hy1⟩ : ∃ y, turn3 e 6 11 25 = y := ⟨_, rfl⟩
  obtain ⟨y2, hy2⟩ : ∃ y, chW e f g = y := ⟨_, rfl⟩
  rw [hy1] at c1 hv
  rw [hy2] at c2 hv
  have f9 : IntKind.u32.wrap (y1 + y2) = v := by rw [IntKind.wrap_u32]; exact hv
  have C1 := Lib.hid c1
  have C2 := Lib.hid c2
  clear hy1 hy2 hv c1 c2
  go_enter Tryz.func152, Tryz.ntmps152
  go_wp2_with (first
    | (go_at_call 156; (with_reducible refine (C1.out _).mono ?_); rintro r _ ⟨rfl, rfl⟩)
    | (go_at_call 157; (with_reducible refine (C2.out _).mono ?_); rintro r _ ⟨rfl, rfl⟩))
  go_ret
  exact ⟨rfl, rfl⟩
theorem cupper_c (e f g : Int) (e0 : 0 ≤ e) (e1 : e < 4294967296) (f0 : 0 ≤ f) (f1 : f < 4294967296) (g0 : 0 ≤ g) (g1 : g < 4294967296) (w : World) :
    Calls Tryz.prog 153 #[.int .u32 e, .int .u32 f, .int .u32 g] w fun r w' => r = .returned (.int .u32 (uppW e f g)) ∧ w = w' := by
  obtain ⟨v, hv⟩ : ∃ v, uppW e f g = v := ⟨_, rfl⟩
  rw [hv]
  unfold uppW at hv
  have c1 := fun W => cturned_c e 2 13 22 e0 e1 (by omega) (by omega) (by omega) (by omega) (by omega) (by omega) W
  have c2 := fun W => cmajority_c e f g e0 e1 f0 f1 g0 g1 W
  obtain ⟨y1, hy1⟩ : ∃ y, turn3 e 2 13 22 = y := ⟨_, rfl⟩
  obtain ⟨y2, hy2⟩ : ∃ y, majW e f g = y := ⟨_, rfl⟩
  rw [hy1] at c1 hv
  rw [hy2] at c2 hv
  have f9 : IntKind.u32.wrap (y1 + y2) = v := by rw [IntKind.wrap_u32]; exact hv
  have C1 := Lib.hid c1
  have C2 := Lib.hid c2
  clear hy1 hy2 hv c1 c2
  go_enter Tryz.func153, Tryz.ntmps153
  go_wp2_with (first
    | (go_at_call 156; (with_reducible refine (C1.out _).mono ?_); rintro r _ ⟨rfl, rfl⟩)
    | (go_at_call 158; (with_reducible refine (C2.out _).mono ?_); rintro r _ ⟨rfl, rfl⟩))
  go_ret
  exact ⟨rfl, rfl⟩
theorem cstart_c (w : World) : Calls Tryz.prog 129 #[] w fun e w' => e = .returned (.agg (intsA .u32 startL)) ∧ Below w.heap.size w w' := by
  have HL := Lib.hid (show Z8.length = startL.length from rfl)
  have HZ := Lib.hid (show (Tryz.prog.info? 172).map (·.size) = some startL.length from size_state)
  go_enter Tryz.func129, Tryz.ntmps129
  go_wp2_with (first
    | (with_reducible refine at_any ?_; refine at_dst 0 rfl ?_; refine wpList_alloc_ints rfl 172 rfl .u32 Z8 zero_state ?_; intro w2 hk2 hs2 hb2)
    | (with_reducible refine at_any ?_; refine at_store 0 rfl ?_; refine wpList_store_ints rfl 172 (.tmp 0) (.tmp 1) rfl w.heap.size rfl 172 .u32 Z8 startL hk2.out (by kernel_rfl) HL.out HZ.out ?_; intro w9 hk9 hs9 hb9 ho9)
    | (refine bodyPost_cell 0 172 rfl w.heap.size rfl 172 .u32 startL hk9.out _ Tryz.underlying172 rfl HZ.out rfl ?_))
  exact hb2.trans (hb9 _ (Nat.le_refl _))
theorem cconst_c (i : Int) (i0 : -9223372036854775808 ≤ i) (i1 : i ≤ 9223372036854775807) (w : World) (hk : Kst w) :
    Calls Tryz.prog 146 #[.int .i64 i] w fun e w' => e = .returned (.int .u32 (constN i)) ∧ w = w' := by
  unfold constN
  by_cases h : 0 ≤ i ∧ i ≤ 63
  · rw [if_pos h]
    obtain ⟨h0, h1⟩ := h
    have hc := hk.at_ i.toNat (by omega)
    obtain ⟨C, hC⟩ : ∃ C, constL.getD i.toNat 0 = C := ⟨_, rfl⟩
    rw [hC] at hc
    rw [hC]
    have f1 : IntKind.u64.wrap i = i := by rw [IntKind.wrap_u64]; omega
    have f2 : i < 64 := by omega
    clear hC hk
    go_enter Tryz.func146, Tryz.ntmps146
    go_wp2
    go_ret
    exact ⟨rfl, rfl⟩
  · rw [if_neg h]
    obtain ⟨u, hu⟩ : ∃ u, IntKind.u64.wrap i = u := ⟨_, rfl⟩
    have f2 : 64 ≤ u := by rw [IntKind.wrap_u64] at hu; omega
    clear h hk
    go_enter Tryz.func146, Tryz.ntmps146
    go_wp2
    go_ret
    exact ⟨rfl, rfl⟩
set_option maxHeartbeats 1000000 in
theorem cround_c (s : List Int) (W K : Int) (hl : s.length = 8) (hs : WIn s) (W0 : 0 ≤ W) (W1 : W < 4294967296) (K0 : 0 ≤ K) (K1 : K < 4294967296) (w : World) :
    Calls Tryz.prog 145 #[.agg (intsA .u32 s), .int .u32 W, .int .u32 K] w fun e w' => e = .returned (.agg (intsA .u32 (roundL s W K))) ∧ Below w.heap.size w w' := by
  have hr0 := hs.at_ 0
  have hr1 := hs.at_ 1
  have hr2 := hs.at_ 2
  have hr3 := hs.at_ 3
  have hr4 := hs.at_ 4
  have hr5 := hs.at_ 5
  have hr6 := hs.at_ 6
  have hr7 := hs.at_ 7
  obtain ⟨a, b, c, d, e, f, p, q, rfl⟩ : ∃ a b c d e f p q, s = [a, b, c, d, e, f, p, q] := ⟨_, _, _, _, _, _, _, _, list8 s hl⟩
  simp only [List.getD_cons_zero, List.getD_cons_succ] at hr0 hr1 hr2 hr3 hr4 hr5 hr6 hr7
  have c1 := fun W => clower_c e f p hr4.1 hr4.2 hr5.1 hr5.2 hr6.1 hr6.2 W
  have c2 := fun W => cupper_c a b c hr0.1 hr0.2 hr1.1 hr1.2 hr2.1 hr2.2 W
  obtain ⟨y1, hy1⟩ : ∃ y, lowW e f p = y := ⟨_, rfl⟩
  obtain ⟨u1, hy2⟩ : ∃ y, uppW a b c = y := ⟨_, rfl⟩
  rw [hy1] at c1
  rw [hy2] at c2
  unfold lowW at hy1
  unfold uppW at hy2
  obtain ⟨t1, ht1⟩ : ∃ t, (q + y1) % 4294967296 = t := ⟨_, rfl⟩
  obtain ⟨t2, ht2⟩ : ∃ t, (t1 + K) % 4294967296 = t := ⟨_, rfl⟩
  obtain ⟨t4, ht4⟩ : ∃ t, (t2 + W) % 4294967296 = t := ⟨_, rfl⟩
  have hres : roundL [a, b, c, d, e, f, p, q] W K = [(t4 + u1) % 4294967296, a, b, c, (d + t4) % 4294967296, e, f, p] := by
    have e1 : (q + turn3 e 6 11 25 + chW e f p + K + W) % 4294967296 = t4 := by omega
    simp only [roundL, List.getD_cons_zero, List.getD_cons_succ]
    rw [e1, hy2]
  rw [hres]
  obtain ⟨v0, hv0⟩ : ∃ t, (t4 + u1) % 4294967296 = t := ⟨_, rfl⟩
  obtain ⟨v4, hv4⟩ : ∃ t, (d + t4) % 4294967296 = t := ⟨_, rfl⟩
  rw [hv0, hv4]
  have f1 : IntKind.u32.wrap (q + y1) = t1 := by rw [IntKind.wrap_u32]; exact ht1
  have f2 : IntKind.u32.wrap (t1 + K) = t2 := by rw [IntKind.wrap_u32]; exact ht2
  have f4 : IntKind.u32.wrap (t2 + W) = t4 := by rw [IntKind.wrap_u32]; exact ht4
  have f6 : IntKind.u32.wrap (t4 + u1) = v0 := by rw [IntKind.wrap_u32]; exact hv0
  have f7 : IntKind.u32.wrap (d + t4) = v4 := by rw [IntKind.wrap_u32]; exact hv4
  have C1 := Lib.hid c1
  have C2 := Lib.hid c2
  clear hy1 hy2 ht1 ht2 ht4 hv0 hv4 hres hs hl c1 c2
  go_enter Tryz.func145, Tryz.ntmps145
  go_wp2_with (first
    | (with_reducible refine at_any ?_; refine at_dst 3 rfl ?_; refine wpList_box_ints rfl 172 (.tmp 0) rfl .u32 _ rfl ?_; intro w1 hk1 hs1 hb1)
    | (with_reducible refine at_any ?_; refine at_dst 6 rfl ?_; refine wpList_alloc_ints rfl 172 rfl .u32 Z8 zero_state ?_; intro w2 hk2 hs2 hb2))
  have HS : St2 w w.heap.size w1.heap.size [a, b, c, d, e, f, p, q] Z8 w2 := by
    have q1 := hs1.out
    exact ⟨hk1.out.below hb2 (by omega), hk2.out, hb1.trans (hb2.mono (by omega)), by omega, by omega⟩
  obtain ⟨g, hg⟩ : ∃ g, w.heap.size = g := ⟨_, rfl⟩
  obtain ⟨r, hr⟩ : ∃ g, w1.heap.size = g := ⟨_, rfl⟩
  have HW := Lib.hid hg
  rw [hg, hr] at HS
  rw [hg, hr]
  clear hk1 hs1 hb1 hk2 hs2 hb2 hg hr
  have HSd := HS.drew
  go_region_held3 (fun w' => w'.cell? ⟨g, 0, none⟩ = some (.int .u32 a) ∧ w'.cell? ⟨g, 1, none⟩ = some (.int .u32 b) ∧ w'.cell? ⟨g, 2, none⟩ = some (.int .u32 c) ∧ w'.cell? ⟨g, 3, none⟩ = some (.int .u32 d) ∧ w'.cell? ⟨g, 4, none⟩ = some (.int .u32 e) ∧ w'.cell? ⟨g, 5, none⟩ = some (.int .u32 f) ∧ w'.cell? ⟨g, 6, none⟩ = some (.int .u32 p) ∧ w'.cell? ⟨g, 7, none⟩ = some (.int .u32 q) ∧ St2 w g r [a, b, c, d, e, f, p, q] Z8 w')
    (first | assumption | exact HSd.cells)
    (fail)
  have HS6 := Lib.hid HSd.snd
  go_wp2_with (first
    | (go_at_call 152; (with_reducible refine (C1.out _).mono ?_); rintro e _ ⟨rfl, rfl⟩)
    | (go_at_call 153; (with_reducible refine (C2.out _).mono ?_); rintro e _ ⟨rfl, rfl⟩)
    | (with_reducible refine at_any ?_; refine at_store 6 rfl ?_; refine wpList_store_ints rfl 172 (.tmp 6) (.tmp 59) rfl r rfl 172 .u32 Z8 [v0, a, b, c, v4, e, f, p] HS6.out (by kernel_rfl) (Z8_len8 _ _ _ _ _ _ _ _) (size_state8 _ _ _ _ _ _ _ _) ?_; intro w9 hk9 hs9 hb9 ho9)
    | (refine bodyPost_cell 6 172 rfl r rfl 172 .u32 [v0, a, b, c, v4, e, f, p] hk9.out _ Tryz.underlying172 rfl (size_state8 _ _ _ _ _ _ _ _) rfl ?_))
  exact HSd.bel.trans (hb9 _ HSd.out)
end
section
open Go.ChangeShapes Go.WideShapes Go.ChangeAt Go.RowKit
theorem In3.store {w w' w'' : World} {g1 g2 g3 : Nat} {t1 t2 t3 : TypeId} {k1 k2 k3 : IntKind} {l1 l2 l3 y : List Int} (h : In3 w g1 g2 g3 t1 t2 t3 k1 k2 k3 l1 l2 l3 w') (hk : BlkI w'' g3 t3 k3 y) (hb : ∀ B, B ≤ g3 → Below B w' w'') (ho : ∀ j, j ≠ g3 → w''.heap[j]? = w'.heap[j]?) : In3 w g1 g2 g3 t1 t2 t3 k1 k2 k3 l1 l2 y w'' := by
  obtain ⟨h1, h2, h3, h4, h5, h6, h7⟩ := h
  exact ⟨h1.other ho h6, h2.other ho h7, hk, h4.trans (hb _ h5), h5, h6, h7⟩
theorem sums_comm (x s : List Int) (hx : x.length = 8) (hs : s.length = 8) : sums x s 8 = sums s x 8 := by
  obtain ⟨a, b, c, d, e, f, p, q, rfl⟩ : ∃ a b c d e f p q, s = [a, b, c, d, e, f, p, q] := ⟨_, _, _, _, _, _, _, _, list8 s hs⟩
  obtain ⟨a', b', c', d', e', f', p', q', rfl⟩ : ∃ a b c d e f p q, x = [a, b, c, d, e, f, p, q] := ⟨_, _, _, _, _, _, _, _, list8 x hx⟩
  simp [sums, Int.add_comm]
theorem index_plan (zs : List Int) (hl : zs.length = 64) (i : Int) (h0 : 0 ≤ i) (h1 : i ≤ 63) (w : World) : (Instr.index 207 (.agg (intsA .u32 zs)) (.int .i64 i)).run Tryz.prog w = .ok (.int .u32 (zs.getD i.toNat 0)) w := by
  obtain ⟨i0, hi, _, hs, _⟩ := info_parts info_u32c
  exact run_index_arr Tryz.underlying207 Tryz.underlying89 hi hs _ _ _ _ h0 (by omega) (intsA_at .u32 zs i.toNat (by omega)) w
def Tz (w : World) (g2 g4 g5 : Nat) (s z : List Int) (w' : World) : Prop := In3 w g2 g4 g5 172 172 172 .u32 .u32 .u32 s Z8 z w' ∧ Kst w' ∧ w.heap.size ≤ g2
def TzW (w : World) (g2 g4 g5 : Nat) (s : List Int) (w' : World) : Prop := ∃ z, Tz w g2 g4 g5 s z w'
section
variable {w w' w'' : World} {g2 g4 g5 : Nat} {s z : List Int}
theorem Tz.kst (h : Tz w g2 g4 g5 s z w') : Kst w' := h.2.1
theorem TzW.kst (h : TzW w g2 g4 g5 s w') : Kst w' := by obtain ⟨z, h⟩ := h; exact h.kst
theorem Tz.drew (h : Tz w g2 g4 g5 s z w') : Tz w g2 g4 g5 s z w'.drew := ⟨h.1.drew, h.2.1.drew, h.2.2⟩
theorem Tz.below (h : Tz w g2 g4 g5 s z w') (hb : Below w'.heap.size w' w'') : Tz w g2 g4 g5 s z w'' := ⟨h.1.below hb, h.2.1.below hb, h.2.2⟩
theorem Tz.store (h : Tz w g2 g4 g5 s z w') (hw : Kst w) {y : List Int} (hk : BlkI w'' g5 172 .u32 y) (hb : ∀ B, B ≤ g5 → Below B w' w'') (ho : ∀ j, j ≠ g5 → w''.heap[j]? = w'.heap[j]?) : Tz w g2 g4 g5 s y w'' := by
  have h1 := h.1.store hk hb ho
  exact ⟨h1, hw.below h1.bel, h.2.2⟩
end
set_option maxHeartbeats 2000000 in
theorem ctake_c (s b : List Int) (hl : s.length = 8) (hs : WIn s) (hbl : b.length = 64) (hb : ∀ z ∈ b, 0 ≤ z ∧ z < 256) (w : World) (hkst : Kst w) :
    Calls Tryz.prog 139 #[.agg (intsA .u32 s), .agg (intsA .u8 b)] w fun e w' => e = .returned (.agg (intsA .u32 (takeL s b))) ∧ Below w.heap.size w w' := by
  obtain ⟨X0, hx⟩ : ∃ x, rounds s b 64 = x := ⟨_, rfl⟩
  obtain ⟨R, hR⟩ : ∃ R, sums s X0 8 = R := ⟨_, rfl⟩
  have hxl := rounds_len s b hl 64
  rw [hx] at hxl
  rw [show takeL s b = R by rw [takeL, hx, sums_comm X0 s hxl hl, hR]]
  have HX := Lib.hid hx
  have HR := Lib.hid hR
  have HXL := Lib.hid hxl
  clear hx hR hxl
  have SZ := Lib.hid (sized s hl)
  have ZL := Lib.hid (show Z8.length = s.length by rw [hl]; rfl)
  have BS := Lib.hid (show (Tryz.prog.info? 178).map (·.size) = some b.length by rw [hbl]; kernel_rfl)
  have KW := Lib.hid hkst
  clear hkst
  have hix := fun W (i : Nat) (hi : i < 64) => index_plan (planL b) (planL_len b) (i : Int) (by omega) (by omega) W
  have co := fun W => pof_c b hbl hb W
  obtain ⟨PA, hPA⟩ : ∃ S, intsA .u32 (planL b) = S := ⟨_, rfl⟩
  rw [hPA] at hix co
  have CO := Lib.hid co
  have HIX := Lib.hid hix
  clear hix co
  go_enter Tryz.func139, Tryz.ntmps139
  go_wp2_with (first
    | (with_reducible refine at_any ?_; refine at_dst 2 rfl ?_; refine wpList_box_ints rfl 172 (.tmp 0) rfl .u32 s rfl ?_; intro w1 hk1 hs1 hb1)
    | (with_reducible refine at_any ?_; refine at_dst 3 rfl ?_; refine wpList_box_ints rfl 178 (.tmp 1) rfl .u8 b rfl ?_; intro w2 hk2 hs2 hb2; have hk1b := Lib.hid (hk1.out.below hb2 hk1.out.lt))
    | (with_reducible refine at_any ?_; refine at_dst 4 rfl ?_; refine wpList_alloc_ints rfl 172 rfl .u32 Z8 zero_state ?_; intro w3 hk3 hs3 hb3; have hk1c := Lib.hid (hk1b.out.below hb3 hk1b.out.lt); have hk2c := Lib.hid (hk2.out.below hb3 hk2.out.lt); have bl3 := Lib.hid (hb1.trans ((hb2.mono hb1.size).trans (hb3.mono (by have := hb1.size; have := hb2.size; omega)))))
    | (with_reducible refine at_any ?_; refine at_dst 9 rfl ?_; refine wpList_load_ints rfl 172 (.tmp 2) rfl w.heap.size rfl 172 .u32 s hk1c.out _ Tryz.underlying172 rfl SZ.out ?_)
    | (with_reducible refine at_any ?_; refine at_dst 5 rfl ?_; refine wpList_alloc_ints rfl 172 rfl .u32 Z8 zero_state ?_; intro w4 hk4 hs4 hb4; have hk1d := Lib.hid (hk1c.out.below hb4 hk1c.out.lt); have hk2d := Lib.hid (hk2c.out.below hb4 hk2c.out.lt); have hk3d := Lib.hid (hk3.out.below hb4 hk3.out.lt); have bl4 := Lib.hid (bl3.out.trans (hb4.mono bl3.out.size)))
    | (with_reducible refine at_any ?_; refine at_store 5 rfl ?_; refine wpList_store_ints rfl 172 (.tmp 5) (.tmp 9) rfl w3.heap.size rfl 172 .u32 Z8 s hk4.out rfl ZL.out SZ.out ?_; intro w5 hk5 hs5 hb5 ho5; have hk1e := Lib.hid (hk1d.out.below (hb5 _ (Nat.le_refl _)) hk1c.out.lt); have hk2e := Lib.hid (hk2d.out.below (hb5 _ (Nat.le_refl _)) hk2c.out.lt); have hk3e := Lib.hid (hk3d.out.below (hb5 _ (Nat.le_refl _)) hk3.out.lt); have bl5 := Lib.hid (bl4.out.trans (hb5 _ bl3.out.size)))
    | (with_reducible refine at_any ?_; refine at_dst 10 rfl ?_; refine wpList_load_ints rfl 178 (.tmp 3) rfl w1.heap.size rfl 178 .u8 b hk2e.out _ Tryz.underlying178 rfl BS.out ?_)
    | (go_at_call 144; (with_reducible refine (CO.out _).mono ?_); rintro e w6 ⟨rfl, hb6⟩))
  have HT : Tz w w.heap.size w2.heap.size w3.heap.size s (rounds s b 0) w6 := by
    have q1 := hk1c.out.lt
    have q3 := hk3.out.lt
    have q2 := hk3.out.lt
    have qa := hb1.size
    have qb := hb2.size
    have qc := hb3.size
    have h3 : In3 w w.heap.size w2.heap.size w3.heap.size 172 172 172 .u32 .u32 .u32 s Z8 s w6 := ⟨hk1e.out.below hb6 hk1e.out.lt, hk3e.out.below hb6 hk3e.out.lt, hk5.out.below hb6 hk5.out.lt, bl5.out.trans (hb6.mono bl5.out.size), bl3.out.size, by omega, by omega⟩
    exact ⟨h3, KW.out.below h3.bel, Nat.le_refl _⟩
  obtain ⟨g2, hg2⟩ : ∃ g, w.heap.size = g := ⟨_, rfl⟩
  obtain ⟨g4, hg4⟩ : ∃ g, w2.heap.size = g := ⟨_, rfl⟩
  obtain ⟨g5, hg5⟩ : ∃ g, w3.heap.size = g := ⟨_, rfl⟩
  have HG4 := Lib.hid (show w.heap.size ≤ g4 ∧ g2 ≠ g4 ∧ g2 ≠ g5 by have := hs1.out; have := hs2.out; have := hs3.out; omega)
  have HW := Lib.hid hg2
  rw [hg2, hg4, hg5] at HT
  rw [hg2, hg4, hg5]
  clear hk1 hs1 hb1 hk2 hs2 hb2 hk1b hk3 hs3 hb3 hk1c hk2c bl3 hk4 hs4 hb4 hk1d hk2d hk3d bl4 hk5 hs5 hb5 ho5 hk1e hk2e hk3e bl5 hb6 hg2 hg4 hg5 BS ZL CO
  go_loopw [12] (fun v wr => ∃ i : Nat, i ≤ 64 ∧ v = .int .i64 i ∧ Tz w g2 g4 g5 s (rounds s b i) wr) (fun v _ => 64 - (intOf v).toNat)
  case atStart => exact ⟨0, by omega, rfl, HT⟩
  case round =>
    clear HT
    obtain ⟨i, hi, rfl, HT⟩ := hrel
    by_cases hlt : i < 64
    · have hxl := rounds_len s b hl i
      have hxi := rounds_in s b hs i
      have hix := fun W => HIX.out W i hlt
      have ry := pw_in b hb i hlt
      rw [show (planL b).getD ((i : Int)).toNat 0 = pw b i by rfl] at hix
      obtain ⟨x, hx⟩ : ∃ x, rounds s b i = x := ⟨_, rfl⟩
      have hnx : rounds s b (i + 1) = roundL x (pw b i) (constN i) := by rw [rounds, hx]
      rw [hx] at hxl hxi HT
      obtain ⟨y, hy⟩ : ∃ y, pw b i = y := ⟨_, rfl⟩
      obtain ⟨k, hk⟩ : ∃ k, constN (i : Int) = k := ⟨_, rfl⟩
      have rk := constN_in (i : Int)
      rw [hy, hk] at hnx
      rw [hy] at hix ry
      rw [hk] at rk
      have d1 := fun W (h : Kst W) => cconst_c (i : Int) (by omega) (by omega) W h
      rw [hk] at d1
      have D1 := Lib.hid d1
      have D2 := Lib.hid (fun W => cround_c x y k hxl hxi ry.1 ry.2 rk.1 rk.2 W)
      have HXS := Lib.hid (sized x hxl)
      have HRS := Lib.hid (sized (roundL x y k) rfl)
      have HLL := Lib.hid (show x.length = (roundL x y k).length by rw [hxl]; rfl)
      have q0 : (0 : Int) ≤ (i : Int) ∧ (i : Int) < 64 := by omega
      have HNX := Lib.hid hnx
      have HTd := HT.drew
      clear hnx hx hy hk d1 hxl hxi rk ry
      go_wp2
      refine wp_region_held_drew (S := TzW w g2 g4 g5 s) (by kernel_rfl) (⟨_, HTd⟩) (fun hH => ?_)
      refine held_val 1 rfl (by kernel_rfl) (by kernel_rfl) (by kernel_rfl) (fun _ _ _ _ h => h) (by rfl) (.int .u32 y) (fun W h => by go_simp) hH ?_
      try simp only [Act.put, List.setIfInBounds_toArray, List.set_cons_zero, List.set_cons_succ]
      refine held_val 2 rfl (by kernel_rfl) (by kernel_rfl) (by kernel_rfl) (fun _ _ _ _ h => h) (by rfl) (.int .i64 (i : Int)) (fun W h => by go_simp) hH ?_
      try simp only [Act.put, List.setIfInBounds_toArray, List.set_cons_zero, List.set_cons_succ]
      refine wpAnyH_ready (rs := [0, 3]) (by kernel_rfl) (by decide) ?_
      refine AllReadyH.cons rfl (fun K hK => ?_) (AllReadyH.cons rfl (fun K hK => ?_) AllReadyH.nil)
      · refine step_load_ints (by rfl) 172 (.tmp 5) rfl g5 (by kernel_rfl) 172 .u32 x HTd.1.trd _ Tryz.underlying172 rfl HXS.out ?_
        refine hK.out _ _ hH (fun _ => ?_)
        clear hK K
        try simp only [Act.put, List.setIfInBounds_toArray, List.set_cons_zero, List.set_cons_succ]
        refine wpAnyH_ready (rs := [3]) (by kernel_rfl) (by decide) ?_
        refine AllReadyH.cons rfl (fun K hK => ?_) AllReadyH.nil
        go_simp
        refine (D1.out _ HTd.kst).mono ?_
        rintro e _ ⟨rfl, rfl⟩
        refine hK.out _ _ hH (fun _ => ?_)
        clear hK K
        try simp only [Act.put, List.setIfInBounds_toArray, List.set_cons_zero, List.set_cons_succ]
        refine wpAnyH_ready (rs := [4]) (by kernel_rfl) (by decide) ?_
        refine AllReadyH.cons rfl (fun K hK => ?_) AllReadyH.nil
        go_simp
        refine (D2.out _).mono ?_
        rintro e w9 ⟨rfl, hbw9⟩
        have h9 := HTd.below hbw9
        refine hK.out _ _ ⟨_, h9⟩ (fun _ => ?_)
        clear hK K
        try simp only [Act.put, List.setIfInBounds_toArray, List.set_cons_zero, List.set_cons_succ]
        refine held_store 5 rfl (by kernel_rfl) (by rfl) 172 (.tmp 5) (.tmp 20) rfl g5 (by kernel_rfl) 172 .u32 x (roundL x y k) (h9.1.trd) (by kernel_rfl) (HLL.out) (HRS.out) ?_
        intro w10 hkw10 hbw10 how10
        refine ⟨⟨_, h9.store KW.out hkw10.out hbw10 how10⟩, ?_⟩
        try simp only [Act.put, List.setIfInBounds_toArray, List.set_cons_zero, List.set_cons_succ]
        refine wpAnyH_done (by kernel_rfl) ?_ _
        have HN := Lib.hid (h9.store KW.out hkw10.out hbw10 how10)
        rw [← HNX.out] at HN
        go_wp2
        go_roundw
        case rel => exact ⟨i + 1, by omega, by go_num, HN.out⟩
        case measure => simp [intOf]; omega
      · go_simp
        refine (D1.out _ HTd.kst).mono ?_
        rintro e _ ⟨rfl, rfl⟩
        refine hK.out _ _ hH (fun _ => ?_)
        clear hK K
        try simp only [Act.put, List.setIfInBounds_toArray, List.set_cons_zero, List.set_cons_succ]
        refine wpAnyH_ready (rs := [0]) (by kernel_rfl) (by decide) ?_
        refine AllReadyH.cons rfl (fun K hK => ?_) AllReadyH.nil
        refine step_load_ints (by rfl) 172 (.tmp 5) rfl g5 (by kernel_rfl) 172 .u32 x HTd.1.trd _ Tryz.underlying172 rfl HXS.out ?_
        refine hK.out _ _ hH (fun _ => ?_)
        clear hK K
        try simp only [Act.put, List.setIfInBounds_toArray, List.set_cons_zero, List.set_cons_succ]
        refine wpAnyH_ready (rs := [4]) (by kernel_rfl) (by decide) ?_
        refine AllReadyH.cons rfl (fun K hK => ?_) AllReadyH.nil
        go_simp
        refine (D2.out _).mono ?_
        rintro e w9 ⟨rfl, hbw9⟩
        have h9 := HTd.below hbw9
        refine hK.out _ _ ⟨_, h9⟩ (fun _ => ?_)
        clear hK K
        try simp only [Act.put, List.setIfInBounds_toArray, List.set_cons_zero, List.set_cons_succ]
        refine held_store 5 rfl (by kernel_rfl) (by rfl) 172 (.tmp 5) (.tmp 20) rfl g5 (by kernel_rfl) 172 .u32 x (roundL x y k) (h9.1.trd) (by kernel_rfl) (HLL.out) (HRS.out) ?_
        intro w10 hkw10 hbw10 how10
        refine ⟨⟨_, h9.store KW.out hkw10.out hbw10 how10⟩, ?_⟩
        try simp only [Act.put, List.setIfInBounds_toArray, List.set_cons_zero, List.set_cons_succ]
        refine wpAnyH_done (by kernel_rfl) ?_ _
        have HN := Lib.hid (h9.store KW.out hkw10.out hbw10 how10)
        rw [← HNX.out] at HN
        go_wp2
        go_roundw
        case rel => exact ⟨i + 1, by omega, by go_num, HN.out⟩
        case measure => simp [intOf]; omega
    · rw [show ((i : Nat) : Int) = 64 by omega]
      obtain rfl : i = 64 := by omega
      have hxl := HXL.out
      rw [HX.out] at HT
      have HI : In3 w g5 g4 g2 172 172 172 .u32 .u32 .u32 X0 Z8 s wr := ⟨HT.1.trd, HT.1.snd, HT.1.fst, HT.1.bel, HT.2.2, Ne.symm HG4.out.2.2, Ne.symm HG4.out.2.1⟩
      clear HT hi hlt
      go_wp2
      go_loopw [22] (fun v wr => ∃ i : Nat, i ≤ 8 ∧ v = .int .i64 i ∧ In3 w g5 g4 g2 172 172 172 .u32 .u32 .u32 X0 Z8 (sums s X0 i) wr) (fun v _ => 8 - (intOf v).toNat)
      case atStart => exact ⟨0, by omega, rfl, HI⟩
      case round =>
        clear HI
        obtain ⟨i, hi, rfl, HI⟩ := hrel
        by_cases hlt : i < 8
        · have hsl := sums_len s X0 i
          have c6 := HI.trd.cell (j := i) (by omega)
          rw [sums_at s X0 i i (Nat.le_refl _)] at c6
          have f6 := HI.trd.frozen i
          have c2 := HI.fst.cell (j := i) (by omega)
          have HN := Lib.hid (HI.set_ i ((s.getD i 0 + X0.getD i 0) % 4294967296)).drew
          rw [← sums] at HN
          obtain ⟨y, hy⟩ : ∃ y, s.getD i 0 = y := ⟨_, rfl⟩
          obtain ⟨z, hz⟩ : ∃ z, X0.getD i 0 = z := ⟨_, rfl⟩
          obtain ⟨v, hv⟩ : ∃ v, (y + z) % 4294967296 = v := ⟨_, rfl⟩
          rw [hy] at c6
          rw [hz] at c2
          rw [hy, hz, hv] at HN
          have e1 : IntKind.u32.wrap (y + z) = v := by rw [IntKind.wrap_u32]; exact hv
          have q0 : (0 : Int) ≤ (i : Int) ∧ (i : Int) < 8 := by omega
          clear HI hy hz hv hsl
          go_wp2
          go_region
          all_goals
            go_wp2
            go_roundw
            case rel => exact ⟨i + 1, by omega, by go_num, HN.out⟩
            case measure => simp [intOf]; omega
        · rw [show ((i : Nat) : Int) = 8 by omega]
          obtain rfl : i = 8 := by omega
          have hsl := sums_len s X0 8
          rw [hl] at hsl
          have RZ := Lib.hid (sized (sums s X0 8) hsl)
          have RL := Lib.hid (show Z8.length = (sums s X0 8).length by rw [hsl]; rfl)
          have H6 := Lib.hid HI.trd
          have H4 := Lib.hid HI.snd
          have HB := Lib.hid HI.bel
          rw [HR.out] at RZ RL H6
          clear HI hi hlt hsl
          go_wp2_with (first
            | (with_reducible refine at_any ?_; refine at_dst 34 rfl ?_; refine wpList_load_ints rfl 172 (.tmp 2) rfl g2 rfl 172 .u32 R H6.out _ Tryz.underlying172 rfl RZ.out ?_)
            | (with_reducible refine at_any ?_; refine at_store 4 rfl ?_; refine wpList_store_ints rfl 172 (.tmp 4) (.tmp 34) rfl g4 rfl 172 .u32 Z8 R H4.out rfl RL.out RZ.out ?_; intro w9 hk9 hs9 hb9 ho9)
            | (refine bodyPost_cell 4 172 rfl g4 rfl 172 .u32 R hk9.out _ Tryz.underlying172 rfl RZ.out rfl ?_))
          first | exact HB.out.trans (hb9 _ HG4.out.1) | (rw [← HW.out]; exact HB.out.trans (hb9 _ HG4.out.1))
end
section
open Go.ChangeShapes Go.WideShapes Go.ChangeAt Go.RowKit
def RetG (w : World) (g : Nat) (V : Array Value) (e : Ending) (w' : World) : Prop := e = .returned (.tuple #[]) ∧ Blk w' g 187 V ∧ Only g w w'
set_option maxHeartbeats 1000000 in
theorem qtake_c (g : Nat) (A : Option Addr) (r c : Nat) (s b : List Int) (n : Int) (hl : s.length = 8) (hs : WIn s) (hbl : b.length = 64) (hb : ∀ z ∈ b, 0 ≤ z ∧ z < 256) (w : World) (hg : Blk w g 187 (wrV s A r c n)) (hkst : Kst w) :
    Calls Tryz.prog 133 #[.pointer (some ⟨g, 0, none⟩), .agg (intsA .u8 b)] w (RetG w g (wrV (takeL s b) A r c n)) := by
  have hyl := takeL_len s b hl
  have HC := Lib.hid (fun W => ctake_c s b hl hs hbl hb W)
  obtain ⟨y, hy⟩ : ∃ y, takeL s b = y := ⟨_, rfl⟩
  rw [hy] at hyl HC ⊢
  have HPU := Lib.hid (wrV_put s y hl hyl A r c n)
  have SS := Lib.hid (sized s hl)
  have SY := Lib.hid (show (Tryz.prog.info? 172).map (·.size) = some (intsA .u32 y).size by rw [intsA_size, hyl]; exact size_state)
  have SB := Lib.hid (show (Tryz.prog.info? 178).map (·.size) = some (b.map (Value.int .u8)).length by rw [List.length_map, hbl]; exact size_blk)
  have LY := Lib.hid (show (intsA .u32 y).size ≤ (wrV s A r c n).size by rw [intsA_size, hyl, wrV_size s hl]; omega)
  have OY := Lib.hid (all_oneCell_toArray (ints_one .u32 y))
  have HST := Lib.hid (fun W (h : Blk W g 187 (wrV s A r c n)) => wrV_range h)
  obtain ⟨V, hV⟩ : ∃ V, wrV s A r c n = V := ⟨_, rfl⟩
  rw [hV] at hg HPU LY HST
  have HG := Lib.hid hg
  have HK := Lib.hid hkst
  clear hV hy hl hs hbl hb hg hkst
  go_enter Tryz.func133, Tryz.ntmps133
  go_wp2_with (with_reducible refine at_any ?_; refine at_dst 3 rfl ?_; refine wpList_box_ints rfl 178 (.tmp 1) rfl .u8 b rfl ?_; intro w1 hk1 hs1 hb1)
  have HG1 := HG.out.below hb1 HG.out.lt
  have HO1 : Only g w w1 := Only.of_below hb1
  have HK1 := HK.out.below hb1
  have HB1 := hk1.out
  have hne : w.heap.size ≠ g := by have := HG.out.lt; omega
  obtain ⟨q, hq⟩ : ∃ q, w.heap.size = q := ⟨_, rfl⟩
  rw [hq] at HB1 hne
  rw [hq]
  clear hk1 hs1 hb1 hq
  refine wp_region_held_drew (S := LiesB q b) (by kernel_rfl) (HB1.drew) (fun hH => ?_)
  refine held_v 0 (some 4) rfl rfl (by kernel_rfl) (by kernel_rfl) (by kernel_rfl) (fun _ _ _ _ h => h) (by kernel_rfl) (.pointer (some ⟨g, 0, none⟩)) (fun W h => by go_simp) hH ?_
  try simp only [Act.put, List.setIfInBounds_toArray, List.set_cons_zero, List.set_cons_succ]
  refine held_v 1 (some 5) rfl rfl (by kernel_rfl) (by kernel_rfl) (by kernel_rfl) (fun _ _ _ _ h => h) (by kernel_rfl) (.pointer (some ⟨g, 0, none⟩)) (fun W h => by go_simp) hH ?_
  try simp only [Act.put, List.setIfInBounds_toArray, List.set_cons_zero, List.set_cons_succ]
  refine held_v 2 (some 6) rfl rfl (by kernel_rfl) (by kernel_rfl) (by kernel_rfl) (fun _ _ _ _ h => h) (by kernel_rfl) (.pointer (some ⟨g, 0, none⟩)) (fun W h => by go_simp) hH ?_
  try simp only [Act.put, List.setIfInBounds_toArray, List.set_cons_zero, List.set_cons_succ]
  refine held_v 3 (some 7) rfl rfl (by kernel_rfl) (by kernel_rfl) (by kernel_rfl) (fun _ _ _ _ h => h) (by kernel_rfl) (.pointer (some ⟨g, 0, none⟩)) (fun W h => by go_simp) hH ?_
  try simp only [Act.put, List.setIfInBounds_toArray, List.set_cons_zero, List.set_cons_succ]
  refine held_v 4 (some 8) rfl rfl (by kernel_rfl) (by kernel_rfl) (by kernel_rfl) (fun _ _ _ _ h => h) (by kernel_rfl) (.pointer (some ⟨g, 0, none⟩)) (fun W h => by go_simp) hH ?_
  try simp only [Act.put, List.setIfInBounds_toArray, List.set_cons_zero, List.set_cons_succ]
  refine held_load_at 6 (some 10) rfl rfl (by kernel_rfl) (by kernel_rfl) (by kernel_rfl) (fun _ _ _ _ h => h) (by kernel_rfl) 178 (.tmp 3) rfl q 0 (by kernel_rfl) (b.map (Value.int .u8)) (fun W h => blk_range h) _ Tryz.underlying178 rfl SB.out hH ?_
  try simp only [Act.put, List.setIfInBounds_toArray, List.set_cons_zero, List.set_cons_succ]
  refine wpAnyH_ready (rs := [5]) (by kernel_rfl) (by decide) ?_
  refine AllReadyH.cons rfl (fun K hK => ?_) AllReadyH.nil
  refine step_load_at (some 9) rfl (by kernel_rfl) 172 (.tmp 8) rfl g 0 (by kernel_rfl) (s.map (Value.int .u32)) (HST.out _ HG1.drew) _ Tryz.underlying172 rfl (by rw [List.length_map]; exact SS.out) ?_
  refine hK.out _ _ hH (fun _ => ?_)
  clear hK K
  try simp only [Act.put, List.setIfInBounds_toArray, List.set_cons_zero, List.set_cons_succ]
  refine wpAnyH_ready (rs := [7]) (by kernel_rfl) (by decide) ?_
  refine AllReadyH.cons rfl (fun K hK => ?_) AllReadyH.nil
  refine step_call (some 11) rfl (by kernel_rfl) _ _ (by kernel_rfl) _ (HC.out w1.drew HK1.drew) ?_
  rintro e w4 ⟨rfl, hb4⟩
  have HG4 := HG1.drew.below hb4 HG1.lt
  have hH4 : LiesB q b w4 := BlkI.below hH hb4 (BlkI.lt hH)
  have HO4 : Only g w w4 := HO1.trans (Only.of_below (w := w1.drew) hb4).of_drew
  refine ⟨_, rfl, ?_⟩
  refine hK.out _ _ hH4 (fun hH4 => ?_)
  clear hK K
  try simp only [Act.put, List.setIfInBounds_toArray, List.set_cons_zero, List.set_cons_succ]
  refine held_v 8 (some 12) rfl rfl (by kernel_rfl) (by kernel_rfl) (by kernel_rfl) (fun _ _ _ _ h => h) (by kernel_rfl) (.pointer (some ⟨g, 0, none⟩)) (fun W h => by go_simp) hH4 ?_
  try simp only [Act.put, List.setIfInBounds_toArray, List.set_cons_zero, List.set_cons_succ]
  refine held_v 9 (some 13) rfl rfl (by kernel_rfl) (by kernel_rfl) (by kernel_rfl) (fun _ _ _ _ h => h) (by kernel_rfl) (.pointer (some ⟨g, 0, none⟩)) (fun W h => by go_simp) hH4 ?_
  try simp only [Act.put, List.setIfInBounds_toArray, List.set_cons_zero, List.set_cons_succ]
  refine held_v 10 (some 14) rfl rfl (by kernel_rfl) (by kernel_rfl) (by kernel_rfl) (fun _ _ _ _ h => h) (by kernel_rfl) (.pointer (some ⟨g, 0, none⟩)) (fun W h => by go_simp) hH4 ?_
  try simp only [Act.put, List.setIfInBounds_toArray, List.set_cons_zero, List.set_cons_succ]
  refine wpAnyH_ready (rs := [11]) (by kernel_rfl) (by decide) ?_
  refine AllReadyH.cons rfl (fun K hK => ?_) AllReadyH.nil
  refine step_store_at none rfl (by kernel_rfl) 172 (.tmp 14) (.tmp 11) rfl g (by kernel_rfl) 187 V (intsA .u32 y) HG4 (by kernel_rfl) LY.out SY.out OY.out ?_
  intro w5 hk5 ho5
  have hH5 : LiesB q b w5 := Blk.only hH4 ho5 hne
  refine hK.out _ _ hH5 (fun _ => ?_)
  clear hK K
  try simp only [Act.put, List.setIfInBounds_toArray, List.set_cons_zero, List.set_cons_succ]
  refine wpAnyH_done (by kernel_rfl) ?_ _
  go_wp2
  go_end0
  exact ⟨rfl, by rw [← HPU.out]; exact hk5.out, HO4.trans ho5⟩
end
section
open Go.ChangeShapes Go.WideShapes Go.ChangeAt Go.RowKit
def rdV (s : Src) (A : Option Addr) (c : Nat) (b : List Int) (h : Bool) : Array Value := ([Value.int .i64 s.kind, .slice A s.tape.length c, .int .u64 s.bits] ++ (s.seed.map (Value.int .u8) ++ ([Value.int .u64 s.dom, .int .u64 s.at_] ++ (b.map (Value.int .u8) ++ [Value.bool h])))).toArray
theorem rdV_size (s : Src) (hl : s.seed.length = 32) (A : Option Addr) (c : Nat) (b : List Int) (hb : b.length = 32) (h : Bool) : (rdV s A c b h).size = 70 := by simp [rdV, hl, hb]
theorem rdV_ones (s : Src) (A : Option Addr) (c : Nat) (b : List Int) (h : Bool) : (rdV s A c b h).all (·.oneCell') = true := all_oneCell_toArray (by
  intro u hu
  simp only [List.mem_append, List.mem_cons, List.not_mem_nil, or_false, List.mem_map] at hu
  rcases hu with (h | h | h) | ⟨_, _, h⟩ | (h | h) | ⟨_, _, h⟩ | h <;> subst h <;> rfl)
theorem rdV_kind (s : Src) (A : Option Addr) (c : Nat) (b : List Int) (h : Bool) : (rdV s A c b h)[0]? = some (.int .i64 s.kind) := rfl
theorem rdV_tape (s : Src) (A : Option Addr) (c : Nat) (b : List Int) (h : Bool) : (rdV s A c b h)[1]? = some (.slice A s.tape.length c) := rfl
theorem rdV_dom (s : Src) (hl : s.seed.length = 32) (A : Option Addr) (c : Nat) (b : List Int) (h : Bool) : (rdV s A c b h)[35]? = some (.int .u64 s.dom) := by
  unfold rdV
  rw [List.getElem?_toArray, List.getElem?_append_right (by simp), List.getElem?_append_right (by simp [hl])]
  simp [hl]
theorem rdV_at (s : Src) (hl : s.seed.length = 32) (A : Option Addr) (c : Nat) (b : List Int) (h : Bool) : (rdV s A c b h)[36]? = some (.int .u64 s.at_) := by
  unfold rdV
  rw [List.getElem?_toArray, List.getElem?_append_right (by simp), List.getElem?_append_right (by simp [hl])]
  simp [hl]
theorem rdV_blk (s : Src) (hl : s.seed.length = 32) (A : Option Addr) (c : Nat) (b : List Int) (h : Bool) (j : Nat) (hj : j < b.length) : (rdV s A c b h)[37 + j]? = some (.int .u8 (b.getD j 0)) := by
  unfold rdV
  rw [List.getElem?_toArray, List.getElem?_append_right (by simp; omega), List.getElem?_append_right (by simp [hl]; omega), List.getElem?_append_right (by simp [hl]; omega)]
  simp only [List.length_cons, List.length_nil, List.length_map, hl]
  rw [List.getElem?_append_left (by simp; omega), List.getElem?_map, show 37 + j - (0 + 1 + 1 + 1) - 32 - (0 + 1 + 1) = j by omega, List.getElem?_eq_getElem hj, List.getD_eq_getElem?_getD, List.getElem?_eq_getElem hj]
  rfl
theorem rdV_hashed (s : Src) (hl : s.seed.length = 32) (A : Option Addr) (c : Nat) (b : List Int) (hb : b.length = 32) (h : Bool) : (rdV s A c b h)[69]? = some (.bool h) := by
  unfold rdV
  rw [List.getElem?_toArray, List.getElem?_append_right (by simp), List.getElem?_append_right (by simp [hl]), List.getElem?_append_right (by simp [hl]), List.getElem?_append_right (by simp [hl, hb])]
  simp [hl, hb]
theorem rdV_set36 (s : Src) (hl : s.seed.length = 32) (A : Option Addr) (c : Nat) (b : List Int) (h : Bool) (n : Int) : (rdV s A c b h).setIfInBounds 36 (.int .u64 n) = rdV (s.to n) A c b h := by
  unfold rdV Src.to
  rw [List.setIfInBounds_toArray]
  congr 1
  rw [List.set_append_right _ _ (by simp), List.set_append_right _ _ (by simp [hl])]
  simp [hl]
theorem rdV_set69 (s : Src) (hl : s.seed.length = 32) (A : Option Addr) (c : Nat) (b : List Int) (hb : b.length = 32) (h h' : Bool) : (rdV s A c b h).setIfInBounds 69 (.bool h') = rdV s A c b h' := by
  unfold rdV
  rw [List.setIfInBounds_toArray]
  congr 1
  rw [List.set_append_right _ _ (by simp), List.set_append_right _ _ (by simp [hl]), List.set_append_right _ _ (by simp [hl]), List.set_append_right _ _ (by simp [hl, hb])]
  simp [hl, hb]
theorem putAll_mid : ∀ (vs old pre post : List Value), vs.length = old.length → putAll (pre ++ (old ++ post)).toArray pre.length vs = (pre ++ (vs ++ post)).toArray
  | [], [], _, _, _ => rfl
  | [], _ :: _, _, _, h => by simp at h
  | _ :: _, [], _, _, h => by simp at h
  | v :: vs, o :: old, pre, post, h => by
    have ih := putAll_mid vs old (pre ++ [v]) post (by simpa using h)
    rw [putAll, List.setIfInBounds_toArray, List.set_append_right _ _ (Nat.le_refl _), Nat.sub_self]
    rw [show (o :: old ++ post).set 0 v = [v] ++ (old ++ post) from rfl, ← List.append_assoc]
    rw [List.length_append, List.length_singleton] at ih
    rw [ih]
    simp
theorem rdV_put (s : Src) (hl : s.seed.length = 32) (A : Option Addr) (c : Nat) (b y : List Int) (hb : b.length = 32) (hy : y.length = 32) (h : Bool) : putAll (rdV s A c b h) 37 (intsA .u8 y).toList = rdV s A c y h := by
  have hm := putAll_mid (y.map (Value.int .u8)) (b.map (Value.int .u8)) ([Value.int .i64 s.kind, .slice A s.tape.length c, .int .u64 s.bits] ++ (s.seed.map (Value.int .u8) ++ [Value.int .u64 s.dom, .int .u64 s.at_])) [Value.bool h] (by simp [hb, hy])
  rw [show ([Value.int .i64 s.kind, .slice A s.tape.length c, .int .u64 s.bits] ++ (s.seed.map (Value.int .u8) ++ [Value.int .u64 s.dom, .int .u64 s.at_])).length = 37 by simp [hl]] at hm
  unfold rdV intsA
  rw [List.append_assoc, List.append_assoc] at hm
  rw [List.append_assoc, List.append_assoc] at hm
  exact hm
theorem rdV_seed {w : World} {g : Nat} {t : TypeId} {s : Src} {A : Option Addr} {c : Nat} {b : List Int} {h : Bool} (hk : Blk w g t (rdV s A c b h)) : w.rangeAt g 3 (s.seed.map (Value.int .u8)) := by
  intro j v hv
  have hj : j < (s.seed.map (Value.int .u8)).length := by
    rcases Nat.lt_or_ge j (s.seed.map (Value.int .u8)).length with h1 | h1
    · exact h1
    · rw [List.getElem?_eq_none h1] at hv; cases hv
  rw [hk.cell]
  unfold rdV
  rw [List.getElem?_toArray, List.getElem?_append_right (by simp), show 3 + j - [Value.int .i64 s.kind, .slice A s.tape.length c, .int .u64 s.bits].length = j by simp, List.getElem?_append_left hj]
  exact hv
theorem rdV_src {w : World} {g : Nat} {t : TypeId} {s : Src} {A : Option Addr} {c : Nat} {b : List Int} {h : Bool} (hk : Blk w g t (rdV s A c b h)) : w.rangeAt g 0 (srcV s A c).toList := by
  intro j v hv
  rw [Nat.zero_add, hk.cell]
  have e : rdV s A c b h = ((srcV s A c).toList ++ (b.map (Value.int .u8) ++ [Value.bool h])).toArray := by simp [rdV, srcV]
  have hj : j < (srcV s A c).toList.length := by
    rcases Nat.lt_or_ge j (srcV s A c).toList.length with h1 | h1
    · exact h1
    · rw [List.getElem?_eq_none h1] at hv; cases hv
  rw [e, List.getElem?_toArray, List.getElem?_append_left hj]
  exact hv
theorem size_rdg : (Tryz.prog.info? 145).map (·.size) = some 70 := by kernel_rfl
theorem zero_rdg : ∀ W, (zeroValue 145).run Tryz.prog W = .ok (.agg (rdV Src.zero none 0 (List.replicate 32 0) false)) W := (zero_of_info (n := 70) (by kernel_rfl)).1
theorem sizedR (s : Src) (hl : s.seed.length = 32) (A : Option Addr) (c : Nat) (b : List Int) (hb : b.length = 32) (h : Bool) : (Tryz.prog.info? 145).map (·.size) = some (rdV s A c b h).size := by rw [rdV_size s hl A c b hb]; exact size_rdg
theorem run_build_rd (v0 v1 v2 v3 v4 v5 v6 v7 v8 v9 v10 v11 v12 v13 v14 v15 v16 v17 v18 v19 v20 v21 v22 v23 v24 v25 v26 v27 v28 v29 v30 v31 v32 v33 v34 v35 v36 : Value) (w : World) : (Instr.build 145 #[(0, .agg #[v0, v1, v2, v3, v4, v5, v6, v7, v8, v9, v10, v11, v12, v13, v14, v15, v16, v17, v18, v19, v20, v21, v22, v23, v24, v25, v26, v27, v28, v29, v30, v31, v32, v33, v34, v35, v36])]).run Tryz.prog w = .ok (.agg #[v0, v1, v2, v3, v4, v5, v6, v7, v8, v9, v10, v11, v12, v13, v14, v15, v16, v17, v18, v19, v20, v21, v22, v23, v24, v25, v26, v27, v28, v29, v30, v31, v32, v33, v34, v35, v36, .int .u8 0, .int .u8 0, .int .u8 0, .int .u8 0, .int .u8 0, .int .u8 0, .int .u8 0, .int .u8 0, .int .u8 0, .int .u8 0, .int .u8 0, .int .u8 0, .int .u8 0, .int .u8 0, .int .u8 0, .int .u8 0, .int .u8 0, .int .u8 0, .int .u8 0, .int .u8 0, .int .u8 0, .int .u8 0, .int .u8 0, .int .u8 0, .int .u8 0, .int .u8 0, .int .u8 0, .int .u8 0, .int .u8 0, .int .u8 0, .int .u8 0, .int .u8 0, .bool false]) w :=
  run_build w _ _ _ (by kernel_rfl)
theorem build_rd {a : Act} {o : Oper} {x : Operand} (w : World) (s : Src) (hl : s.seed.length = 32) (A : Option Addr) (c : Nat) (ho : o.op = .build 145 #[(0, x)]) (hx : a.eval x = .agg (srcV s A c)) :
    (execOp a.eval o).run Tryz.prog w = .ok (.value (.agg (rdV s A c (List.replicate 32 0) false))) w := by
  have hL := list32 s.seed hl
  unfold execOp
  simp only [ho, List.map_toArray, List.map_cons, List.map_nil, hx]
  change ((Instr.build 145 #[(0, .agg (srcV s A c))]) >>= fun v => pure (Next.value v)).run Tryz.prog w = _
  have h : (Instr.build 145 #[(0, .agg (srcV s A c))]).run Tryz.prog w = .ok (.agg (rdV s A c (List.replicate 32 0) false)) w := by
    unfold srcV rdV
    rw [hL]
    exact run_build_rd _ _ _ _ _ _ _ _ _ _ _ _ _ _ _ _ _ _ _ _ _ _ _ _ _ _ _ _ _ _ _ _ _ _ _ _ _ w
  simp only [Sem.run_bind, h, Result.andThen_ok, Sem.run_pure]
section
variable {P : Program} {w w' : World} {ops : Array Oper} {rest : List Oper} {o : Oper} {a : Act} {Q : Exit → Act → World → Prop}
theorem step_store_off {K : Act → World → Prop} {E : Prop} (d : Option Tmp) (hd : o.dst = d) (hw : Region.wanted o (yielded ops a.tmps) = true) (ty : TypeId) (x y : Operand) (ho : o.op = .store ty x y) (g off : Nat) (hx : a.eval x = .pointer (some ⟨g, off, none⟩)) (t : TypeId) (cs ys : Array Value) (hb : Blk w g t cs)
    (hy : a.eval y = .agg ys) (hl : off + ys.size ≤ cs.size) (hz : (P.info? ty).map (·.size) = some ys.size) (h1 : ys.all (·.oneCell') = true)
    (h : ∀ w', Hid (Blk w' g t (putAll cs off ys.toList)) → Only g w w' → K (a.put d undef) w') :
    if Region.wanted o (yielded ops a.tmps) = true then Oper.wp P o a w K Q else E := by
  subst hd
  rw [if_pos hw]
  exact wp_store_mid ty x y ho g off ys hx hy (hb.there off ys.size hl) hz h1 (h _ (Blk.setCells _ _ hb) (Only.setCells g _ _ _))
end
section
variable {P : Program} {ops : Array Oper} {Q : Exit → Act → World → Prop} {md : Region.Mode} {S : World → Prop} {fuel : Nat} {listed : Array Bool} {a : Act} {w : World}
theorem held_load_arr {oi : Oper} (i : Nat) (d : Option Tmp) (hi : ops[i]? = some oi) (hd : oi.dst = d) (hs : Region.noSelect ops = true) (hf : Region.free md ops listed i = true) (hr : (Region.ready md ops listed).contains i = true)
    (hQ2 : ∀ c a v w, Q (.panic c) (a.put oi.dst v) w → Q (.panic c) a w) (hw : Region.wanted oi (yielded ops a.tmps) = true)
    (ty : TypeId) (x : Operand) (ho : oi.op = .load ty x) (g off : Nat) (hx : a.eval x = .pointer (some ⟨g, off, none⟩)) (cs : Array Value) (hS : ∀ w, S w → w.rangeAt g off cs.toList)
    (ds : TypeDesc) (hu : P.underlying ty = some ds) (hdr : ds.isRow = true) (hz : (P.info? ty).map (·.size) = some cs.size) (hSw : S w)
    (h : wpAnyH P md ops Q S fuel (listed.setIfInBounds i true) (a.put d (.agg cs)) w) : wpAnyH P md ops Q S (fuel + 1) listed a w :=
  held_load_at i d hi hd hs hf hr hQ2 hw ty x ho g off hx cs.toList hS ds hu hdr (by rw [Array.length_toList]; exact hz) hSw h
end
def BkA (s : Src) (b : List Int) (h : Bool) : Prop := b.length = 32 ∧ (∀ z ∈ b, 0 ≤ z ∧ z < 256) ∧ (s.kind = 2 → h = true → s.at_ % 256 ≠ 0 → b = blkL s.seed s.dom (s.at_ / 256))
def BkB (s : Src) (b : List Int) : Prop := b.length = 32 ∧ (∀ z ∈ b, 0 ≤ z ∧ z < 256) ∧ (s.kind = 2 → b = blkL s.seed s.dom (s.at_ / 256))
theorem BkA.zero (s : Src) : BkA s (List.replicate 32 0) false := ⟨by simp, fun z hz => by rw [List.eq_of_mem_replicate hz]; omega, fun _ h => by cases h⟩
theorem BkB.next {s : Src} {b : List Int} {h : Bool} (hb : BkB s b) : BkA (s.to (s.at_ + 1)) b h := by
  refine ⟨hb.1, hb.2.1, fun hk _ hn => ?_⟩
  have h1 := hb.2.2 hk
  change (s.at_ + 1) % 256 ≠ 0 at hn
  rw [h1]
  show blkL s.seed s.dom (s.at_ / 256) = blkL s.seed s.dom ((s.at_ + 1) / 256)
  rw [show (s.at_ + 1) / 256 = s.at_ / 256 by omega]
def octS (s : Src) : Int := if s.kind = 2 then (blkL s.seed s.dom (s.at_ / 256)).getD (s.at_ % 256 / 8).toNat 0 else s.tape.getD (s.at_ / 8).toNat 0
theorem bitS_oct (s : Src) : bitS s s.at_ = octS s / 2 ^ (7 - s.at_ % 8).toNat % 2 := by
  unfold bitS octS bitN bytN
  split <;> rfl
def RetOct (w : World) (g : Nat) (s : Src) (A : Option Addr) (c : Nat) (e : Ending) (w' : World) : Prop := ∃ b h, e = .returned (.int .u8 (octS s)) ∧ Blk w' g 145 (rdV s A c b h) ∧ BkB s b ∧ Only g w w'
def RetNum (w : World) (g : Nat) (n : Int) (s : Src) (A : Option Addr) (c : Nat) (e : Ending) (w' : World) : Prop := ∃ b h, e = .returned (.int .u64 n) ∧ Blk w' g 145 (rdV s A c b h) ∧ BkA s b h ∧ Only g w w'
def RdS (g : Nat) (s : Src) (A : Option Addr) (c : Nat) (w : World) : Prop := ∃ b h, Blk w g 145 (rdV s A c b h) ∧ b.length = 32
section
variable {g : Nat} {s : Src} {A : Option Addr} {c : Nat} {w w' : World}
theorem RdS.kind (h : RdS g s A c w) : w.cell? ⟨g, 0, none⟩ = some (.int .i64 s.kind) := by obtain ⟨b, hh, hk, _⟩ := h; rw [hk.cell]; exact rdV_kind _ _ _ _ _
theorem RdS.tape (h : RdS g s A c w) : w.cell? ⟨g, 1, none⟩ = some (.slice A s.tape.length c) := by obtain ⟨b, hh, hk, _⟩ := h; rw [hk.cell]; exact rdV_tape _ _ _ _ _
theorem RdS.dom (h : RdS g s A c w) (hl : s.seed.length = 32) : w.cell? ⟨g, 35, none⟩ = some (.int .u64 s.dom) := by obtain ⟨b, hh, hk, _⟩ := h; rw [hk.cell]; exact rdV_dom _ hl _ _ _ _
theorem RdS.at_ (h : RdS g s A c w) (hl : s.seed.length = 32) : w.cell? ⟨g, 36, none⟩ = some (.int .u64 s.at_) := by obtain ⟨b, hh, hk, _⟩ := h; rw [hk.cell]; exact rdV_at _ hl _ _ _ _
theorem RdS.seed (h : RdS g s A c w) : w.rangeAt g 3 (s.seed.map (Value.int .u8)) := by obtain ⟨b, hh, hk, _⟩ := h; exact rdV_seed hk
theorem RdS.below (h : RdS g s A c w) (hb : Below w.heap.size w w') : RdS g s A c w' := by obtain ⟨b, hh, hk, hl⟩ := h; exact ⟨b, hh, hk.below hb hk.lt, hl⟩
theorem RdS.drew (h : RdS g s A c w) : RdS g s A c w.drew := h.below (Below.refl _ _).drew
end
end
section
open Go.ChangeShapes Go.WideShapes Go.ChangeAt Go.RowKit

end
section
open Go.ChangeShapes Go.WideShapes Go.ChangeAt Go.RowKit
theorem size_u8h : (Tryz.prog.info? 5).map (·.size) = some 1 := by kernel_rfl
theorem hashF_splice (l : List Int) (i : Nat) (h : i < 8) : splice (hashF l i 0) (4 * i) (put4L (l.getD i 0)) = hashF l (i + 1) 0 := by
  rw [← hashF_next]
  have e1 := backTo_len l i
  unfold splice hashF
  rw [List.take_append_of_le_length (by omega), List.take_of_length_le (by omega), List.drop_append, List.drop_eq_nil_of_le (by omega), List.nil_append, e1]
  simp [put4L]
  omega
theorem index_st8 (zs : List Int) (hl : zs.length = 8) (j : Nat) (hj : j < 8) (w : World) : (Instr.index 172 (.agg (intsA .u32 zs)) (.int .i64 j)).run Tryz.prog w = .ok (.int .u32 (zs.getD j 0)) w := by
  obtain ⟨i0, hi, _, hs, _⟩ := info_parts info_u32c
  refine run_index_arr Tryz.underlying172 Tryz.underlying89 hi hs _ _ _ _ (by omega) (by omega) ?_ w
  rw [Int.toNat_natCast]
  exact intsA_at _ _ _ (by omega)
set_option maxHeartbeats 1000000 in
theorem qjoined_c (l : List Int) (hl : l.length = 8) (hb : ∀ z ∈ l, 0 ≤ z ∧ z < 4294967296) (w : World) :
    Calls Tryz.prog 134 #[.agg (intsA .u32 l)] w fun e w' => e = .returned (.agg (intsA .u8 (hashL l))) ∧ Below w.heap.size w w' := by
  have HSW := Lib.hid (show (Tryz.prog.info? 172).map (·.size) = some l.length by rw [hl]; exact size_state)
  go_enter Tryz.func134, Tryz.ntmps134
  go_wp2_with (first
    | (with_reducible refine at_any ?_; refine at_dst 1 rfl ?_; refine wpList_box_ints rfl 172 (.tmp 0) rfl .u32 l rfl ?_; intro w1 hk1 hs1 hb1)
    | (with_reducible refine at_any ?_; refine at_dst 2 rfl ?_; refine wpList_alloc_ints rfl 38 rfl .u8 (List.replicate 32 0) zero_hash ?_; intro w2 hk2 hs2 hb2)
    | (with_reducible refine at_any ?_; refine at_dst 3 rfl ?_; refine wpList_alloc_ints rfl 38 rfl .u8 (List.replicate 32 0) zero_hash ?_; intro w3 hk3 hs3 hb3)
    | (with_reducible refine at_any ?_; refine at_dst 7 rfl ?_; refine wpList_load_ints rfl 172 (.tmp 1) rfl w.heap.size rfl 172 .u32 l ((hk1.out.below hb2 (by have := hs1.out; omega)).below hb3 (by have := hs1.out; have := hs2.out; omega)) _ Tryz.underlying172 rfl HSW.out ?_))
  have HI : In3 w w.heap.size w1.heap.size w2.heap.size 172 38 38 .u32 .u8 .u8 l (List.replicate 32 0) (hashF l 0 0) w3 := by
    rw [hashF_zero]
    have q1 := hs1.out
    have q2 := hs2.out
    have q3 := hs3.out
    exact ⟨(hk1.out.below hb2 (by omega)).below hb3 (by omega), hk2.out.below hb3 (by omega), hk3.out, hb1.trans ((hb2.mono (by omega)).trans (hb3.mono (by omega))), by omega, by omega, by omega⟩
  have HG : w.heap.size < w2.heap.size ∧ w1.heap.size < w2.heap.size := by have q1 := hs1.out; have q2 := hs2.out; omega
  obtain ⟨g1, hg1⟩ : ∃ g, w.heap.size = g := ⟨_, rfl⟩
  obtain ⟨g2, hg2⟩ : ∃ g, w1.heap.size = g := ⟨_, rfl⟩
  obtain ⟨g3, hg3⟩ : ∃ g, w2.heap.size = g := ⟨_, rfl⟩
  have HG2 := Lib.hid (show w.heap.size ≤ g2 by have := hb1.size; omega)
  rw [hg1, hg2, hg3] at HI HG
  rw [hg1, hg2, hg3]
  have HGH := Lib.hid HG
  clear hk1 hs1 hb1 hk2 hs2 hb2 hk3 hs3 hb3 HG
  go_loopw [8] (fun v wr => ∃ i : Nat, i ≤ 8 ∧ v = .int .i64 i ∧ In3 w g1 g2 g3 172 38 38 .u32 .u8 .u8 l (List.replicate 32 0) (hashF l i 0) wr) (fun v _ => 8 - (intOf v).toNat)
  case atStart => exact ⟨0, by omega, rfl, HI⟩
  case round =>
    clear HI
    obtain ⟨i, hi, rfl, HI⟩ := hrel
    by_cases hlt : i < 8
    · have hix := fun W => index_st8 l hl i hlt W
      have rx : 0 ≤ l.getD i 0 ∧ l.getD i 0 < 4294967296 := by
        have h : i < l.length := by omega
        simp [h]; exact hb _ (List.getElem_mem h)
      have hsp := hashF_splice l i hlt
      have hfl := hashF_len l i 0 (by omega) (by omega)
      obtain ⟨x, hx⟩ : ∃ x, l.getD i 0 = x := ⟨_, rfl⟩
      rw [hx] at hix rx hsp
      obtain ⟨p0, p1, p2, p3, hps⟩ : ∃ p0 p1 p2 p3, put4L x = [p0, p1, p2, p3] := ⟨_, _, _, _, rfl⟩
      have hput := fun W => put32_c x rx.1 rx.2 W
      have hp4 : put4 x = ((put4L x).map (Value.int .u8)).toArray := rfl
      rw [hp4, hps] at hput
      rw [hps] at hsp
      have HP := Lib.hid hput
      have HSP := Lib.hid hsp
      have HFL := Lib.hid hfl
      have HI' := Lib.hid HI
      obtain ⟨m, hm⟩ : ∃ m, 4 * i = m := ⟨_, rfl⟩
      have e0 : IntKind.i64.wrap (4 * (i : Int)) = (m : Int) := by rw [IntWalk.i64_in _ (by omega)]; omega
      have q0 : (0 : Int) ≤ (m : Int) := by omega
      have q1 : (m : Int) ≤ 32 := by omega
      have q2 : ¬ 32 = m := by omega
      have q3 : m + 4 ≤ 32 := by omega
      have i0 : (0 : Int) ≤ (i : Int) := by omega
      have i1 : (i : Int) < 8 := by omega
      rw [hm] at HSP
      clear hput hp4 hps hsp hfl hx HI hm
      go_wp2_with (go_at_call 140; (with_reducible refine (HP.out _).mono ?_); rintro e w4 ⟨rfl, hb4, _⟩)
      have HB5 := Lib.hid (BlkI.new w4 200 .u8 [p0, p1, p2, p3])
      have HI5 := Lib.hid ((HI'.out.below hb4).below ((Below.refl _ _).alloc (Nat.le_refl _) (Obj.cells (intsA .u8 [p0, p1, p2, p3]) 200)))
      obtain ⟨W5, hW5⟩ : ∃ W5, w4.alloc (Obj.cells #[.int .u8 p0, .int .u8 p1, .int .u8 p2, .int .u8 p3] 200) = W5 := ⟨_, rfl⟩
      have hW5' : w4.alloc (Obj.cells (intsA .u8 [p0, p1, p2, p3]) 200) = W5 := hW5
      rw [hW5'] at HB5 HI5
      rw [hW5]
      obtain ⟨g5, hg5⟩ : ∃ g, w4.heap.size = g := ⟨_, rfl⟩
      rw [hg5] at HB5 ⊢
      clear hW5 hW5' hg5 hb4 HI' rx HP hix
      go_region_law (refine step_dst 18 rfl ?_; refine step_copy_ints rfl (.tmp 16) (.tmp 17) 36 36 rfl 5 Tryz.underlying36 size_u8h (some ⟨g3, m, none⟩) (some ⟨g5, 0, none⟩) (32 - m) (32 - m) 4 4 (by kernel_rfl) (by kernel_rfl) g3 m .u8 _ 38 HI5.out.trd.drew 4 (by omega) _ [p0, p1, p2, p3] HB5.out.rd.drew (fun _ => rfl) (by rw [HFL.out]; omega) g3 W5.drew (Below.refl _ _) (Nat.le_refl _) ?_; intro w6 HK6 hb6)
      all_goals
        go_wp2
        go_roundw
        case rel =>
          have hk := HK6.out
          rw [HSP.out] at hk
          obtain ⟨h1, h2, h3, h4, h5, h6, h7⟩ := HI5.out
          exact ⟨i + 1, by omega, by go_num, h1.drew.below hb6 HGH.out.1, h2.drew.below hb6 HGH.out.2, hk, h4.trans (below_of_drew (hb6.mono h5)), h5, h6, h7⟩
        case measure => simp [intOf]; omega
    · rw [show ((i : Nat) : Int) = 8 by omega]
      obtain rfl : i = 8 := by omega
      rw [hashF_full] at HI
      obtain ⟨h1, h2, h3, h4, h5, h6, h7⟩ := HI
      have hpl : (hashL l).length = 32 := backTo_len l 8
      have HPL := Lib.hid hpl
      have H3 := Lib.hid h3
      have H2 := Lib.hid h2
      have hg2 : w.heap.size ≤ g2 := HG2.out
      clear hpl h1 h2 h3
      go_wp2_with (first
        | (with_reducible refine at_any ?_; refine at_dst 20 rfl ?_; refine wpList_load_ints rfl 38 (.tmp 3) rfl g3 rfl 38 .u8 (hashL l) H3.out _ Tryz.underlying38 rfl (by rw [HPL.out]; exact size_hash) ?_)
        | (with_reducible refine at_any ?_; refine at_store 2 rfl ?_; refine wpList_store_ints rfl 38 (.tmp 2) (.tmp 20) rfl g2 rfl 38 .u8 (List.replicate 32 0) (hashL l) H2.out rfl (by rw [HPL.out]; simp) (by rw [HPL.out]; exact size_hash) ?_; intro w9 hk9 hs9 hb9 ho9)
        | (refine bodyPost_cell 2 38 rfl g2 rfl 38 .u8 (hashL l) hk9.out _ Tryz.underlying38 rfl (by rw [HPL.out]; exact size_hash) rfl ?_))
      rw [← hg1]
      exact h4.trans (hb9 _ hg2)
end
section
open Go.ChangeShapes Go.WideShapes Go.ChangeAt Go.RowKit
theorem run_build_wg (s0 s1 s2 s3 s4 s5 s6 s7 : Int) (A : Option Addr) (r c : Nat) (n : Int) (w : World) :
    (Instr.build 187 #[(0, .agg #[.int .u32 s0, .int .u32 s1, .int .u32 s2, .int .u32 s3, .int .u32 s4, .int .u32 s5, .int .u32 s6, .int .u32 s7, .slice A r c, .int .u64 n])]).run Tryz.prog w = .ok (.agg #[.int .u32 s0, .int .u32 s1, .int .u32 s2, .int .u32 s3, .int .u32 s4, .int .u32 s5, .int .u32 s6, .int .u32 s7, .slice A r c, .int .u64 n]) w := by
  go_simp
theorem build_wg {a : Act} {o : Oper} {x : Operand} (w : World) (s : List Int) (hl : s.length = 8) (A : Option Addr) (r c : Nat) (n : Int) (ho : o.op = .build 187 #[(0, x)]) (hx : a.eval x = .agg (wrV s A r c n)) :
    (execOp a.eval o).run Tryz.prog w = .ok (.value (.agg (wrV s A r c n))) w := by
  obtain ⟨s0, s1, s2, s3, s4, s5, s6, s7, rfl⟩ : ∃ a b d e f p q u, s = [a, b, d, e, f, p, q, u] := ⟨_, _, _, _, _, _, _, _, list8 s hl⟩
  have h := run_build_wg s0 s1 s2 s3 s4 s5 s6 s7 A r c n w
  unfold execOp
  simp only [ho, List.map_toArray, List.map_cons, List.map_nil, hx]
  change ((Instr.build 187 #[(0, .agg #[.int .u32 s0, .int .u32 s1, .int .u32 s2, .int .u32 s3, .int .u32 s4, .int .u32 s5, .int .u32 s6, .int .u32 s7, .slice A r c, .int .u64 n])]) >>= fun v => pure (Next.value v)).run Tryz.prog w = _
  simp only [Sem.run_bind, h, Result.andThen_ok, Sem.run_pure]
  rfl
theorem size_sl : (Tryz.prog.info? 36).map (·.size) = some 1 := by kernel_rfl
def RetP (w : World) (s r : List Int) (n : Int) (e : Ending) (w' : World) : Prop := ∃ g A c, e = .returned (.pointer (some ⟨g, 0, none⟩)) ∧ Wrt w g A c s r n w'
set_option maxHeartbeats 1000000 in
theorem qbegin_c (s rest : List Int) (hl : s.length = 8) (A : Option Addr) (r c : Nat) (n : Int) (hr : r ≤ 64) (hrc : r ≤ c) (w : World) (hrd : Rd .u8 w w.heap.size A r rest) :
    Calls Tryz.prog 119 #[.agg (wrV s A r c n)] w (RetP w s rest n) := by
  obtain ⟨i0, hi, hz0, hz1, hzb⟩ := info_parts info_u8'
  have hmk : ∀ W, (Instr.makeSlice 36 (.int .i64 (r : Int)) (.int .i64 64)).run Tryz.prog W = .ok (.slice (some ⟨W.heap.size, 0, none⟩) r 64) (W.alloc (.cells (intsA .u8 (List.replicate 64 0)) 5)) := fun W => run_make_cap (P := Tryz.prog) 36 5 i0 .u8 Tryz.underlying36 hi hz0 hz1 hzb r 64 hr (by omega) W
  obtain ⟨L, hL⟩ : ∃ L : List Int, List.replicate 64 0 = L := ⟨_, rfl⟩
  have HLL := Lib.hid (show L.length = 64 by rw [← hL]; simp)
  rw [hL] at hmk
  have HC8 := Lib.hid (wrV_rest s hl A r c n)
  have HV8 := Lib.hid (fun A' => wrV_set8 s hl A A' r c r 64 n)
  have SV := Lib.hid (wrV_size s hl A r c n)
  have SW := Lib.hid (fun A' => sizedW s hl A' r 64 n)
  have HBG := Lib.hid (fun (a : Act) (o : Oper) (x : Operand) W A' => build_wg (a := a) (o := o) (x := x) W s hl A' r 64 n)
  have HRD := Lib.hid hrd
  have HLR := Lib.hid hrd.len
  obtain ⟨V, hV⟩ : ∃ V, wrV s A r c n = V := ⟨_, rfl⟩
  rw [hV] at HC8 HV8 SV ⊢
  clear hL hV hrd hi hz0 hz1 hzb
  go_enter Tryz.func119, Tryz.ntmps119
  go_wp2_with (first
    | (with_reducible refine at_any ?_; refine at_dst 1 rfl ?_; refine wpList_box_any rfl 174 (.tmp 0) rfl V rfl ?_; intro w1 hk1 hs1 hb1; have c8 := hk1.out.cell 8; rw [HC8.out] at c8; have d8 := (hk1.out.alloc (.cells (intsA .u8 L) 5)).cell 8; rw [HC8.out] at d8)
    | (with_reducible refine at_any ?_; refine at_dst 11 rfl ?_; refine wpList_copy_ints rfl (.tmp 8) (.tmp 10) 36 36 rfl 5 Tryz.underlying36 size_u8h _ _ _ _ _ _ rfl rfl w1.heap.size 0 .u8 L 5 (BlkI.new _ _ _ _) r (by omega) w.heap.size rest ((HRD.out.below hb1).alloc hb1.size _) (fun _ => rfl) (by rw [HLL.out]; omega) w1.heap.size w1 ((Below.refl _ _).alloc (Nat.le_refl _) _) (Nat.le_refl _) ?_; intro w7 HK7 hb7; have hk7 := Lib.hid (hk1.out.below hb7 hk1.out.lt); have bl7 := Lib.hid (hb1.trans (hb7.mono hb1.size)))
    | (with_reducible refine at_any ?_; refine at_store 13 rfl ?_; refine wpList_store_cell rfl 36 (.tmp 13) (.tmp 12) rfl w.heap.size 8 rfl 174 V hk7.out (.slice (some ⟨w1.heap.size, 0, none⟩) r 64) rfl (by rw [SV.out]; omega) size_sl rfl rfl ?_; intro w8 hk8 ho8; rw [HV8.out] at hk8)
    | (with_reducible refine at_any ?_; refine at_dst 14 rfl ?_; refine wpList_load_blk rfl 174 (.tmp 1) rfl w.heap.size rfl 174 (wrV s (some ⟨w1.heap.size, 0, none⟩) r 64 n) hk8.out _ Tryz.underlying174 rfl (SW.out _) ?_)
    | (with_reducible refine at_any ?_; refine at_dst 15 rfl ?_; refine wpList_val rfl (.agg (wrV s (some ⟨w1.heap.size, 0, none⟩) r 64 n)) (HBG.out _ _ _ _ _ rfl rfl) ?_)
    | (with_reducible refine at_any ?_; refine at_dst 16 rfl ?_; refine wpList_box_any rfl 187 (.tmp 15) rfl (wrV s (some ⟨w1.heap.size, 0, none⟩) r 64 n) rfl ?_; intro w9 hk9 hs9 hb9))
  go_ret
  have h1 : w.heap.size < w1.heap.size := by have := hs1.out; omega
  have hk8b : BlkI w8 w1.heap.size 5 .u8 (splice L 0 rest) := Blk.only HK7.out ho8 (by omega)
  have hk9b := hk8b.below hb9 hk8b.lt
  have bl8 : Below w.heap.size w w8 := bl7.out.trans (ho8.below (Nat.le_refl _) bl7.out.size)
  have hsl : (splice L 0 rest).length = 64 := by rw [length_splice _ _ _ (by rw [HLL.out, HLR.out]; omega), HLL.out]
  have hst : (splice L 0 rest).take rest.length = rest := by unfold splice; simp
  have hO : OwnI w9 w.heap.size 5 .u8 (.slice (some ⟨w1.heap.size, 0, none⟩) rest.length 64) rest := OwnI.of_blk hk9b (by omega) (by rw [HLR.out]; exact hr) (by simp [maxLen]) hsl hst
  refine ⟨w8.heap.size, some ⟨w1.heap.size, 0, none⟩, 64, rfl, ?_, hO, bl8.trans (hb9.mono bl8.size), bl8.size⟩
  rw [HLR.out]
  exact hk9.out
end
section
open Go.ChangeShapes Go.WideShapes Go.ChangeAt Go.RowKit
def RetTailR (w : World) (zs : List Int) (e : Ending) (w' : World) : Prop := ∃ A c, e = .returned (.tuple #[.slice A zs.length c, .bool true]) ∧ Rd .u8 w' w'.heap.size A zs.length zs ∧ zs.length ≤ c ∧ Below w.heap.size w w'
def RetCutR (w : World) (zs : List Int) (q L : Nat) (bs : List (List Int)) (e : Ending) (w' : World) : Prop :=
  ∃ A1 c1 A2 c2, e = .returned (.tuple #[.slice A1 bs.length c1, .slice A2 (L - 64 * q) c2]) ∧ RdA .u8 64 w' w'.heap.size A1 bs.length bs ∧ Rd .u8 w' w'.heap.size A2 (L - 64 * q) (zs.drop (64 * q)) ∧ L - 64 * q ≤ c2 ∧ Below w.heap.size w w'
end
section
open Go.ChangeShapes Go.WideShapes Go.ChangeAt Go.RowKit
theorem tail_cells (rest ps : List Int) (r z M : Nat) (hr : rest.length = r) (hp : ps.length = 8) (hM : r + 1 + z + 8 = M) :
    splice ((splice (List.replicate M 0) 0 rest).set r 128) (M - 8) ps = rest ++ 128 :: List.replicate z 0 ++ ps := by
  subst hr
  have e1 : splice (List.replicate M (0 : Int)) 0 rest = rest ++ 0 :: List.replicate (z + 8) 0 := by
    rw [← List.replicate_succ]
    simp [splice]; omega
  rw [e1, List.set_append_right _ _ (Nat.le_refl _), Nat.sub_self, List.set_cons_zero]
  have e2 : List.replicate (z + 8) (0 : Int) = List.replicate z 0 ++ List.replicate 8 0 := by rw [List.replicate_append_replicate]
  rw [e2, ← List.cons_append, ← List.append_assoc]
  unfold splice
  rw [List.take_append_of_le_length (by simp; omega), List.take_of_length_le (by simp; omega), List.drop_eq_nil_of_le (by simp; omega), List.append_nil]
def blocksN (n : Int) : Int := if 2305843009213693952 ≤ n then 0 else (n + 72) / 64
theorem size_u8 : (Tryz.prog.info? 5).map (·.size) = some 1 := by kernel_rfl
theorem pblocks_c (n : Int) (n0 : 0 ≤ n) (n1 : n < 18446744073709551616) (w : World) :
    Calls Tryz.prog 138 #[.int .u64 n] w fun e w' => e = .returned (.int .u64 (blocksN n)) ∧ w = w' := by
  unfold blocksN
  by_cases h : 2305843009213693952 ≤ n
  · rw [if_pos h]
    go_enter Tryz.func138, Tryz.ntmps138
    go_wp2
    go_ret
    exact ⟨rfl, rfl⟩
  · rw [if_neg h]
    have H := Lib.hid (show (n + 72) / 64 = (n + 8) / 64 + 1 by omega)
    go_enter Tryz.func138, Tryz.ntmps138
    go_wp2
    go_ret
    exact ⟨ret_int H.out.symm, rfl⟩
set_option maxHeartbeats 1000000 in
theorem ptail_a (A : Option Addr) (c r : Nat) (rest : List Int) (n : Int) (w : World) (hr : Rd .u8 w w.heap.size A r rest) (hc : r ≤ c) (n0 : 0 ≤ n) (n1 : n < 2305843009213693952) (hn : (r : Int) = n % 64) (hrz : r ≤ 55) :
    Calls Tryz.prog 131 #[.slice A r c, .int .u64 n] w (RetTailR w (tailL rest n)) := by
  obtain ⟨ps, hps⟩ : ∃ ps, put8L (8 * n) = ps := ⟨_, rfl⟩
  obtain ⟨p0, p1, p2, p3, p4, p5, p6, p7, rfl⟩ : ∃ p0 p1 p2 p3 p4 p5 p6 p7, ps = [p0, p1, p2, p3, p4, p5, p6, p7] := ⟨_, _, _, _, _, _, _, _, hps.symm⟩
  have hput := fun W => put64_c (n * 8) (by omega) (by omega) W
  rw [put8_list, show put8L (n * 8) = put8L (8 * n) by rw [Int.mul_comm], hps] at hput
  have htl : tailL rest n = rest ++ 128 :: List.replicate (zer r) 0 ++ [p0, p1, p2, p3, p4, p5, p6, p7] := by unfold tailL; rw [hr.len, hps]
  rw [htl]
  have HP := Lib.hid hput
  have hps8 : [p0, p1, p2, p3, p4, p5, p6, p7].length = 8 := rfl
  clear hput hps htl
  obtain ⟨ps, hps⟩ : ∃ ps, [p0, p1, p2, p3, p4, p5, p6, p7] = ps := ⟨_, rfl⟩
  rw [hps] at hps8 ⊢
  have HPS := Lib.hid hps
  have HP8 := Lib.hid hps8
  clear hps hps8
  obtain ⟨i0, hi, hz0, hz1, hzb⟩ := info_parts info_u8'
  have r1 : r < 64 := by omega
  have t1 : ((r : Int) != n % 64) = false := by rw [hn]; simp
  have hl := Lib.hid hr.len
  have hq : blocksN (n % 64) = if r ≤ 55 then 1 else 2 := by
    unfold blocksN
    rw [if_neg (by omega)]
    split <;> omega
  rw [if_pos hrz] at hq
  obtain ⟨zs, hzs⟩ : ∃ zs : List Int, List.replicate 64 0 = zs := ⟨_, rfl⟩
  have hmk : ∀ W, (Instr.makeSlice 36 (.int .u64 64) (.int .u64 64)).run Tryz.prog W = .ok (.slice (some ⟨W.heap.size, 0, none⟩) 64 64) (W.alloc (.cells (intsA .u8 (List.replicate 64 0)) 5)) := fun W => run_make_ints (P := Tryz.prog) 36 5 i0 .u8 Tryz.underlying36 hi hz0 hz1 .u64 .u64 64 (by rw [hzb]; decide) (by decide) W
  have hcells := tail_cells rest ps r (zer r) 64 hr.len HP8.out (by unfold zer; rw [if_pos hrz]; omega)
  have hlen : (rest ++ 128 :: List.replicate (zer r) 0 ++ ps).length = 64 := by
    rw [← hcells, length_splice, List.length_set, length_splice] <;> simp [hr.len, HP8.out, splice] <;> omega
  rw [hzs] at hmk hcells
  have hzl : zs.length = 64 := by rw [← hzs]; simp
  have HSL := Lib.hid (show (splice zs 0 rest).length = 64 by rw [length_splice _ _ _ (by rw [hzl, hr.len]; omega), hzl])
  have HZL := Lib.hid hzl
  have HQ := Lib.hid hq
  have HC := Lib.hid hcells
  have HLN := Lib.hid hlen
  have HR := Lib.hid hr
  clear hn hq hzl hzs hcells hlen hr
  obtain ⟨T, hT⟩ : ∃ T, rest ++ 128 :: List.replicate (zer r) 0 ++ ps = T := ⟨_, rfl⟩
  rw [hT] at HC HLN ⊢
  clear hT
  go_enter Tryz.func131, Tryz.ntmps131
  go_wp2_with (first
    | (go_at_call 138; (with_reducible refine (pblocks_c _ (by omega) (by omega) _).mono ?_); rw [HQ.out]; rintro e _ ⟨rfl, rfl⟩)
    | (with_reducible refine at_any ?_; refine at_dst 25 rfl ?_; refine wpList_copy_ints rfl (.tmp 23) (.tmp 24) 36 36 rfl 5 Tryz.underlying36 size_u8 _ _ _ _ _ _ rfl rfl w.heap.size 0 .u8 zs 5 (BlkI.new _ _ _ _) r (by omega) w.heap.size rest (HR.out.alloc (Nat.le_refl _) _) (fun _ => rfl) (by rw [HZL.out]; omega) w.heap.size w ((Below.refl _ _).alloc (Nat.le_refl _) _) (Nat.le_refl _) ?_; intro w1 HK1 hb1; have hlt1 := HK1.out.lt; have hc1 := HK1.out.cell (j := r) (by rw [HSL.out]; omega); have hf1 := HK1.out.frozen r; have HK2 := Lib.hid (HK1.out.set_ r 128); have HB2 := Lib.hid (hb1.setCell (p := ⟨w.heap.size, r, none⟩) (Nat.le_refl _) (.int .u8 128)))
    | (go_at_call 101; (with_reducible refine (HP.out _).mono ?_); rintro e w4 ⟨rfl, hb4, _⟩))
  have HK4 := Lib.hid ((HK2.out.below hb4 HK2.out.lt).alloc (Obj.cells #[.int .u8 p0, .int .u8 p1, .int .u8 p2, .int .u8 p3, .int .u8 p4, .int .u8 p5, .int .u8 p6, .int .u8 p7] 153))
  have HB4 := Lib.hid ((HB2.out.trans (hb4.mono HB2.out.size)).alloc (HB2.out.trans (hb4.mono HB2.out.size)).size (Obj.cells #[.int .u8 p0, .int .u8 p1, .int .u8 p2, .int .u8 p3, .int .u8 p4, .int .u8 p5, .int .u8 p6, .int .u8 p7] 153))
  have HP4 : Hid (BlkI (w4.alloc (Obj.cells #[.int .u8 p0, .int .u8 p1, .int .u8 p2, .int .u8 p3, .int .u8 p4, .int .u8 p5, .int .u8 p6, .int .u8 p7] 153)) w4.heap.size 153 .u8 ps) := by rw [← HPS.out]; exact BlkI.new w4 _ .u8 [p0, p1, p2, p3, p4, p5, p6, p7]
  obtain ⟨W5, hW5⟩ : ∃ W5, w4.alloc (Obj.cells #[.int .u8 p0, .int .u8 p1, .int .u8 p2, .int .u8 p3, .int .u8 p4, .int .u8 p5, .int .u8 p6, .int .u8 p7] 153) = W5 := ⟨_, rfl⟩
  rw [hW5] at HK4 HB4 HP4 ⊢
  obtain ⟨g5, hg5⟩ : ∃ g5, w4.heap.size = g5 := ⟨_, rfl⟩
  rw [hg5] at HP4 ⊢
  have HR5 : Hid (Rd .u8 W5 W5.heap.size (some ⟨g5, 0, none⟩) 8 ps) := by have := HP4.out.rd; rwa [HP8.out] at this
  clear hW5 hg5 hb4 hb1 HB2 HK2 HK1 hc1 hf1 hlt1 HP hmk
  have w56 : IntKind.i64.wrap 56 = 56 := by decide
  go_region_law (refine step_dst 39 rfl ?_; refine step_copy_ints rfl (.tmp 37) (.tmp 38) 36 36 rfl 5 Tryz.underlying36 size_u8 (some ⟨w.heap.size, 56, none⟩) (some ⟨g5, 0, none⟩) 8 8 8 8 (by kernel_rfl) (by kernel_rfl) w.heap.size 56 .u8 _ 5 HK4.out.drew 8 (by omega) _ ps HR5.out.drew (fun _ => rfl) (by rw [List.length_set, HSL.out]; omega) w.heap.size w HB4.out.drew (Nat.le_refl _) ?_; intro w6 HK6 hb6)
  all_goals
    go_wp2
    go_ret2
    have hk := HK6.out
    rw [HC.out] at hk
    have hrd := hk.rd
    rw [HLN.out] at hrd
    exact ⟨some ⟨w.heap.size, 0, none⟩, 64, by rw [HLN.out]; rfl, by rw [HLN.out]; exact hrd, by rw [HLN.out]; omega, hb6⟩
set_option maxHeartbeats 1000000 in
theorem ptail_b (A : Option Addr) (c r : Nat) (rest : List Int) (n : Int) (w : World) (hr : Rd .u8 w w.heap.size A r rest) (hc : r ≤ c) (n0 : 0 ≤ n) (n1 : n < 2305843009213693952) (hn : (r : Int) = n % 64) (hrz : ¬ r ≤ 55) :
    Calls Tryz.prog 131 #[.slice A r c, .int .u64 n] w (RetTailR w (tailL rest n)) := by
  obtain ⟨ps, hps⟩ : ∃ ps, put8L (8 * n) = ps := ⟨_, rfl⟩
  obtain ⟨p0, p1, p2, p3, p4, p5, p6, p7, rfl⟩ : ∃ p0 p1 p2 p3 p4 p5 p6 p7, ps = [p0, p1, p2, p3, p4, p5, p6, p7] := ⟨_, _, _, _, _, _, _, _, hps.symm⟩
  have hput := fun W => put64_c (n * 8) (by omega) (by omega) W
  rw [put8_list, show put8L (n * 8) = put8L (8 * n) by rw [Int.mul_comm], hps] at hput
  have htl : tailL rest n = rest ++ 128 :: List.replicate (zer r) 0 ++ [p0, p1, p2, p3, p4, p5, p6, p7] := by unfold tailL; rw [hr.len, hps]
  rw [htl]
  have HP := Lib.hid hput
  have hps8 : [p0, p1, p2, p3, p4, p5, p6, p7].length = 8 := rfl
  clear hput hps htl
  obtain ⟨ps, hps⟩ : ∃ ps, [p0, p1, p2, p3, p4, p5, p6, p7] = ps := ⟨_, rfl⟩
  rw [hps] at hps8 ⊢
  have HPS := Lib.hid hps
  have HP8 := Lib.hid hps8
  clear hps hps8
  obtain ⟨i0, hi, hz0, hz1, hzb⟩ := info_parts info_u8'
  have r1 : r < 64 := by omega
  have t1 : ((r : Int) != n % 64) = false := by rw [hn]; simp
  have hl := Lib.hid hr.len
  have hq : blocksN (n % 64) = if r ≤ 55 then 1 else 2 := by
    unfold blocksN
    rw [if_neg (by omega)]
    split <;> omega
  rw [if_neg hrz] at hq
  obtain ⟨zs, hzs⟩ : ∃ zs : List Int, List.replicate 128 0 = zs := ⟨_, rfl⟩
  have hmk : ∀ W, (Instr.makeSlice 36 (.int .u64 128) (.int .u64 128)).run Tryz.prog W = .ok (.slice (some ⟨W.heap.size, 0, none⟩) 128 128) (W.alloc (.cells (intsA .u8 (List.replicate 128 0)) 5)) := fun W => run_make_ints (P := Tryz.prog) 36 5 i0 .u8 Tryz.underlying36 hi hz0 hz1 .u64 .u64 128 (by rw [hzb]; decide) (by decide) W
  have hcells := tail_cells rest ps r (zer r) 128 hr.len HP8.out (by unfold zer; rw [if_neg hrz]; omega)
  have hlen : (rest ++ 128 :: List.replicate (zer r) 0 ++ ps).length = 128 := by
    rw [← hcells, length_splice, List.length_set, length_splice] <;> simp [hr.len, HP8.out, splice] <;> omega
  rw [hzs] at hmk hcells
  have hzl : zs.length = 128 := by rw [← hzs]; simp
  have HSL := Lib.hid (show (splice zs 0 rest).length = 128 by rw [length_splice _ _ _ (by rw [hzl, hr.len]; omega), hzl])
  have HZL := Lib.hid hzl
  have HQ := Lib.hid hq
  have HC := Lib.hid hcells
  have HLN := Lib.hid hlen
  have HR := Lib.hid hr
  clear hn hq hzl hzs hcells hlen hr
  obtain ⟨T, hT⟩ : ∃ T, rest ++ 128 :: List.replicate (zer r) 0 ++ ps = T := ⟨_, rfl⟩
  rw [hT] at HC HLN ⊢
  clear hT
  go_enter Tryz.func131, Tryz.ntmps131
  go_wp2_with (first
    | (go_at_call 138; (with_reducible refine (pblocks_c _ (by omega) (by omega) _).mono ?_); rw [HQ.out]; rintro e _ ⟨rfl, rfl⟩)
    | (with_reducible refine at_any ?_; refine at_dst 25 rfl ?_; refine wpList_copy_ints rfl (.tmp 23) (.tmp 24) 36 36 rfl 5 Tryz.underlying36 size_u8 _ _ _ _ _ _ rfl rfl w.heap.size 0 .u8 zs 5 (BlkI.new _ _ _ _) r (by omega) w.heap.size rest (HR.out.alloc (Nat.le_refl _) _) (fun _ => rfl) (by rw [HZL.out]; omega) w.heap.size w ((Below.refl _ _).alloc (Nat.le_refl _) _) (Nat.le_refl _) ?_; intro w1 HK1 hb1; have hlt1 := HK1.out.lt; have hc1 := HK1.out.cell (j := r) (by rw [HSL.out]; omega); have hf1 := HK1.out.frozen r; have HK2 := Lib.hid (HK1.out.set_ r 128); have HB2 := Lib.hid (hb1.setCell (p := ⟨w.heap.size, r, none⟩) (Nat.le_refl _) (.int .u8 128)))
    | (go_at_call 101; (with_reducible refine (HP.out _).mono ?_); rintro e w4 ⟨rfl, hb4, _⟩))
  have HK4 := Lib.hid ((HK2.out.below hb4 HK2.out.lt).alloc (Obj.cells #[.int .u8 p0, .int .u8 p1, .int .u8 p2, .int .u8 p3, .int .u8 p4, .int .u8 p5, .int .u8 p6, .int .u8 p7] 153))
  have HB4 := Lib.hid ((HB2.out.trans (hb4.mono HB2.out.size)).alloc (HB2.out.trans (hb4.mono HB2.out.size)).size (Obj.cells #[.int .u8 p0, .int .u8 p1, .int .u8 p2, .int .u8 p3, .int .u8 p4, .int .u8 p5, .int .u8 p6, .int .u8 p7] 153))
  have HP4 : Hid (BlkI (w4.alloc (Obj.cells #[.int .u8 p0, .int .u8 p1, .int .u8 p2, .int .u8 p3, .int .u8 p4, .int .u8 p5, .int .u8 p6, .int .u8 p7] 153)) w4.heap.size 153 .u8 ps) := by rw [← HPS.out]; exact BlkI.new w4 _ .u8 [p0, p1, p2, p3, p4, p5, p6, p7]
  obtain ⟨W5, hW5⟩ : ∃ W5, w4.alloc (Obj.cells #[.int .u8 p0, .int .u8 p1, .int .u8 p2, .int .u8 p3, .int .u8 p4, .int .u8 p5, .int .u8 p6, .int .u8 p7] 153) = W5 := ⟨_, rfl⟩
  rw [hW5] at HK4 HB4 HP4 ⊢
  obtain ⟨g5, hg5⟩ : ∃ g5, w4.heap.size = g5 := ⟨_, rfl⟩
  rw [hg5] at HP4 ⊢
  have HR5 : Hid (Rd .u8 W5 W5.heap.size (some ⟨g5, 0, none⟩) 8 ps) := by have := HP4.out.rd; rwa [HP8.out] at this
  clear hW5 hg5 hb4 hb1 HB2 HK2 HK1 hc1 hf1 hlt1 HP hmk
  have w120 : IntKind.i64.wrap 120 = 120 := by decide
  go_region_law (refine step_dst 39 rfl ?_; refine step_copy_ints rfl (.tmp 37) (.tmp 38) 36 36 rfl 5 Tryz.underlying36 size_u8 (some ⟨w.heap.size, 120, none⟩) (some ⟨g5, 0, none⟩) 8 8 8 8 (by kernel_rfl) (by kernel_rfl) w.heap.size 120 .u8 _ 5 HK4.out.drew 8 (by omega) _ ps HR5.out.drew (fun _ => rfl) (by rw [List.length_set, HSL.out]; omega) w.heap.size w HB4.out.drew (Nat.le_refl _) ?_; intro w6 HK6 hb6)
  all_goals
    go_wp2
    go_ret2
    have hk := HK6.out
    rw [HC.out] at hk
    have hrd := hk.rd
    rw [HLN.out] at hrd
    exact ⟨some ⟨w.heap.size, 0, none⟩, 128, by rw [HLN.out]; rfl, by rw [HLN.out]; exact hrd, by rw [HLN.out]; omega, hb6⟩
theorem ptail_c (A : Option Addr) (c r : Nat) (rest : List Int) (n : Int) (w : World) (hr : Rd .u8 w w.heap.size A r rest) (hc : r ≤ c) (n0 : 0 ≤ n) (n1 : n < 2305843009213693952) (hn : (r : Int) = n % 64) :
    Calls Tryz.prog 131 #[.slice A r c, .int .u64 n] w (RetTailR w (tailL rest n)) := by
  by_cases hrz : r ≤ 55
  · exact ptail_a A c r rest n w hr hc n0 n1 hn hrz
  · exact ptail_b A c r rest n w hr hc n0 n1 hn hrz
end
section
open Go.ChangeShapes Go.WideShapes Go.ChangeAt Go.RowKit
def cutL (zs : List Int) (q j : Nat) : List Int := zs.take (64 * j) ++ List.replicate (64 * (q - j)) 0
theorem cutL_len (zs : List Int) (q j : Nat) (hj : j ≤ q) (hz : 64 * q ≤ zs.length) : (cutL zs q j).length = q * 64 := by
  simp [cutL]; omega
theorem cutL_zero (zs : List Int) (q : Nat) : List.replicate (q * 64) 0 = cutL zs q 0 := by simp [cutL, Nat.mul_comm]
theorem cutL_full (zs : List Int) (q : Nat) : cutL zs q q = zs.take (64 * q) := by simp [cutL]
theorem cutL_next (zs : List Int) (q j : Nat) (hj : j < q) (hz : 64 * q ≤ zs.length) : splice (cutL zs q j) (j * 64) ((zs.drop (64 * j)).take 64) = cutL zs q (j + 1) := by
  have e1 : (zs.take (64 * j)).length = j * 64 := by rw [List.length_take]; omega
  have e2 : ((zs.drop (64 * j)).take 64).length = 64 := by rw [List.length_take, List.length_drop]; omega
  have e3 : zs.take (64 * (j + 1)) = zs.take (64 * j) ++ (zs.drop (64 * j)).take 64 := by rw [Nat.mul_add, Nat.mul_one, List.take_add]
  rw [show cutL zs q (j + 1) = zs.take (64 * j) ++ (zs.drop (64 * j)).take 64 ++ List.replicate (64 * (q - (j + 1))) 0 by unfold cutL; rw [e3]]
  obtain ⟨x, hx⟩ : ∃ x, (zs.drop (64 * j)).take 64 = x := ⟨_, rfl⟩
  obtain ⟨h, hh⟩ : ∃ h, zs.take (64 * j) = h := ⟨_, rfl⟩
  unfold splice cutL
  rw [hh] at e1 ⊢
  rw [hx] at e2 ⊢
  rw [e2, List.take_append_of_le_length (by omega), List.take_of_length_le (by omega), List.drop_append, List.drop_eq_nil_of_le (by omega), List.nil_append, List.drop_replicate, List.append_assoc, e1]
  congr 3
  omega
theorem splice_all (L cs : List Int) (h : L.length = cs.length) : splice L 0 cs = cs := by
  unfold splice
  rw [List.take_zero, List.nil_append, Nat.zero_add, List.drop_eq_nil_of_le (by omega), List.append_nil]
theorem cutN_flat (zs : List Int) (q : Nat) : (cutN zs q).flatten = zs.take (64 * q) := by
  induction q with
  | zero => simp [cutN]
  | succ q ih =>
    rw [show cutN zs (q + 1) = cutN zs q ++ [(zs.drop (64 * q)).take 64] by unfold cutN; rw [List.range_succ, List.map_append]; rfl, List.flatten_append, ih, Nat.mul_add, Nat.mul_one, List.take_add]
    simp
theorem cutN_len (zs : List Int) (q : Nat) (hz : 64 * q ≤ zs.length) : ∀ x ∈ cutN zs q, x.length = 64 := by
  intro x hx
  unfold cutN at hx
  obtain ⟨i, hi, rfl⟩ := List.mem_map.1 hx
  have := List.mem_range.1 hi
  rw [List.length_take, List.length_drop]
  omega
set_option maxHeartbeats 1000000 in
theorem pcut_c (A : Option Addr) (c L : Nat) (zs : List Int) (w : World) (hr : Rd .u8 w w.heap.size A L zs) (hc : L ≤ c) (hL : L ≤ 1000000) :
    Calls Tryz.prog 132 #[.slice A L c] w (RetCutR w zs (L / 64) L (cutN zs (L / 64))) := by
  obtain ⟨i0, hi, hz0, hz1, hzb⟩ := info_parts info_u8'
  obtain ⟨i1, hi1, hy0, hy1, hyb⟩ := info_parts info_a64
  obtain ⟨q, hq⟩ : ∃ q, L / 64 = q := ⟨_, rfl⟩
  rw [hq]
  have hqI : (L : Int) / 64 = (q : Int) := by omega
  have hq1 : 64 * q ≤ L := by omega
  have hq2 : L < 64 * q + 64 := by omega
  obtain ⟨k, hk⟩ : ∃ k, L - 64 * q = k := ⟨_, rfl⟩
  have hkI : (L : Int) % 64 = (k : Int) := by omega
  have hmk : ∀ W, (Instr.makeSlice 192 (.int .i64 (q : Int)) (.int .i64 (q : Int))).run Tryz.prog W = .ok (.slice (some ⟨W.heap.size, 0, none⟩) q q) (W.alloc (.cells (intsA .u8 (List.replicate (q * 64) 0)) 178)) := fun W => run_make_arrs (P := Tryz.prog) 192 178 i1 .u8 64 (by omega) Tryz.underlying192 hi1 hy0 hy1 .i64 .i64 q (by rw [hyb]; omega) (by omega) W
  rw [cutL_zero zs] at hmk
  have hmk2 : ∀ W, (Instr.makeSlice 36 (.int .i64 (k : Int)) (.int .i64 (k : Int))).run Tryz.prog W = .ok (.slice (some ⟨W.heap.size, 0, none⟩) k k) (W.alloc (.cells (intsA .u8 (List.replicate k 0)) 5)) := fun W => run_make_ints (P := Tryz.prog) 36 5 i0 .u8 Tryz.underlying36 hi hz0 hz1 .i64 .i64 k (by rw [hzb]; omega) (by omega) W
  obtain ⟨ks, hks⟩ : ∃ ks : List Int, List.replicate k 0 = ks := ⟨_, rfl⟩
  rw [hks] at hmk2
  have HKS := Lib.hid hks
  have hlen := Lib.hid hr.len
  have HR := Lib.hid hr
  have HK := Lib.hid hk
  clear hq hks hr hk
  go_enter Tryz.func132, Tryz.ntmps132
  go_wp2
  go_loopw [13] (fun a wr => ∃ j : Nat, j ≤ q ∧ a = .int .i64 j ∧ BlkI wr w.heap.size 178 .u8 (cutL zs q j) ∧ Below w.heap.size w wr) (fun a _ => q - (intOf a).toNat)
  case atStart => exact ⟨0, by omega, rfl, BlkI.new _ _ _ _, (Below.refl _ _).alloc (Nat.le_refl _) _⟩
  case round =>
    obtain ⟨j, hj, rfl, hblk, hb⟩ := hrel
    by_cases hlt : j < q
    · obtain ⟨m, hm⟩ : ∃ m, 64 * j = m := ⟨_, rfl⟩
      have e64 : IntKind.i64.wrap ((j : Int) * 64) = (m : Int) := by rw [IntWalk.i64_in _ (by omega)]; omega
      have m0 : (0 : Int) ≤ (m : Int) := by omega
      have m1 : (m : Int) ≤ (L : Int) := by omega
      have m2 : m + 64 ≤ L := by omega
      have m3 : ¬ c = m := by omega
      have j0 : (0 : Int) ≤ (j : Int) := by omega
      have j1 : (j : Int) < (q : Int) := by omega
      have hsrc := ((HR.out.below hb).from_ (i := m) (by omega) hc).upto (j := 64) (by omega)
      rw [if_neg m3] at hsrc
      obtain ⟨b0, off, rfl, hb0, _⟩ := HR.out.at_ (by omega)
      rw [Option.map_some, Nat.mul_one, add_flat] at hsrc
      have hnx := cutL_next zs q j hlt (by rw [hlen.out]; exact hq1)
      rw [hm] at hnx
      obtain ⟨x, hx⟩ : ∃ x, (zs.drop m).take 64 = x := ⟨_, rfl⟩
      rw [hx] at hnx hsrc
      have hcl := cutL_len zs q j hj (by rw [hlen.out]; exact hq1)
      have HNX := Lib.hid hnx
      have HCL := Lib.hid hcl
      have HSR := Lib.hid hsrc
      have HBL := Lib.hid hblk
      have HB := Lib.hid hb
      clear hnx hcl hsrc hblk hx hm hb
      go_wp2
      go_region_law (refine step_dst 24 rfl ?_; refine step_copy_ints rfl (.tmp 19) (.tmp 23) 36 36 rfl 5 Tryz.underlying36 size_u8 (some ⟨w.heap.size, j * 64, none⟩) (some ⟨b0, off + m, none⟩) 64 64 (L - m) (c - m) (by kernel_rfl) (by kernel_rfl) w.heap.size (j * 64) .u8 _ 178 HBL.out.drew 64 (by omega) _ x HSR.out.drew (fun _ => rfl) (by rw [HCL.out]; omega) w.heap.size w HB.out.drew (Nat.le_refl _) ?_; intro w6 HK6 hb6)
      all_goals
        go_wp2
        go_roundw
        case rel => exact ⟨j + 1, by omega, by go_num, by rw [← HNX.out]; exact HK6.out, hb6⟩
        case measure => simp [intOf]; omega
    · obtain rfl : j = q := by omega
      have hk1 := HK.out
      have hfr : Rd .u8 wr w.heap.size (if c = L - k then A else A.map (·.add ((L - k) * 1))) k (zs.drop (64 * j)) := by
        have h := (HR.out.below hb).from_ (i := L - k) (by omega) hc
        rw [show L - (L - k) = k by omega, show zs.drop (L - k) = zs.drop (64 * j) by congr 1; omega] at h
        exact h
      rw [Nat.mul_one] at hfr
      have hdl : (zs.drop (64 * j)).length = k := by rw [List.length_drop, hlen.out]; exact hk1
      obtain ⟨y, hy⟩ : ∃ y, zs.drop (64 * j) = y := ⟨_, rfl⟩
      have hsp := splice_all ks y (by rw [← HKS.out, ← hy, hdl]; simp)
      have hkl : ks.length = k := by rw [← HKS.out]; simp
      have HY := Lib.hid hy
      rw [hy] at hfr hdl
      have HDL := Lib.hid hdl
      have HSP := Lib.hid hsp
      have HKL := Lib.hid hkl
      have HBL := Lib.hid hblk
      have HB := Lib.hid hb
      have hkL : k ≤ L := by omega
      clear hdl hsp hkl hblk hb hk1 hy HKS
      by_cases hck : c = L - k
      all_goals
        first | rw [if_pos hck] at hfr | rw [if_neg hck] at hfr
        have HF := Lib.hid hfr
        clear hfr
        go_wp2_with (with_reducible refine at_any ?_; refine at_dst 38 rfl ?_; refine wpList_copy_ints rfl (.tmp 30) (.tmp 37) 36 36 rfl 5 Tryz.underlying36 size_u8 _ _ _ _ _ _ rfl rfl wr.heap.size 0 .u8 ks 5 (BlkI.new _ _ _ _) k (by omega) w.heap.size y (HF.out.alloc HB.out.size _) (fun _ => rfl) (by rw [HKL.out]; omega) wr.heap.size wr ((Below.refl _ _).alloc (Nat.le_refl _) _) (Nat.le_refl _) ?_; intro w7 HK7 hb7)
        go_ret2
        have hcn : (cutN zs j).length = j := by simp [cutN]
        have hkk := HK7.out
        rw [HSP.out] at hkk
        have hr2 := hkk.rd
        rw [HDL.out] at hr2
        have hr1 := (HBL.out.below hb7 HBL.out.lt).rdA (s := 64) (bs := cutN zs j) (by rw [cutL_full, cutN_flat]) (cutN_len zs j (by rw [hlen.out]; exact hq1))
        rw [hcn] at hr1
        exact ⟨some ⟨w.heap.size, 0, none⟩, j, some ⟨wr.heap.size, 0, none⟩, k, by rw [hcn, HK.out]; rfl, by rw [hcn]; exact hr1, by rw [HK.out, HY.out]; exact hr2, by rw [HK.out]; exact Nat.le_refl _, HB.out.trans (hb7.mono HB.out.size)⟩
end
section
open Go.ChangeShapes Go.WideShapes Go.ChangeAt Go.RowKit
theorem zero_b64h : ∀ W, (zeroValue 178).run Tryz.prog W = .ok (.agg (intsA .u8 (List.replicate 64 0))) W := (zero_of_info (n := 64) (by kernel_rfl)).1
theorem RdA.onlyW {w w' : World} {A : Option Addr} {n g : Nat} {bs : List (List Int)} {t : TypeId} {s : List Int} {A' : Option Addr} {r c : Nat} {m : Int} (h : RdA .u8 64 w w.heap.size A n bs) (hk : Blk w g t (wrV s A' r c m)) (ho : Only g w w') : RdA .u8 64 w' w'.heap.size A n bs := by
  refine ⟨h.1, h.2.1, fun hn => ?_⟩
  obtain ⟨b, off, e, hlt, hc⟩ := h.2.2 hn
  have hne : b ≠ g := by
    rintro rfl
    obtain ⟨b1, off1, e1, _, h1⟩ := h.at_ hn
    rw [e] at e1
    injection e1 with e1
    injection e1 with e2 e3
    have hl : (bs.getD 0 []).length = 64 := h.2.1 _ (by
      have : 0 < bs.length := by rw [h.1]; exact hn
      simp [List.getD, List.getElem?_eq_getElem this])
    obtain ⟨x, hx⟩ : ∃ x, bs.getD 0 [] = x := ⟨_, rfl⟩
    rw [hx] at h1 hl
    cases x with
    | nil => simp at hl
    | cons y ys =>
    have h0 := h1 0 (.int .u8 y) rfl
    rw [← e2, hk.cell] at h0
    exact wrV_kind _ _ _ _ _ _ _ h0
  refine ⟨b, off, e, Nat.lt_of_lt_of_le hlt ho.size, fun j u hu => ?_⟩
  rw [World.cell?_of_block (w := w) (w' := w') (a := ⟨b, off + j, none⟩) (ho.block b hlt hne)]
  exact hc j u hu
def Hs (w0 : World) (g g2 : Nat) (A : Option Addr) (c : Nat) (s r : List Int) (n : Int) (A4 : Option Addr) (BS : List (List Int)) (Z : List Int) (w : World) : Prop :=
  Wrt w0 g A c s r n w ∧ RdA .u8 64 w w.heap.size A4 BS.length BS ∧ BlkI w g2 38 .u8 Z ∧ g2 ≠ g
theorem Hs.below {w0 w w' : World} {g g2 : Nat} {A : Option Addr} {c : Nat} {s r : List Int} {n : Int} {A4 : Option Addr} {BS : List (List Int)} {Z : List Int} (h : Hs w0 g g2 A c s r n A4 BS Z w) (hb : Below w.heap.size w w') : Hs w0 g g2 A c s r n A4 BS Z w' :=
  ⟨h.1.below hb, (h.2.1.below hb).mono hb.size, h.2.2.1.below hb h.2.2.1.lt, h.2.2.2⟩
theorem Hs.only {w0 w w' : World} {g g2 : Nat} {A : Option Addr} {c : Nat} {s s' r : List Int} {n : Int} {A4 : Option Addr} {BS : List (List Int)} {Z : List Int} (h : Hs w0 g g2 A c s r n A4 BS Z w) (ho : Only g w w') (hk : Blk w' g 187 (wrV s' A r.length c n)) : Hs w0 g g2 A c s' r n A4 BS Z w' :=
  ⟨h.1.only ho hk, h.2.1.onlyW h.1.1 ho, Blk.only h.2.2.1 ho h.2.2.2, h.2.2.2⟩
theorem Wrt.blk {w0 w : World} {g : Nat} {A : Option Addr} {c : Nat} {s r : List Int} {n : Int} (h : Wrt w0 g A c s r n w) : Blk w g 187 (wrV s A r.length c n) := h.1
theorem Hs.wrt {w0 w : World} {g g2 : Nat} {A : Option Addr} {c : Nat} {s r : List Int} {n : Int} {A4 : Option Addr} {BS : List (List Int)} {Z : List Int} (h : Hs w0 g g2 A c s r n A4 BS Z w) : Wrt w0 g A c s r n w := h.1
theorem Hs.res {w0 w : World} {g g2 : Nat} {A : Option Addr} {c : Nat} {s r : List Int} {n : Int} {A4 : Option Addr} {BS : List (List Int)} {Z : List Int} (h : Hs w0 g g2 A c s r n A4 BS Z w) : BlkI w g2 38 .u8 Z := h.2.2.1
set_option maxHeartbeats 2000000 in
theorem qhash_c (w0 : World) (g : Nat) (A : Option Addr) (c : Nat) (s r : List Int) (n : Int) (hl : s.length = 8) (hs : WIn s) (hri : ∀ z ∈ r, 0 ≤ z ∧ z < 256) (n0 : 0 ≤ n) (n1 : n < 2305843009213693952) (hn : (r.length : Int) = n % 64) (w : World) (hw : Wrt w0 g A c s r n w) (hkst : Kst w0) :
    Calls Tryz.prog 122 #[.pointer (some ⟨g, 0, none⟩)] w fun e w' => e = .returned (.agg (intsA .u8 (finL s r n))) ∧ Below w0.heap.size w0 w' := by
  have htl := tailL_len r n
  have htz := zer_le r.length
  have hti := tailL_in r n hri n0 n1
  have HTL := Lib.hid (fun W h => ptail_c A c r.length r n W h hw.cap n0 n1 hn)
  obtain ⟨T, hT⟩ : ∃ T, tailL r n = T := ⟨_, rfl⟩
  obtain ⟨q, hq⟩ : ∃ q, T.length / 64 = q := ⟨_, rfl⟩
  obtain ⟨BS, hBS⟩ : ∃ BS, cutN T q = BS := ⟨_, rfl⟩
  have hR : finL s r n = hashL (takesL s BS) := by unfold finL; rw [hT, hq, hBS]
  rw [hR]
  rw [hT] at htl hti HTL
  have hbi := cutN_in T q hti
  have hbl := cutN_length T q
  have hb64 := cutN_len T q (by omega)
  rw [hBS] at hbi hbl hb64
  have HC1 := Lib.hid (fun A c W h1 h2 => pcut_c A c T.length T W h1 h2 (by omega))
  rw [hq, hBS] at HC1
  have HXL := Lib.hid (fun i => takesL_len s (BS.take i) hl)
  have HXI := Lib.hid (fun i => takesL_in s (BS.take i) hs)
  have HXN := Lib.hid (fun i (h : i < BS.length) => takesL_next s BS i h)
  have HBI := Lib.hid hbi
  have HB64 := Lib.hid hb64
  have HW := Lib.hid hw
  have hq1 : q ≤ 10000 := by omega
  have hqT : 64 * q ≤ 1000000 := by omega
  have HBL := Lib.hid hbl
  have HHL := Lib.hid (hashL_len (takesL s BS))
  have HJ := Lib.hid (fun W => qjoined_c (takesL s BS) (takesL_len s BS hl) (takesL_in s BS hs) W)
  have HX0 := Lib.hid (show takesL s (BS.take 0) = s from rfl)
  have HXA := Lib.hid (show takesL s (BS.take BS.length) = takesL s BS by rw [List.take_length])
  have HKS := Lib.hid hkst
  have SXS := Lib.hid (sized (takesL s BS) (takesL_len s BS hl))
  obtain ⟨Z, hZ⟩ : ∃ Z : List Int, List.replicate 32 0 = Z := ⟨_, rfl⟩
  have HZ0 := Lib.hid zero_hash
  rw [hZ] at HZ0
  have HZL := Lib.hid (show Z.length = 32 by rw [← hZ]; simp)
  obtain ⟨Y, hY⟩ : ∃ Y : List Int, List.replicate 64 0 = Y := ⟨_, rfl⟩
  have HY0 := Lib.hid zero_b64h
  rw [hY] at HY0
  have HYL := Lib.hid (show Y.length = 64 by rw [← hY]; simp)
  have HTlen : Hid (T.length ≤ 1000000) := Lib.hid (by omega)
  have HSL := Lib.hid hl
  clear htl htz hti hq hBS hR hbi hbl hb64 hw hkst hZ hY hT hri hs hn
  go_enter Tryz.func122, Tryz.ntmps122
  go_wp2_with (with_reducible refine at_any ?_; refine at_dst 2 rfl ?_; refine wpList_alloc_ints rfl 38 rfl .u8 Z HZ0.out ?_; intro w1 hk1 hs1 hb1)
  have hW1 := HW.out.below hb1
  have hZ1 := hk1.out
  have hne : w.heap.size ≠ g := by have := HW.out.lt; omega
  have HGE : Hid (w0.heap.size ≤ w.heap.size) := Lib.hid HW.out.size
  obtain ⟨g2, hg2⟩ : ∃ g, w.heap.size = g := ⟨_, rfl⟩
  rw [hg2] at hZ1 hne HGE
  rw [hg2]
  clear hk1 hs1 hb1 hg2
  refine wp_region_held_drew (S := Wrt w0 g A c s r n) (by kernel_rfl) (hW1.drew) (fun hH => ?_)
  refine held_v 0 (some 10) rfl rfl (by kernel_rfl) (by kernel_rfl) (by kernel_rfl) (fun _ _ _ _ h => h) (by kernel_rfl) (.pointer (some ⟨g, 0, none⟩)) (fun W h => by go_simp) hH ?_
  try simp only [Act.put, List.setIfInBounds_toArray, List.set_cons_zero, List.set_cons_succ]
  refine held_v 1 (some 11) rfl rfl (by kernel_rfl) (by kernel_rfl) (by kernel_rfl) (fun _ _ _ _ h => h) (by kernel_rfl) (.pointer (some ⟨g, 0, none⟩)) (fun W h => by go_simp) hH ?_
  try simp only [Act.put, List.setIfInBounds_toArray, List.set_cons_zero, List.set_cons_succ]
  refine held_v 2 (some 12) rfl rfl (by kernel_rfl) (by kernel_rfl) (by kernel_rfl) (fun _ _ _ _ h => h) (by kernel_rfl) (.pointer (some ⟨g, 0, none⟩)) (fun W h => by go_simp) hH ?_
  try simp only [Act.put, List.setIfInBounds_toArray, List.set_cons_zero, List.set_cons_succ]
  refine held_v 3 (some 13) rfl rfl (by kernel_rfl) (by kernel_rfl) (by kernel_rfl) (fun _ _ _ _ h => h) (by kernel_rfl) (.pointer (some ⟨g, 8, none⟩)) (fun W h => by go_simp) hH ?_
  try simp only [Act.put, List.setIfInBounds_toArray, List.set_cons_zero, List.set_cons_succ]
  refine held_v 4 (some 14) rfl rfl (by kernel_rfl) (by kernel_rfl) (by kernel_rfl) (fun _ _ _ _ h => h) (by kernel_rfl) (.slice A r.length c) (fun W h => by have c8 := h.cell8 HSL.out; go_simp) hH ?_
  try simp only [Act.put, List.setIfInBounds_toArray, List.set_cons_zero, List.set_cons_succ]
  refine held_v 5 (some 15) rfl rfl (by kernel_rfl) (by kernel_rfl) (by kernel_rfl) (fun _ _ _ _ h => h) (by kernel_rfl) (.pointer (some ⟨g, 0, none⟩)) (fun W h => by go_simp) hH ?_
  try simp only [Act.put, List.setIfInBounds_toArray, List.set_cons_zero, List.set_cons_succ]
  refine held_v 6 (some 16) rfl rfl (by kernel_rfl) (by kernel_rfl) (by kernel_rfl) (fun _ _ _ _ h => h) (by kernel_rfl) (.pointer (some ⟨g, 0, none⟩)) (fun W h => by go_simp) hH ?_
  try simp only [Act.put, List.setIfInBounds_toArray, List.set_cons_zero, List.set_cons_succ]
  refine held_v 7 (some 17) rfl rfl (by kernel_rfl) (by kernel_rfl) (by kernel_rfl) (fun _ _ _ _ h => h) (by kernel_rfl) (.pointer (some ⟨g, 0, none⟩)) (fun W h => by go_simp) hH ?_
  try simp only [Act.put, List.setIfInBounds_toArray, List.set_cons_zero, List.set_cons_succ]
  refine held_v 8 (some 18) rfl rfl (by kernel_rfl) (by kernel_rfl) (by kernel_rfl) (fun _ _ _ _ h => h) (by kernel_rfl) (.pointer (some ⟨g, 9, none⟩)) (fun W h => by go_simp) hH ?_
  try simp only [Act.put, List.setIfInBounds_toArray, List.set_cons_zero, List.set_cons_succ]
  refine held_v 9 (some 19) rfl rfl (by kernel_rfl) (by kernel_rfl) (by kernel_rfl) (fun _ _ _ _ h => h) (by kernel_rfl) (.int .u64 n) (fun W h => by have c9 := h.cell9 HSL.out; go_simp) hH ?_
  try simp only [Act.put, List.setIfInBounds_toArray, List.set_cons_zero, List.set_cons_succ]
  refine wpAnyH_ready (rs := [10]) (by kernel_rfl) (by decide) ?_
  refine AllReadyH.cons rfl (fun K hK => ?_) AllReadyH.nil
  refine step_call (some 20) rfl (by kernel_rfl) _ _ (by kernel_rfl) _ (HTL.out w1.drew hH.rd) ?_
  rintro e w3 ⟨A3, c3, rfl, hrd3, hc3, hb3⟩
  have hW3 := hH.below hb3
  have hZ3 : BlkI w3 g2 38 .u8 Z := hZ1.drew.below hb3 hZ1.lt
  refine ⟨_, rfl, ?_⟩
  refine hK.out _ _ hW3 (fun hH3 => ?_)
  clear hK K
  try simp only [Act.put, List.setIfInBounds_toArray, List.set_cons_zero, List.set_cons_succ]
  refine held_v 11 (some 9) rfl rfl (by kernel_rfl) (by kernel_rfl) (by kernel_rfl) (fun _ _ _ _ h => h) (by kernel_rfl) (.tuple #[.slice A3 T.length c3, .bool true]) (fun W h => by go_simp) hH3 ?_
  try simp only [Act.put, List.setIfInBounds_toArray, List.set_cons_zero, List.set_cons_succ]
  refine held_v 12 (some 21) rfl rfl (by kernel_rfl) (by kernel_rfl) (by kernel_rfl) (fun _ _ _ _ h => h) (by kernel_rfl) (.slice A3 T.length c3) (fun W h => by go_simp) hH3 ?_
  try simp only [Act.put, List.setIfInBounds_toArray, List.set_cons_zero, List.set_cons_succ]
  refine held_v 13 (some 22) rfl rfl (by kernel_rfl) (by kernel_rfl) (by kernel_rfl) (fun _ _ _ _ h => h) (by kernel_rfl) (.bool true) (fun W h => by go_simp) hH3 ?_
  try simp only [Act.put, List.setIfInBounds_toArray, List.set_cons_zero, List.set_cons_succ]
  refine held_v 14 (some 3) rfl rfl (by kernel_rfl) (by kernel_rfl) (by kernel_rfl) (fun _ _ _ _ h => h) (by kernel_rfl) (.slice A3 T.length c3) (fun W h => by go_simp) hH3 ?_
  try simp only [Act.put, List.setIfInBounds_toArray, List.set_cons_zero, List.set_cons_succ]
  refine held_v 15 (some 4) rfl rfl (by kernel_rfl) (by kernel_rfl) (by kernel_rfl) (fun _ _ _ _ h => h) (by kernel_rfl) (.bool true) (fun W h => by go_simp) hH3 ?_
  try simp only [Act.put, List.setIfInBounds_toArray, List.set_cons_zero, List.set_cons_succ]
  refine wpAnyH_done (by kernel_rfl) ?_ _
  have HRD3 := Lib.hid hrd3
  have HW3 := Lib.hid hW3
  have HZ3 := Lib.hid hZ3
  clear hW1 hZ1 hH hrd3 hb3 hW3 hZ3 hH3
  go_wp2_with (go_at_call 132; (with_reducible refine (HC1.out A3 c3 w3 HRD3.out hc3).mono ?_); rintro e w4 ⟨A4, c4, A5, c5, rfl, hrd4, hrd5, hc5, hb4⟩; have HRD4 := Lib.hid hrd4; have HW4 := Lib.hid (HW3.out.below hb4); have HZ4 := Lib.hid (HZ3.out.below hb4 HZ3.out.lt); clear hrd4 hrd5 hc5)
  have HI : Hs w0 g g2 A c (takesL s (BS.take 0)) r n A4 BS Z w4 := by rw [HX0.out]; exact ⟨HW4.out, HRD4.out, HZ4.out, hne⟩
  have hlen : BS.length ≤ 10000 := by rw [HBL.out]; exact hq1
  obtain ⟨m, hm⟩ : ∃ m, BS.length = m := ⟨_, rfl⟩
  have HM := Lib.hid hm
  rw [hm] at hlen
  rw [hm]
  clear HRD3 HW3 HZ3 HRD4 HW4 HZ4 hb4 hm hc3
  go_loopw [30] (fun v wr => ∃ i : Nat, i ≤ m ∧ v = .int .i64 i ∧ Hs w0 g g2 A c (takesL s (BS.take i)) r n A4 BS Z wr) (fun v _ => m - (intOf v).toNat)
  case atStart => exact ⟨0, by omega, rfl, HI⟩
  case round =>
    clear HI
    obtain ⟨i, hi, rfl, HI⟩ := hrel
    by_cases hlt : i < m
    · have hil : i < BS.length := by rw [HM.out]; exact hlt
      obtain ⟨b0, off, hA4, hb0, hrg⟩ := HI.2.1.at_ hil
      have hmem : BS.getD i [] ∈ BS := by simp [List.getD, List.getElem?_eq_getElem hil]
      have hbl := HB64.out _ hmem
      have hbi := HBI.out _ hmem
      have hnx := HXN.out i hil
      have hxl := HXL.out i
      have hxi := HXI.out i
      obtain ⟨x, hx⟩ : ∃ x, takesL s (BS.take i) = x := ⟨_, rfl⟩
      obtain ⟨b, hb⟩ : ∃ b, BS.getD i [] = b := ⟨_, rfl⟩
      rw [hx] at hnx hxl hxi HI
      rw [hb] at hnx hbl hbi hrg
      have HNX := Lib.hid hnx
      have HRG := Lib.hid hrg
      have HII := Lib.hid HI
      have SB := Lib.hid (show (Tryz.prog.info? 178).map (·.size) = some b.length by rw [hbl]; exact size_blk)
      have LB := Lib.hid (show Y.length = b.length by rw [hbl, HYL.out])
      have HTK := Lib.hid (fun W h k => qtake_c g A r.length c x b n hxl hxi hbl hbi W h k)
      have q0 : (0 : Int) ≤ (i : Int) ∧ (i : Int) < (m : Int) := by omega
      subst hA4
      clear hnx hrg hxl hxi hbl hbi hmem hx hb HI
      go_wp2_with (first
        | (with_reducible refine at_any ?_; refine at_dst 33 rfl ?_; refine wpList_load_at rfl 178 (.tmp 32) rfl b0 (off + i * 64) rfl .u8 b HRG.out _ Tryz.underlying178 rfl SB.out ?_)
        | (with_reducible refine at_any ?_; refine at_dst 8 rfl ?_; refine wpList_alloc_ints rfl 178 rfl .u8 Y HY0.out ?_; intro w5 hk5 hs5 hb5; have HI5 := Lib.hid (HII.out.below hb5))
        | (with_reducible refine at_any ?_; refine at_store 8 rfl ?_; refine wpList_store_ints rfl 178 (.tmp 8) (.tmp 33) rfl wr.heap.size rfl 178 .u8 Y b hk5.out rfl LB.out SB.out ?_; intro w6 hk6 hs6 hb6 ho6; have HI6 := Lib.hid (HII.out.below (hb5.trans (hb6 _ (Nat.le_refl _)))))
        | (with_reducible refine at_any ?_; refine at_dst 35 rfl ?_; refine wpList_load_ints rfl 178 (.tmp 8) rfl wr.heap.size rfl 178 .u8 b hk6.out _ Tryz.underlying178 rfl SB.out ?_)
        | (go_at_call 133; (with_reducible refine (HTK.out w6 HI6.out.wrt.blk (HKS.out.below HI6.out.wrt.bel)).mono ?_); rintro e w7 ⟨rfl, hk7, ho7⟩; have HI7 := Lib.hid (HI6.out.only ho7 hk7)))
      rw [← HNX.out] at HI7
      go_roundw
      case rel => exact ⟨i + 1, by omega, by go_num, HI7.out⟩
      case measure => simp [intOf]; omega
    · obtain rfl : i = m := by omega
      have hi2 := HI
      rw [← HM.out, HXA.out] at hi2
      have HI2 := Lib.hid hi2
      obtain ⟨X, hX⟩ : ∃ X, takesL s BS = X := ⟨_, rfl⟩
      obtain ⟨R, hRR⟩ : ∃ R, hashL X = R := ⟨_, rfl⟩
      rw [hX] at HI2 HJ SXS HHL
      rw [hRR] at HJ HHL
      have HRX := Lib.hid (show hashL (takesL s BS) = R by rw [hX, hRR])
      have SR := Lib.hid (show (Tryz.prog.info? 38).map (·.size) = some R.length by rw [HHL.out]; exact size_hash)
      have ZR := Lib.hid (show Z.length = R.length by rw [HHL.out, HZL.out])
      clear hi2 HI hX hRR HXN HXL HXI HXA HX0
      go_wp2_with (first
        | (with_reducible refine at_any ?_; refine at_dst 42 rfl ?_; refine wpList_load_at rfl 172 (.tmp 41) rfl g 0 rfl .u32 X (wrV_range HI2.out.wrt.blk) _ Tryz.underlying172 rfl SXS.out ?_)
        | (go_at_call 134; (with_reducible refine (HJ.out _).mono ?_); rintro e w7 ⟨rfl, hb7⟩; have HI7 := Lib.hid (HI2.out.below hb7))
        | (with_reducible refine at_any ?_; refine at_store 2 rfl ?_; refine wpList_store_ints rfl 38 (.tmp 2) (.tmp 43) rfl g2 rfl 38 .u8 Z R HI7.out.res rfl ZR.out SR.out ?_; intro w9 hk9 hs9 hb9 ho9)
        | (refine bodyPost_cell 2 38 rfl g2 rfl 38 .u8 R hk9.out _ Tryz.underlying38 rfl SR.out rfl ?_))
      exact ⟨by rw [HRX.out], HI7.out.wrt.bel.trans (hb9 _ HGE.out)⟩
end
section
open Go.ChangeShapes Go.WideShapes Go.ChangeAt Go.RowKit
theorem more_parts (z b : List Int) : (z ++ b).length / 64 = z.length / 64 + (z.drop (64 * (z.length / 64)) ++ b).length / 64 := by
  rw [List.length_append, List.length_append, List.length_drop]; omega
theorem more_split (z b : List Int) : z ++ b = z.take (64 * (z.length / 64)) ++ (z.drop (64 * (z.length / 64)) ++ b) := by
  rw [← List.append_assoc, List.take_append_drop]
theorem nextS_more (s r a b : List Int) : nextS s r (a ++ b) = nextS (nextS s r a) (nextR r a) b := by
  unfold nextS nextR
  rw [← List.append_assoc]
  obtain ⟨z, hz⟩ : ∃ z, r ++ a = z := ⟨_, rfl⟩
  rw [hz, more_parts z b, ← takesL_append, ← cutN_take z, ← cutN_append _ _ _ _ (by rw [List.length_take]; omega), ← more_split]
theorem nextR_more (r a b : List Int) : nextR r (a ++ b) = nextR (nextR r a) b := by
  unfold nextR
  rw [← List.append_assoc]
  obtain ⟨z, hz⟩ : ∃ z, r ++ a = z := ⟨_, rfl⟩
  rw [hz]
  have h := more_parts z b
  have e := more_split z b
  obtain ⟨m, hm⟩ : ∃ m, z.drop (64 * (z.length / 64)) ++ b = m := ⟨_, rfl⟩
  rw [hm] at e h
  rw [h, hm, e, List.drop_append, List.drop_eq_nil_of_le (by rw [List.length_take]; omega), List.nil_append, List.length_take]
  congr 1
  omega
theorem nextS_few (s r y : List Int) (h : (r ++ y).length < 64) : nextS s r y = s := by
  unfold nextS
  rw [show (r ++ y).length / 64 = 0 by omega]
  rfl
theorem nextR_few (r y : List Int) (h : (r ++ y).length < 64) : nextR r y = r ++ y := by
  unfold nextR
  rw [show (r ++ y).length / 64 = 0 by omega]
  rfl
theorem nextS_full (s r y : List Int) (h : (r ++ y).length = 64) : nextS s r y = takeL s (r ++ y) := by
  unfold nextS
  rw [show (r ++ y).length / 64 = 1 by omega]
  have : cutN (r ++ y) 1 = [r ++ y] := by
    simp only [cutN, List.range_one, List.map_cons, List.map_nil, Nat.mul_zero, List.drop_zero]
    rw [List.take_of_length_le (by omega)]
  rw [this]
  rfl
theorem nextR_full (r y : List Int) (h : (r ++ y).length = 64) : nextR r y = [] := by
  unfold nextR
  rw [show (r ++ y).length / 64 = 1 by omega, List.drop_eq_nil_of_le (by omega)]
theorem nextS_nil (s r : List Int) (h : r.length < 64) : nextS s r [] = s := nextS_few s r [] (by simpa using h)
theorem nextR_nil (r : List Int) (h : r.length < 64) : nextR r [] = r := by rw [nextR_few r [] (by simpa using h), List.append_nil]
theorem nextS_len (s r b : List Int) (hl : s.length = 8) : (nextS s r b).length = 8 := takesL_len _ _ hl
theorem nextS_in (s r b : List Int) (hs : WIn s) : WIn (nextS s r b) := takesL_in _ _ hs
theorem nextR_len (r b : List Int) : (nextR r b).length = (r.length + b.length) % 64 := by unfold nextR; rw [List.length_drop, List.length_append]; omega
theorem nextR_in (r b : List Int) (hr : ∀ z ∈ r, 0 ≤ z ∧ z < 256) (hb : ∀ z ∈ b, 0 ≤ z ∧ z < 256) : ∀ z ∈ nextR r b, 0 ≤ z ∧ z < 256 := fun z h => by
  have := List.mem_of_mem_drop h
  rcases List.mem_append.1 this with h1 | h1
  · exact hr z h1
  · exact hb z h1
end
section
open Go.ChangeShapes Go.WideShapes Go.ChangeAt Go.RowKit
theorem size_u64w : (Tryz.prog.info? 24).map (·.size) = some 1 := by kernel_rfl
section
variable {P : Program} {w w' : World} {ops : Array Oper} {rest : List Oper} {o : Oper} {a : Act} {Q : Exit → Act → World → Prop}
theorem wpList_min (hgd : o.guard = none) (x y : Operand) (t : TypeId) (ho : o.op = .call { callee := .builtin .min, args := #[x, y], argTypes := #[t, t] }) (f j q : Int) (hx : a.eval x = .int .i64 f) (hy : a.eval y = .int .i64 j) (hq : (if j < f then j else f) = q)
    (h : wpList P ops Q rest (a.put o.dst (.int .i64 q)) w) : wpList P ops Q (o :: rest) a w := by
  refine wpList_plain hgd fun K hK => ?_
  unfold Oper.wp execOp
  simp only [ho, resolve, invoke, builtin, Sem.run_bind, Sem.run_pure, Result.andThen_ok, List.map_toArray, List.map_cons, List.map_nil, hx, hy, run_min_int2, hq]
  exact hK _ _ h
end
theorem Rd.range {w : World} {B n b off : Nat} {k : IntKind} {zs : List Int} (h : Rd k w B (some ⟨b, off, none⟩) n zs) : w.rangeAt b off (zs.map (Value.int k)) := fun j u hu => by
  have := h.news j u hu
  rwa [add_flat] at this
def Wq (w0 : World) (g : Nat) (s r zs : List Int) (N : Int) (k : Nat) (p : Value) (w : World) : Prop :=
  ∃ Ak ck A' c', p = .slice Ak (zs.length - k) ck ∧ zs.length - k ≤ ck ∧ Rd .u8 w w0.heap.size Ak (zs.length - k) (zs.drop k) ∧ Wrt w0 g A' c' (nextS s r (zs.take k)) (nextR r (zs.take k)) N w
def RetWrN (w0 : World) (g : Nat) (s r : List Int) (n : Int) (e : Ending) (w' : World) : Prop := e = .returned (.tuple #[]) ∧ ∃ A c, Wrt w0 g A c s r n w'
theorem Wrt.blk' {w0 w : World} {g : Nat} {A : Option Addr} {c u : Nat} {s r : List Int} {n : Int} (h : Wrt w0 g A c s r n w) (hu : r.length = u) : Blk w g 187 (wrV s A u c n) := by subst hu; exact h.1
theorem Wrt.own {w0 w : World} {g : Nat} {A : Option Addr} {c : Nat} {s r : List Int} {n : Int} (h : Wrt w0 g A c s r n w) : OwnI w w0.heap.size 5 .u8 (.slice A r.length c) r := h.2.1
theorem Wrt.ge {w0 w : World} {g : Nat} {A : Option Addr} {c : Nat} {s r : List Int} {n : Int} (h : Wrt w0 g A c s r n w) : w0.heap.size ≤ g := h.2.2.2
theorem Wrt.more {w0 w w1 w2 : World} {g : Nat} {A A' : Option Addr} {c c' u : Nat} {s r r' : List Int} {n : Int} (h : Wrt w0 g A c s r n w) (hs : s.length = 8) (hu : r'.length = u) (hown : OwnI w1 w0.heap.size 5 .u8 (.slice A' u c') r') (hg : w.grownBy w1 (Value.slice A r.length c).ownBlock)
    (hk : Blk w2 g 187 ((wrV s A r.length c n).setIfInBounds 8 (.slice A' u c'))) (ho : Only g w1 w2) : Wrt w0 g A' c' s r' n w2 ∧ Below w0.heap.size w w2 := by
  subst hu
  rw [wrV_set8 s hs] at hk
  have hb1 : Blk w1 g 187 (wrV s A r.length c n) := h.1.grown h.2.1 (by decide) hg
  have hl1 : Below w0.heap.size w w1 := h.2.1.below_ (Below.refl _ _) h.size hg
  have hl2 : Below w0.heap.size w1 w2 := ho.below h.2.2.2 (Nat.le_trans h.size hl1.size)
  exact ⟨⟨hk, hown.only hb1 (by decide) ho, h.bel.trans (hl1.trans hl2), h.2.2.2⟩, hl1.trans hl2⟩
theorem Wrt.empty {w0 w w2 : World} {g : Nat} {A : Option Addr} {c : Nat} {s r : List Int} {n : Int} (h : Wrt w0 g A c s r n w) (hs : s.length = 8) (hr : 0 < r.length)
    (hk : Blk w2 g 187 ((wrV s A r.length c n).setIfInBounds 8 (.slice A 0 c))) (ho : Only g w w2) : Wrt w0 g A c s [] n w2 ∧ Below w0.heap.size w w2 := by
  rw [wrV_set8 s hs] at hk
  have hl2 : Below w0.heap.size w w2 := ho.below h.2.2.2 h.size
  exact ⟨⟨hk, (h.2.1.zero hr).only h.1 (by decide) ho, h.bel.trans hl2, h.2.2.2⟩, hl2⟩
theorem Wrt.bytes {w0 w w2 : World} {g : Nat} {A : Option Addr} {c : Nat} {s r : List Int} {n m : Int} (h : Wrt w0 g A c s r n w) (hs : s.length = 8) (hk : Blk w2 g 187 ((wrV s A r.length c n).setIfInBounds 9 (.int .u64 m))) (ho : Only g w w2) : Wrt w0 g A c s r m w2 := by
  rw [wrV_set9 s hs] at hk
  exact h.only ho hk
theorem Wrt.head {w0 w : World} {g : Nat} {A : Option Addr} {c : Nat} {s r : List Int} {n : Int} (h : Wrt w0 g A c s r n w) (hr : 0 < r.length) : ∃ b, A = some ⟨b, 0, none⟩ := by
  obtain ⟨g', cap, hv, _, _⟩ := World.ownsRow.form (show w.ownsRow w0.heap.size 5 1 (.slice A r.length c) r.length (r.map (Value.int .u8)) from h.2.1) hr
  exact ⟨g', by injection hv⟩
theorem take_more (zs : List Int) (k q : Nat) : zs.take (k + q) = zs.take k ++ (zs.drop k).take q := List.take_add
set_option maxHeartbeats 4000000 in
theorem qwr_c (w0 : World) (g : Nat) (A : Option Addr) (c : Nat) (s r zs : List Int) (n : Int) (hl : s.length = 8) (hs : WIn s) (hri : ∀ z ∈ r, 0 ≤ z ∧ z < 256) (hr : r.length ≤ 63) (Ap : Option Addr) (m cp : Nat) (hzi : ∀ z ∈ zs, 0 ≤ z ∧ z < 256) (n0 : 0 ≤ n) (n1 : n + m < 2305843009213693952)
    (w : World) (hw : Wrt w0 g A c s r n w) (hp : Rd .u8 w w0.heap.size Ap m zs) (hmc : m ≤ cp) (hm : m ≤ 1000000) (hkst : Kst w0) :
    Calls Tryz.prog 130 #[.pointer (some ⟨g, 0, none⟩), .slice Ap m cp] w (RetWrN w0 g (nextS s r zs) (nextR r zs) (n + m)) := by
  obtain ⟨i0, hi, hz0, hz1, hzb⟩ := info_parts info_u8'
  have hpl := hp.len
  have w1e : IntKind.u64.wrap (m : Int) = m := by rw [IntKind.wrap_u64]; omega
  obtain ⟨N, hN⟩ : ∃ N, n + (m : Int) = N := ⟨_, rfl⟩
  have w2e : IntKind.u64.wrap (n + (m : Int)) = N := by rw [IntKind.wrap_u64]; omega
  rw [hN]
  have c9 := hw.cell9 hl
  have HW := Lib.hid hw
  have HP := Lib.hid hp
  have SV := Lib.hid (wrV_size s hl A r.length c n)
  have HL := Lib.hid hl
  have HPL := Lib.hid hpl
  have HKS := Lib.hid hkst
  have HSL := Lib.hid (fun k => nextS_len s r (zs.take k) hl)
  have HSI := Lib.hid (fun k => nextS_in s r (zs.take k) hs)
  have HRL := Lib.hid (fun k => nextR_len r (zs.take k))
  have HRI := Lib.hid (fun k => nextR_in r (zs.take k) hri (fun z h => hzi z (List.mem_of_mem_take h)))
  have HZI := Lib.hid hzi
  have HNM := Lib.hid (fun k q => (show nextS s r (zs.take (k + q)) = nextS (nextS s r (zs.take k)) (nextR r (zs.take k)) ((zs.drop k).take q) ∧ nextR r (zs.take (k + q)) = nextR (nextR r (zs.take k)) ((zs.drop k).take q) by rw [take_more]; exact ⟨nextS_more _ _ _ _, nextR_more _ _ _⟩))
  have HST := Lib.hid (show nextS s r (zs.take 0) = s ∧ nextR r (zs.take 0) = r from ⟨nextS_nil s r (by omega), nextR_nil r (by omega)⟩)
  have HZA := Lib.hid (show zs.take m = zs by rw [← hpl, List.take_length])
  clear hw hp hl hs hri hr hzi hpl hN hkst n1
  go_enter Tryz.func130, Tryz.ntmps130
  go_wp2_with (with_reducible refine at_any ?_; refine at_store 16 rfl ?_; refine wpList_store_cell rfl 24 (.tmp 16) (.tmp 13) rfl g 9 rfl 187 (wrV s A r.length c n) HW.out.blk (.int .u64 N) rfl (by rw [SV.out]; omega) size_u64w rfl rfl ?_; intro w1 hk1 ho1)
  have hW1 := HW.out.bytes HL.out hk1.out ho1
  have HQ : Wq w0 g s r zs N 0 (.slice Ap m cp) w1 := by
    refine ⟨Ap, cp, A, c, by rw [Nat.sub_zero, HPL.out], by rw [Nat.sub_zero, HPL.out]; exact hmc, ?_, ?_⟩
    · rw [Nat.sub_zero, HPL.out, List.drop_zero]
      exact HP.out.below (ho1.below HW.out.ge HW.out.size)
    · rw [HST.out.1, HST.out.2]; exact hW1
  clear hk1 ho1 hW1 c9 w2e
  try simp only [Act.put]
  go_loopw [1] (fun p wr => ∃ k : Nat, k ≤ m ∧ Wq w0 g s r zs N k p wr) (fun p _ => lenV p)
  case atStart => exact ⟨0, by omega, HQ⟩
  case round =>
    clear HQ
    obtain ⟨k, hk, Ak, ck, A', c', rfl, hck, hrd, hW⟩ := hrel
    rw [HPL.out] at hck hrd ⊢
    by_cases hlt : k < m
    · obtain ⟨j, hj⟩ : ∃ j, m - k = j := ⟨_, rfl⟩
      rw [hj] at hck hrd ⊢
      have hsl := HSL.out k
      have hsi := HSI.out k
      have hrl := HRL.out k
      have hri := HRI.out k
      have hnm := HNM.out k
      obtain ⟨σ, hσ⟩ : ∃ x, nextS s r (zs.take k) = x := ⟨_, rfl⟩
      obtain ⟨ρ, hρ⟩ : ∃ x, nextR r (zs.take k) = x := ⟨_, rfl⟩
      rw [hσ] at hsl hsi hW hnm
      rw [hρ] at hrl hri hW hnm
      obtain ⟨v, hv⟩ : ∃ v, ρ.length = v := ⟨_, rfl⟩
      rw [hv] at hrl
      have hv63 : v ≤ 63 := by omega
      obtain ⟨f, hf⟩ : ∃ f, 64 - v = f := ⟨_, rfl⟩
      obtain ⟨q, hq⟩ : ∃ q, min f j = q := ⟨_, rfl⟩
      have hq1 : 1 ≤ q := by omega
      have hqj : q ≤ j := by omega
      have hqf : q ≤ f := by omega
      have e26 : IntKind.i64.wrap (64 - (v : Int)) = (f : Int) := by rw [IntWalk.i64_in _ (by omega)]; omega
      have HMIN := Lib.hid (show (if (j : Int) < (f : Int) then (j : Int) else (f : Int)) = (q : Int) by split <;> omega)
      obtain ⟨b0, off0, rfl, hb0, _⟩ := hrd.at_ (by omega)
      have hup := hrd.upto hqj
      have hdn := hrd.from_ (cap := ck) hqj hck
      have hnk := hnm q
      obtain ⟨y, hy⟩ : ∃ y, (zs.drop k).take q = y := ⟨_, rfl⟩
      rw [hy] at hup hnk
      have hyl := hup.len
      have hyi : ∀ z ∈ y, 0 ≤ z ∧ z < 256 := by rw [← hy]; intro z h; exact HZI.out z (List.mem_of_mem_drop (List.mem_of_mem_take h))
      obtain ⟨u, hu⟩ : ∃ u, v + q = u := ⟨_, rfl⟩
      have hul : (ρ ++ y).length = u := by rw [List.length_append, hv, hyl]; exact hu
      have hu64 : u ≤ 64 := by omega
      have c8 := hW.cell8 hsl
      rw [hv] at c8
      have q0 : (0 : Int) < (j : Int) := by omega
      have q2 : (0 : Int) ≤ (q : Int) := by omega
      have q3 : (q : Int) ≤ (ck : Int) := by omega
      have q4 : (q : Int) ≤ (j : Int) := by omega
      have q5 : q ≤ ck := by omega
      have q6 : q ≤ j := hqj
      have HWk := Lib.hid hW
      have HUP := Lib.hid hup
      have HDN := Lib.hid hdn
      have HNK := Lib.hid hnk
      have HYI := Lib.hid hyi
      have HUL := Lib.hid hul
      have HVL := Lib.hid hv
      have HSLk := Lib.hid hsl
      have HSIk := Lib.hid hsi
      have HRIk := Lib.hid hri
      have HYL := Lib.hid hyl
      have HDD := Lib.hid (show (zs.drop k).drop q = zs.drop (k + q) by rw [List.drop_drop])
      have HJK := Lib.hid (show k + j = m by omega)
      have HKQ := Lib.hid (show j - q = zs.length - (k + q) by rw [HPL.out]; omega)
      clear hrd hW hup hdn hnm hnk hyi hul hsl hsi hrl hri hy hσ hρ hf hq hj hyl hv
      go_wp2_with (with_reducible refine at_any ?_; refine at_dst 29 rfl ?_; refine wpList_min rfl (.tmp 26) (.tmp 28) 3 rfl (f : Int) (j : Int) (q : Int) rfl rfl HMIN.out ?_)
      have hWd := HWk.out.drew
      refine wp_region_held_drew (S := AnyW) (by kernel_rfl) trivial (fun hH => ?_)
      refine wpAnyH_letter #[false, false, false, false, false, false, false, false, false, false, false, false, false, false] (by kernel_rfl) (fun _ _ d _ _ h => by cases d <;> exact h) (fun QL HQ1 HQ2 => ?_)
      refine held_v 0 (some 30) rfl rfl (by kernel_rfl) (by kernel_rfl) (by kernel_rfl) (fun c a v w h => HQ2.out c a _ v w h) (by kernel_rfl) (.pointer (some ⟨g, 0, none⟩)) (fun W h => by go_simp) hH ?_
      try simp only [Act.put, List.setIfInBounds_toArray, List.set_cons_zero, List.set_cons_succ]
      refine held_v 1 (some 31) rfl rfl (by kernel_rfl) (by kernel_rfl) (by kernel_rfl) (fun c a v w h => HQ2.out c a _ v w h) (by kernel_rfl) (.pointer (some ⟨g, 0, none⟩)) (fun W h => by go_simp) hH ?_
      try simp only [Act.put, List.setIfInBounds_toArray, List.set_cons_zero, List.set_cons_succ]
      refine held_v 2 (some 32) rfl rfl (by kernel_rfl) (by kernel_rfl) (by kernel_rfl) (fun c a v w h => HQ2.out c a _ v w h) (by kernel_rfl) (.pointer (some ⟨g, 0, none⟩)) (fun W h => by go_simp) hH ?_
      try simp only [Act.put, List.setIfInBounds_toArray, List.set_cons_zero, List.set_cons_succ]
      refine held_v 3 (some 33) rfl rfl (by kernel_rfl) (by kernel_rfl) (by kernel_rfl) (fun c a v w h => HQ2.out c a _ v w h) (by kernel_rfl) (.pointer (some ⟨g, 0, none⟩)) (fun W h => by go_simp) hH ?_
      try simp only [Act.put, List.setIfInBounds_toArray, List.set_cons_zero, List.set_cons_succ]
      refine held_v 4 (some 34) rfl rfl (by kernel_rfl) (by kernel_rfl) (by kernel_rfl) (fun c a v w h => HQ2.out c a _ v w h) (by kernel_rfl) (.pointer (some ⟨g, 8, none⟩)) (fun W h => by go_simp) hH ?_
      try simp only [Act.put, List.setIfInBounds_toArray, List.set_cons_zero, List.set_cons_succ]
      refine held_v 6 (some 36) rfl rfl (by kernel_rfl) (by kernel_rfl) (by kernel_rfl) (fun c a v w h => HQ2.out c a _ v w h) (by kernel_rfl) (.slice (some ⟨b0, off0, none⟩) j ck) (fun W h => by go_simp) hH ?_
      try simp only [Act.put, List.setIfInBounds_toArray, List.set_cons_zero, List.set_cons_succ]
      refine held_v 7 (some 37) rfl rfl (by kernel_rfl) (by kernel_rfl) (by kernel_rfl) (fun c a v w h => HQ2.out c a _ v w h) (by kernel_rfl) (.int .i64 (q : Int)) (fun W h => by go_simp) hH ?_
      try simp only [Act.put, List.setIfInBounds_toArray, List.set_cons_zero, List.set_cons_succ]
      refine held_v 8 (some 38) rfl rfl (by kernel_rfl) (by kernel_rfl) (by kernel_rfl) (fun c a v w h => HQ2.out c a _ v w h) (by kernel_rfl) (.slice (some ⟨b0, off0, none⟩) q ck) (fun W h => by go_simp) hH ?_
      try simp only [Act.put, List.setIfInBounds_toArray, List.set_cons_zero, List.set_cons_succ]
      refine wpAnyH_ready (rs := [5]) (by kernel_rfl) (by decide) ?_
      refine AllReadyH.cons rfl (fun K hK => ?_) AllReadyH.nil
      refine step_v (some 35) rfl (by kernel_rfl) (.slice A' v c') (by go_simp) ?_
      refine hK.out _ _ hH (fun _ => ?_)
      clear hK K
      try simp only [Act.put, List.setIfInBounds_toArray, List.set_cons_zero, List.set_cons_succ]
      refine wpAnyH_ready (rs := [9]) (by kernel_rfl) (by decide) ?_
      refine AllReadyH.cons rfl (fun K hK => ?_) AllReadyH.nil
      refine step_append_d wr.drew (some 39) rfl rfl (.tmp 35) (.tmp 38) 36 rfl w0.heap.size 5 i0 _ 1 .u8 Tryz.underlying36 hi hz0 hz1 hzb rfl (.slice A' v c') ρ (by kernel_rfl) (by have := hWd.own; rw [HVL.out] at this; exact this) w0.heap.size (some ⟨b0, off0, none⟩) q ck y (by kernel_rfl) HUP.out.drew (by rw [HVL.out]; simp [maxLen]; omega) (by rw [HVL.out]; omega) hWd.size ?_
      intro v6 w6 hown6 hg6 hat6
      obtain ⟨A6, c6, rfl, hc6, _⟩ := hown6.form
      rw [HUL.out] at hown6 hc6 hat6 ⊢
      have HK6 : Blk w6 g 187 (wrV σ A' v c' N) := by
        have h1 := hWd.blk.grown hWd.own (by decide) (by rw [HVL.out]; exact hg6)
        rwa [HVL.out] at h1
      have HO6 := Lib.hid hown6
      have HG6 := Lib.hid hg6
      clear hown6 hg6 hat6
      refine hK.out _ _ hH (fun hH => ?_)
      clear hK K
      try simp only [Act.put, List.setIfInBounds_toArray, List.set_cons_zero, List.set_cons_succ]
      refine held_v 10 (some 40) rfl rfl (by kernel_rfl) (by kernel_rfl) (by kernel_rfl) (fun c a v w h => HQ2.out c a _ v w h) (by kernel_rfl) (.pointer (some ⟨g, 0, none⟩)) (fun W h => by go_simp) hH ?_
      try simp only [Act.put, List.setIfInBounds_toArray, List.set_cons_zero, List.set_cons_succ]
      refine held_v 11 (some 41) rfl rfl (by kernel_rfl) (by kernel_rfl) (by kernel_rfl) (fun c a v w h => HQ2.out c a _ v w h) (by kernel_rfl) (.pointer (some ⟨g, 0, none⟩)) (fun W h => by go_simp) hH ?_
      try simp only [Act.put, List.setIfInBounds_toArray, List.set_cons_zero, List.set_cons_succ]
      refine held_v 12 (some 42) rfl rfl (by kernel_rfl) (by kernel_rfl) (by kernel_rfl) (fun c a v w h => HQ2.out c a _ v w h) (by kernel_rfl) (.pointer (some ⟨g, 8, none⟩)) (fun W h => by go_simp) hH ?_
      try simp only [Act.put, List.setIfInBounds_toArray, List.set_cons_zero, List.set_cons_succ]
      refine wpAnyH_ready (rs := [13]) (by kernel_rfl) (by decide) ?_
      refine AllReadyH.cons rfl (fun K hK => ?_) AllReadyH.nil
      refine step_store_cell none rfl (by kernel_rfl) 36 (.tmp 42) (.tmp 39) rfl g 8 (by kernel_rfl) 187 (wrV σ A' v c' N) HK6 (.slice A6 u c6) (by kernel_rfl) (by rw [wrV_size σ HSLk.out]; omega) size_sl rfl rfl ?_
      intro w7 hk7 ho7
      have hm7 := hWd.more HSLk.out HUL.out HO6.out (by rw [HVL.out]; exact HG6.out) (by rw [HVL.out]; exact hk7.out) ho7
      refine hK.out _ _ hH (fun hH => ?_)
      clear hK K
      try simp only [Act.put, List.setIfInBounds_toArray, List.set_cons_zero, List.set_cons_succ]
      refine wpAnyH_done (by kernel_rfl) ?_ _
      refine HQ1.out _ _ ?_
      clear HQ1 HQ2
      obtain ⟨hW7, hb7⟩ := hm7
      have d8 := hW7.cell8 HSLk.out
      rw [HUL.out] at d8
      have HW7 := Lib.hid hW7
      have HDN7 := Lib.hid (HDN.out.drew.below hb7)
      clear hk7 ho7 HK6 HO6 HG6 hWd hH c8 HWk HUP HDN hW7 hb7 e26
      have HU := Lib.hid hu
      have hkm : k + q ≤ m := by have := HJK.out; omega
      have hrel : ∀ (w9 : World) (σ' ρ' : List Int) (A9 : Option Addr) (c9 : Nat), Below w0.heap.size w7 w9 → nextS σ ρ y = σ' → nextR ρ y = ρ' → Wrt w0 g A9 c9 σ' ρ' N w9 → ∀ Aq : Option Addr, (if ck = q then some ⟨b0, off0, none⟩ else (some (⟨b0, off0, none⟩ : Addr)).map (·.add (q * 1))) = Aq → ∃ k : Nat, k ≤ m ∧ Wq w0 g s r zs N k (.slice Aq (j - q) (ck - q)) w9 := by
        intro w9 σ' ρ' A9 c9 hb9 hs9 hr9 hW9 Aq hA
        have h1 := HDN7.out.below hb9
        rw [hA, HDD.out, HKQ.out] at h1
        refine ⟨k + q, hkm, Aq, ck - q, A9, c9, by rw [HKQ.out], by rw [← HKQ.out]; omega, h1, ?_⟩
        rw [HNK.out.1, HNK.out.2, hs9, hr9]
        exact hW9
      have HREL := Lib.hid hrel
      have hif1 : ck = q → (if ck = q then some ⟨b0, off0, none⟩ else (some (⟨b0, off0, none⟩ : Addr)).map (·.add (q * 1))) = some ⟨b0, off0, none⟩ := fun h => if_pos h
      have hif2 : ¬ ck = q → (if ck = q then some ⟨b0, off0, none⟩ else (some (⟨b0, off0, none⟩ : Addr)).map (·.add (q * 1))) = some ⟨b0, off0 + q, none⟩ := fun h => by rw [if_neg h, Option.map_some, Nat.mul_one, add_flat]
      have HI1 := Lib.hid hif1
      have HI2 := Lib.hid hif2
      clear hrel hif1 hif2
      by_cases h64 : u = 64
      · have t64 : ((u : Int) == 64) = true := by rw [beq_iff_eq]; omega
        obtain ⟨b6, rfl⟩ := HW7.out.head (by rw [HUL.out]; omega)
        obtain ⟨T, hT⟩ : ∃ T, ρ ++ y = T := ⟨_, rfl⟩
        have hTi : ∀ z ∈ T, 0 ≤ z ∧ z < 256 := by
          rw [← hT]; intro z hz
          rcases List.mem_append.1 hz with h | h
          · exact HRIk.out z h
          · exact HYI.out z h
        have HFS := Lib.hid (nextS_full σ ρ y (by rw [HUL.out]; exact h64))
        have HFR := Lib.hid (nextR_full ρ y (by rw [HUL.out]; exact h64))
        rw [hT] at HW7 HUL HFS
        have HTL := Lib.hid (show T.length = 64 by rw [HUL.out]; exact h64)
        have HTK := Lib.hid (fun W h k => qtake_c g (some ⟨b6, 0, none⟩) u c6 σ T N HSLk.out HSIk.out HTL.out hTi W h k)
        have HRG := Lib.hid (HW7.out.rd.range)
        have SB := Lib.hid (show (Tryz.prog.info? 178).map (·.size) = some T.length by rw [HTL.out]; exact size_blk)
        obtain ⟨τ, hτ⟩ : ∃ τ, takeL σ T = τ := ⟨_, rfl⟩
        have HSτ := Lib.hid (show τ.length = 8 by rw [← hτ]; exact takeL_len σ T HSLk.out)
        rw [hτ] at HTK HFS
        have hu64i : (64 : Int) ≤ (u : Int) := by omega
        have hu64n : 64 ≤ u := by omega
        have hc0 : ¬ c6 = 0 := by omega
        have hat := fun W => run_arrayAt (P := Tryz.prog) W 178 _ 64 (some ⟨b6, 0, none⟩) u c6 Tryz.underlying178 hu64n
        clear hT hτ hTi h64
        by_cases hcq : ck = q
        all_goals
          go_wp2_with (first
            | (with_reducible refine at_any ?_; refine at_dst 60 rfl ?_; refine wpList_load_at rfl 178 (.tmp 59) rfl b6 0 rfl .u8 T HRG.out _ Tryz.underlying178 rfl SB.out ?_)
            | (go_at_call 133; (with_reducible refine (HTK.out w7 (HW7.out.blk' HUL.out) (HKS.out.below HW7.out.bel)).mono ?_); rintro e w8 ⟨rfl, hk8, ho8⟩; have e8 := hk8.cell 8; rw [wrV_rest τ HSτ.out] at e8; have f8 := hk8.frozen 8; have HO8 := Lib.hid ho8; have HB8 := Lib.hid hk8; clear ho8 hk8)
            | (with_reducible refine at_any ?_; refine at_store 71 rfl ?_; refine wpList_store_cell rfl 36 (.tmp 71) (.tmp 68) rfl g 8 rfl 187 (wrV τ (some ⟨b6, 0, none⟩) u c6 N) HB8.out (.slice (some ⟨b6, 0, none⟩) 0 c6) rfl (by rw [wrV_size τ HSτ.out]; omega) size_sl rfl rfl ?_; intro w9 hk9 ho9))
          try simp only [Act.put]
          go_roundw
          case rel =>
            have hW8 : Wrt w0 g (some ⟨b6, 0, none⟩) c6 τ T N w8 := HW7.out.only HO8.out (by rw [HUL.out]; exact HB8.out)
            obtain ⟨hW9, hb9⟩ := hW8.empty HSτ.out (by rw [HTL.out]; omega) (by rw [HUL.out]; exact hk9.out) ho9
            have hb79 : Below w0.heap.size w7 w9 := (HO8.out.below HW7.out.ge HW7.out.size).trans hb9
            first
              | (have h := HREL.out w9 τ [] _ c6 hb79 HFS.out HFR.out hW9 _ (HI1.out hcq); rw [show ck - q = 0 by omega] at h; exact h)
              | exact HREL.out w9 τ [] _ c6 hb79 HFS.out HFR.out hW9 _ (HI2.out hcq)
          case measure => simp only [lenV]; omega
      · have t64 : ((u : Int) == 64) = false := by rw [beq_eq_false_iff_ne]; omega
        have HFS := Lib.hid (nextS_few σ ρ y (by rw [HUL.out]; omega))
        have HFR := Lib.hid (nextR_few ρ y (by rw [HUL.out]; omega))
        by_cases hcq : ck = q
        · go_wp2
          go_roundw
          case rel =>
            have h := HREL.out w7 σ (ρ ++ y) A6 c6 (Below.refl _ _) HFS.out HFR.out HW7.out _ (HI1.out hcq)
            rw [show ck - q = 0 by omega] at h
            exact h
          case measure => simp only [lenV]; omega
        · go_wp2
          go_roundw
          case rel => exact HREL.out w7 σ (ρ ++ y) A6 c6 (Below.refl _ _) HFS.out HFR.out HW7.out _ (HI2.out hcq)
          case measure => simp only [lenV]; omega
    · obtain rfl : k = m := by omega
      rw [Nat.sub_self] at hrd ⊢
      have HWk := Lib.hid hW
      rw [HZA.out] at HWk
      clear hrd hW
      go_wp2
      go_end0
      exact ⟨rfl, A', c', HWk.out⟩
end
section
open Go.ChangeShapes Go.WideShapes Go.ChangeAt Go.RowKit
set_option maxHeartbeats 1000000 in
theorem qnew_c (w : World) : Calls Tryz.prog 120 #[] w fun e w' => e = .returned (.agg (wrV startL none 0 0 0)) ∧ Below w.heap.size w w' := by
  have ZS := Lib.hid (show (wrV Z8 none 0 0 0).size = (wrV startL none 0 0 0).size by rw [wrV_size _ rfl, wrV_size _ rfl])
  have SS := Lib.hid (sizedW startL rfl none 0 0 0)
  have OS := Lib.hid (wrV_ones startL none 0 0 0)
  have CS := Lib.hid (fun W => cstart_c W)
  have hsl : startL.length = 8 := rfl
  obtain ⟨S, hS⟩ : ∃ S, startL = S := ⟨_, rfl⟩
  rw [hS] at ZS SS OS CS hsl ⊢
  have HSL := Lib.hid hsl
  clear hS hsl
  go_enter Tryz.func120, Tryz.ntmps120
  go_wp2_with (first
    | (with_reducible refine at_any ?_; refine at_dst 0 rfl ?_; refine wpList_alloc_any rfl 174 rfl (wrV Z8 none 0 0 0) zero_wr ?_; intro w1 hk1 hs1 hb1)
    | (go_at_call 129; (with_reducible refine (CS.out _).mono ?_); rintro e w4 ⟨rfl, hb4⟩; have hk4 := Lib.hid (hk1.out.below hb4 hk1.out.lt); have bl4 := Lib.hid (hb1.trans (hb4.mono hb1.size)))
    | (with_reducible refine at_any ?_; refine at_dst 2 rfl ?_; refine wpList_val rfl (.agg (wrV S none 0 0 0)) (build_new _ S HSL.out rfl rfl) ?_)
    | (with_reducible refine at_any ?_; refine at_store 0 rfl ?_; refine wpList_store_any rfl 174 (.tmp 0) (.tmp 2) rfl w.heap.size rfl 174 (wrV Z8 none 0 0 0) (wrV S none 0 0 0) hk4.out rfl ZS.out SS.out OS.out ?_; intro w9 hk9 hs9 hb9 ho9)
    | (refine bodyPost_any 0 174 rfl w.heap.size rfl 174 (wrV S none 0 0 0) hk9.out _ Tryz.underlying174 rfl SS.out rfl ?_))
  exact bl4.out.trans (hb9 _ (Nat.le_refl _))
end
section
open Go.ChangeShapes Go.WideShapes Go.ChangeAt Go.RowKit
def RowsOk (rs : List Row) : Prop := rs.length ≤ 20 ∧ ∀ r ∈ rs, r.zs.length ≤ 1000 ∧ ∀ z ∈ r.zs, 0 ≤ z ∧ z < 256
theorem joinL_in (rs : List Row) (h : RowsOk rs) (i : Nat) : ∀ z ∈ joinL (rs.take i), 0 ≤ z ∧ z < 256 := by
  intro z hz
  unfold joinL at hz
  obtain ⟨l, hl, hzl⟩ := List.mem_flatten.1 hz
  obtain ⟨r, hr, rfl⟩ := List.mem_map.1 hl
  exact (h.2 r (List.mem_of_mem_take hr)).2 z hzl
theorem joinL_take_le (rs : List Row) (i : Nat) : (joinL (rs.take i)).length ≤ (joinL rs).length := by
  have h : joinL rs = joinL (rs.take i) ++ joinL (rs.drop i) := by
    unfold joinL
    rw [← List.flatten_append, ← List.map_append, List.take_append_drop]
  rw [h, List.length_append]
  omega
theorem joinL_small (rs : List Row) (h : RowsOk rs) : (joinL rs).length ≤ 20000 := by
  have h1 := joinL_len rs 1000 fun r hr => (h.2 r hr).1
  have h2 := h.1
  omega
set_option maxHeartbeats 2000000 in
theorem qwa_c (w0 : World) (g : Nat) (A : Option Addr) (c : Nat) (s r : List Int) (n : Int) (hl : s.length = 8) (hs : WIn s) (hri : ∀ z ∈ r, 0 ≤ z ∧ z < 256) (hr : r.length ≤ 63) (n0 : 0 ≤ n) (Ar : Option Addr) (m cr : Nat) (rs : List Row) (hrr : RdRows w0 w0.heap.size Ar m rs) (hk : RowsOk rs)
    (n1 : n + (joinL rs).length < 2305843009213693952) (w : World) (hw : Wrt w0 g A c s r n w) (hkst : Kst w0) :
    Calls Tryz.prog 121 #[.pointer (some ⟨g, 0, none⟩), .slice Ar m cr] w (RetWrN w0 g (nextS s r (joinL rs)) (nextR r (joinL rs)) (n + (joinL rs).length)) := by
  have HR := Lib.hid hrr
  have hm20 : m ≤ 20 := by rw [← hrr.1]; exact hk.1
  have HM := Lib.hid hrr.1
  have HK := Lib.hid hk
  have HKS := Lib.hid hkst
  have HJ := Lib.hid (fun i => joinL_take_le rs i)
  have HJI := Lib.hid (fun i => joinL_in rs hk i)
  have HN1 := Lib.hid n1
  have HSL := Lib.hid (fun i => nextS_len s r (joinL (rs.take i)) hl)
  have HSI := Lib.hid (fun i => nextS_in s r (joinL (rs.take i)) hs)
  have HRL := Lib.hid (fun i => nextR_len r (joinL (rs.take i)))
  have HRI := Lib.hid (fun i => nextR_in r (joinL (rs.take i)) hri (joinL_in rs hk i))
  have HMO := Lib.hid (fun i b => And.intro (nextS_more s r (joinL (rs.take i)) b) (nextR_more r (joinL (rs.take i)) b))
  have HW0 : Wrt w0 g A c (nextS s r (joinL (rs.take 0))) (nextR r (joinL (rs.take 0))) (n + ((joinL (rs.take 0)).length : Int)) w := by
    rw [List.take_zero, show joinL [] = [] from rfl, nextS_nil s r (by omega), nextR_nil r (by omega), List.length_nil, Int.natCast_zero, Int.add_zero]
    exact hw
  clear hrr hk hkst n1 hw hl hs hri hr
  go_enter Tryz.func121, Tryz.ntmps121
  go_wp2
  go_loopw [8] (fun v wr => ∃ (i : Nat) (A' : Option Addr) (c' : Nat), i ≤ m ∧ v = .int .i64 i ∧ Wrt w0 g A' c' (nextS s r (joinL (rs.take i))) (nextR r (joinL (rs.take i))) (n + ((joinL (rs.take i)).length : Int)) wr) (fun v _ => m - (intOf v).toNat)
  case atStart => exact ⟨0, A, c, by omega, rfl, HW0⟩
  case round =>
    clear HW0
    obtain ⟨i, A', c', hi, rfl, hW⟩ := hrel
    by_cases hlt : i < m
    · obtain ⟨b0, off, hAr, hb0, hcell⟩ := (HR.out.below hW.bel).2.1 (by omega)
      obtain ⟨R, hRi⟩ : ∃ R, rs[i]? = some R := ⟨_, List.getElem?_eq_getElem (by rw [HM.out]; exact hlt)⟩
      have hmem := List.mem_of_getElem? hRi
      have c0 := hcell i R hRi
      obtain ⟨hrd, hcap⟩ := (HR.out.below hW.bel).2.2 R hmem
      obtain ⟨hzl, hzi⟩ := HK.out.2 R hmem
      have hnx := joinL_next rs i R hRi
      have hle := HJ.out (i + 1)
      have hsl := HSL.out i
      have hsi := HSI.out i
      have hrl := HRL.out i
      have hri := HRI.out i
      have hmo := HMO.out i R.zs
      rw [← hnx] at hmo
      have hn1 := HN1.out
      obtain ⟨J, hJ⟩ : ∃ J, joinL (rs.take i) = J := ⟨_, rfl⟩
      obtain ⟨J1, hJ1⟩ : ∃ J, joinL (rs.take (i + 1)) = J := ⟨_, rfl⟩
      rw [hJ] at hnx hsl hsi hrl hri hmo hW
      rw [hJ1] at hnx hle hmo
      obtain ⟨σ, hσ⟩ : ∃ x, nextS s r J = x := ⟨_, rfl⟩
      obtain ⟨ρ, hρ⟩ : ∃ x, nextR r J = x := ⟨_, rfl⟩
      rw [hσ] at hsl hsi hmo hW
      rw [hρ] at hrl hri hmo hW
      obtain ⟨N, hN⟩ : ∃ N, n + (J.length : Int) = N := ⟨_, rfl⟩
      rw [hN] at hW
      obtain ⟨⟨RA, Rn, Rc, Rz⟩, hre⟩ : ∃ X : Row, R = X := ⟨_, rfl⟩
      subst hre
      dsimp only at c0 hrd hcap hzl hzi hnx hmo
      have hrzl := hrd.len
      have hJl : J1.length = J.length + Rn := by rw [hnx, List.length_append, hrzl]
      have HWR := Lib.hid (fun W h1 h2 => qwr_c w0 g A' c' σ ρ Rz N hsl hsi hri (by omega) RA Rn Rc hzi (by omega) (by omega) W h1 h2 hcap (by omega) HKS.out)
      have HRD := Lib.hid hrd
      have HWk := Lib.hid hW
      have HMOk := Lib.hid hmo
      have HNE := Lib.hid (show N + (Rn : Int) = n + ((joinL (rs.take (i + 1))).length : Int) by rw [hJ1]; omega)
      have HJ1 := Lib.hid hJ1
      have q0 : (0 : Int) ≤ (i : Int) ∧ (i : Int) < (m : Int) := by omega
      subst hAr
      clear hrd hW hmo hnx hle hsl hsi hrl hri hσ hρ hN hJ hJ1 hJl hzl hzi hmem hRi hcell hrzl hn1
      go_wp2_with (go_at_call 130; (with_reducible refine (HWR.out _ HWk.out HRD.out).mono ?_); rintro e w1 ⟨rfl, A1, c1, hW1⟩; rw [← HMOk.out.1, ← HMOk.out.2, ← HJ1.out, HNE.out] at hW1; have HW1 := Lib.hid hW1; clear hW1)
      go_roundw
      case rel => exact ⟨i + 1, A1, c1, by omega, by go_num, HW1.out⟩
      case measure => simp [intOf]; omega
    · obtain rfl : i = m := by omega
      rw [List.take_of_length_le (by rw [HM.out]; exact Nat.le_refl _)] at hW
      have HWk := Lib.hid hW
      clear hW
      go_wp2
      go_end0
      exact ⟨rfl, A', c', HWk.out⟩
theorem sha_all (J : List Int) : finL (nextS startL [] J) (nextR [] J) (0 + (J.length : Int)) = shaL J := by
  rw [Int.zero_add]
  exact sha_fin J
set_option maxHeartbeats 1000000 in
theorem qsum_c (A : Option Addr) (n c : Nat) (rs : List Row) (w : World) (hr : RdRows w w.heap.size A n rs) (hnc : n ≤ c) (hk : RowsOk rs) (hkst : Kst w) :
    Calls Tryz.prog 102 #[.slice A n c] w fun e w' => e = .returned (.agg (intsA .u8 (shaL (joinL rs)))) ∧ Below w.heap.size w w' := by
  have hJl := joinL_small rs hk
  have hJi : ∀ z ∈ joinL rs, 0 ≤ z ∧ z < 256 := by
    have := joinL_in rs hk rs.length
    rwa [List.take_length] at this
  have HR := Lib.hid hr
  have HKS := Lib.hid hkst
  have HWA := Lib.hid (fun w0 g A3 c3 h W hw k => qwa_c w0 g A3 c3 startL [] 0 rfl startL_in (by simp) (by simp) (by omega) A n c rs h hk (by omega) W hw k)
  have HHA := Lib.hid (fun w0 g A4 c4 W hw k => qhash_c w0 g A4 c4 (nextS startL [] (joinL rs)) (nextR [] (joinL rs)) (0 + ((joinL rs).length : Int)) (nextS_len _ _ _ rfl) (nextS_in _ _ _ startL_in) (nextR_in _ _ (by simp) hJi) (by omega) (by omega) (by rw [nextR_len, List.length_nil, Nat.zero_add]; omega) W hw k)
  rw [sha_all] at HHA
  have HNW := Lib.hid (fun W => qnew_c W)
  have HBG := Lib.hid (fun W => qbegin_c startL [] rfl none 0 0 0 (by omega) (by omega) W Rd.none_)
  obtain ⟨Z, hZ⟩ : ∃ Z : List Int, List.replicate 32 0 = Z := ⟨_, rfl⟩
  have HZ0 := Lib.hid zero_hash
  rw [hZ] at HZ0
  have hRl := shaL_len (joinL rs)
  obtain ⟨R, hR⟩ : ∃ R, shaL (joinL rs) = R := ⟨_, rfl⟩
  rw [hR] at HHA hRl ⊢
  have SR := Lib.hid (show (Tryz.prog.info? 38).map (·.size) = some R.length by rw [hRl]; exact size_hash)
  have ZR := Lib.hid (show Z.length = R.length by rw [hRl, ← hZ]; simp)
  obtain ⟨σ, hσ⟩ : ∃ x, nextS startL [] (joinL rs) = x := ⟨_, rfl⟩
  obtain ⟨ρ, hρ⟩ : ∃ x, nextR [] (joinL rs) = x := ⟨_, rfl⟩
  obtain ⟨N, hN⟩ : ∃ x : Int, 0 + ((joinL rs).length : Int) = x := ⟨_, rfl⟩
  rw [hσ, hρ, hN] at HWA HHA
  obtain ⟨V, hV⟩ : ∃ V, wrV startL none 0 0 0 = V := ⟨_, rfl⟩
  rw [hV] at HNW HBG
  clear hr hk hkst hJl hJi hZ hR hRl hσ hρ hN hV
  go_enter Tryz.func102, Tryz.ntmps102
  go_wp2_with (first
    | (with_reducible refine at_any ?_; refine at_dst 2 rfl ?_; refine wpList_alloc_ints rfl 38 rfl .u8 Z HZ0.out ?_; intro w1 hk1 hs1 hb1)
    | (go_at_call 120; (with_reducible refine (HNW.out _).mono ?_); rintro e w2 ⟨rfl, hb2⟩; have hk2 := Lib.hid (hk1.out.below hb2 hk1.out.lt); have bl2 := Lib.hid (hb1.trans (hb2.mono hb1.size)))
    | (go_at_call 119; (with_reducible refine (HBG.out _).mono ?_); rintro e w3 ⟨g, A3, c3, rfl, hW3⟩; have HW3 := Lib.hid hW3; clear hW3)
    | (go_at_call 121; (with_reducible refine (HWA.out w2 g A3 c3 ((HR.out.below bl2.out).monoB bl2.out.size) w3 HW3.out (HKS.out.below bl2.out)).mono ?_); rintro e w4 ⟨rfl, A4, c4, hW4⟩; have HW4 := Lib.hid hW4; clear hW4)
    | (go_at_call 122; (with_reducible refine (HHA.out w2 g A4 c4 w4 HW4.out (HKS.out.below bl2.out)).mono ?_); rintro e w5 ⟨rfl, hb5⟩; have hk5 := Lib.hid (hk2.out.below hb5 hk2.out.lt); have bl5 := Lib.hid (bl2.out.trans (hb5.mono bl2.out.size)))
    | (with_reducible refine at_any ?_; refine at_store 2 rfl ?_; refine wpList_store_ints rfl 38 (.tmp 2) (.tmp 10) rfl w.heap.size rfl 38 .u8 Z R hk5.out rfl ZR.out SR.out ?_; intro w9 hk9 hs9 hb9 ho9)
    | (refine bodyPost_cell 2 38 rfl w.heap.size rfl 38 .u8 R hk9.out _ Tryz.underlying38 rfl SR.out rfl ?_))
  exact bl5.out.trans (hb9 _ (Nat.le_refl _))
end
section
open Go.ChangeShapes Go.WideShapes Go.ChangeAt Go.RowKit
theorem qput64_c (x : Int) (h0 : 0 ≤ x) (h1 : x < 18446744073709551616) (w : World) : Calls Tryz.prog 101 #[.int .u64 x] w fun e w' => e = .returned (.agg (intsA .u8 (put8L x))) ∧ Below w.heap.size w w' :=
  (put64_c x h0 h1 w).mono fun _ _ ⟨h, h2, _⟩ => ⟨h, h2⟩
set_option maxHeartbeats 2000000 in
theorem qblock_c (s : List Int) (d i : Int) (hl : s.length = 32) (hs : ∀ z ∈ s, 0 ≤ z ∧ z < 256) (d0 : 0 ≤ d) (d1 : d < 18446744073709551616) (i0 : 0 ≤ i) (i1 : i < 18446744073709551616) (w : World) (hkst : Kst w) :
    Calls Tryz.prog 74 #[.agg (intsA .u8 s), .int .u64 d, .int .u64 i] w fun e w' => e = .returned (.agg (intsA .u8 (blkL s d i))) ∧ Below w.heap.size w w' := by
  have HPD := Lib.hid (fun W => qput64_c d d0 d1 W)
  have HPI := Lib.hid (fun W => qput64_c i i0 i1 W)
  have hin := blkIn_in s d i hs d0 d1 i0 i1
  have hxl : (put8L d).length = 8 := rfl
  have hyl : (put8L i).length = 8 := rfl
  have hX : ∀ z ∈ put8L d, 0 ≤ z ∧ z < 256 := put8L_in d d0 d1
  have hY : ∀ z ∈ put8L i, 0 ≤ z ∧ z < 256 := put8L_in i i0 i1
  have hj : blkL s d i = shaL (s ++ put8L d ++ put8L i) := rfl
  have hRl := blkL_len s d i
  obtain ⟨X, hXe⟩ : ∃ X, put8L d = X := ⟨_, rfl⟩
  obtain ⟨Y, hYe⟩ : ∃ Y, put8L i = Y := ⟨_, rfl⟩
  obtain ⟨R, hRe⟩ : ∃ R, blkL s d i = R := ⟨_, rfl⟩
  rw [hXe] at HPD hxl hX hj
  rw [hYe] at HPI hyl hY hj
  rw [hRe] at hj hRl ⊢
  obtain ⟨Z, hZ⟩ : ∃ Z : List Int, List.replicate 32 0 = Z := ⟨_, rfl⟩
  obtain ⟨V, hV⟩ : ∃ V : List Int, List.replicate 8 0 = V := ⟨_, rfl⟩
  have HZ0 := Lib.hid zero_hash
  have HV0 := Lib.hid zero_b8s
  rw [hZ] at HZ0
  rw [hV] at HV0
  have hZl : Z.length = 32 := by rw [← hZ]; simp
  have hVl : V.length = 8 := by rw [← hV]; simp
  have SR := Lib.hid (show (Tryz.prog.info? 38).map (·.size) = some R.length by rw [hRl]; exact size_hash)
  have SRA := Lib.hid (show (Tryz.prog.info? 38).map (·.size) = some (intsA .u8 R).size by rw [intsA_size, hRl]; exact size_hash)
  have ZRA := Lib.hid (show (intsA .u8 Z).size = (intsA .u8 R).size by rw [intsA_size, intsA_size, hRl, hZl])
  have SX := Lib.hid (show (Tryz.prog.info? 153).map (·.size) = some X.length by rw [hxl]; exact size_b8s)
  have SY := Lib.hid (show (Tryz.prog.info? 153).map (·.size) = some Y.length by rw [hyl]; exact size_b8s)
  have VX := Lib.hid (show V.length = X.length by rw [hxl, hVl])
  have VY := Lib.hid (show V.length = Y.length by rw [hyl, hVl])
  have HSM := Lib.hid (fun (g3 g7 g8 : Nat) A W h (k : Kst W) => qsum_c A 3 3 [⟨some ⟨g3, 0, none⟩, 32, 32, s⟩, ⟨some ⟨g7, 0, none⟩, 8, 8, X⟩, ⟨some ⟨g8, 0, none⟩, 8, 8, Y⟩] W h (Nat.le_refl _)
    ⟨by simp, fun r hr => by
      simp only [List.mem_cons, List.not_mem_nil, or_false] at hr
      rcases hr with rfl | rfl | rfl
      · exact ⟨by dsimp only; omega, hs⟩
      · exact ⟨by dsimp only; omega, hX⟩
      · exact ⟨by dsimp only; omega, hY⟩⟩ k)
  have HJ := Lib.hid (show ∀ g3 g7 g8 : Nat, shaL (joinL [⟨some ⟨g3, 0, none⟩, 32, 32, s⟩, ⟨some ⟨g7, 0, none⟩, 8, 8, X⟩, ⟨some ⟨g8, 0, none⟩, 8, 8, Y⟩]) = R from fun _ _ _ => by rw [hj]; simp [joinL])
  have HSL := Lib.hid hl
  have HXL := Lib.hid hxl
  have HYL := Lib.hid hyl
  have HKS := Lib.hid hkst
  clear hin hxl hyl hX hY hj hRl hXe hYe hRe hZ hV hZl hVl hl hs hkst
  go_enter Tryz.func74, Tryz.ntmps74
  go_wp2_with (first
    | (with_reducible refine at_any ?_; refine at_dst 3 rfl ?_; refine wpList_box_ints rfl 38 (.tmp 0) rfl .u8 s rfl ?_; intro w1 hk1 hs1 hb1; have F1 := Lib.hid (Fx.box hk1.out hb1); clear hk1 hs1 hb1)
    | (with_reducible refine at_any ?_; refine at_dst 6 rfl ?_; refine wpList_alloc_ints rfl 38 rfl .u8 Z HZ0.out ?_; intro w2 hk2 hs2 hb2; have U1 := Lib.hid (Fx.under_new F1.out rfl); have F2 := Lib.hid (Fx.new F1.out hk2.out hb2); clear hk2 hs2 F1 hb2)
    | (go_at_call 101; (with_reducible refine (HPD.out _).mono ?_); rintro e w3 ⟨rfl, hb3⟩; have F3 := Lib.hid (F2.out.below hb3); clear F2 hb3)
    | (go_at_call 101; (with_reducible refine (HPI.out _).mono ?_); rintro e w4 ⟨rfl, hb4⟩; have F4 := Lib.hid (F3.out.below hb4); clear F3 hb4)
    | (with_reducible refine at_any ?_; refine at_dst 7 rfl ?_; refine wpList_alloc_ints rfl 153 rfl .u8 V HV0.out ?_; intro w5 hk5 hs5 hb5; have U4 := Lib.hid (Fx.under_new F4.out rfl); have F5 := Lib.hid (Fx.new F4.out hk5.out hb5); clear hk5 hs5 F4 hb5)
    | (with_reducible refine at_any ?_; refine at_dst 8 rfl ?_; refine wpList_alloc_ints rfl 153 rfl .u8 V HV0.out ?_; intro w6 hk6 hs6 hb6; have U5 := Lib.hid (Fx.under_new F5.out rfl); have F6 := Lib.hid (Fx.new F5.out hk6.out hb6); clear hk6 hs6 F5 hb6)
    | (with_reducible refine at_any ?_; refine at_store 7 rfl ?_; refine wpList_store_ints rfl 153 (.tmp 7) (.tmp 10) rfl w4.heap.size rfl 153 .u8 V X (Fx.snd F6.out) rfl VX.out SX.out ?_; intro w7 hk7 hs7 hb7 ho7; have F7 := Lib.hid (Fx.put2 F6.out U5.out U4.out hk7.out hs7.out hb7 ho7); have U7 := Lib.hid (Fx.under_put U5.out (intsA .u8 X)); clear hk7 hs7 hb7 ho7 F6 U5)
    | (with_reducible refine at_any ?_; refine at_store 8 rfl ?_; refine wpList_store_ints rfl 153 (.tmp 8) (.tmp 12) rfl w5.heap.size rfl 153 .u8 V Y (Fx.fst F7.out) rfl VY.out SY.out ?_; intro w8 hk8 hs8 hb8 ho8; have F8 := Lib.hid (Fx.put1 F7.out U7.out hk8.out hs8.out hb8 ho8); clear hk8 hs8 hb8 ho8 F7))
  have hB : Blk4 w w5.heap.size w4.heap.size w1.heap.size w.heap.size Y X Z s w8 := F8.out
  have h7 : w4.heap.size < w5.heap.size := U7.out.1
  have h6 : w1.heap.size < w4.heap.size := U4.out.1
  have h3 : w.heap.size < w1.heap.size := U1.out.1
  clear F8 U7 U4 U1
  obtain ⟨g8, hg8⟩ : ∃ g, w5.heap.size = g := ⟨_, rfl⟩
  obtain ⟨g7, hg7⟩ : ∃ g, w4.heap.size = g := ⟨_, rfl⟩
  obtain ⟨g6, hg6⟩ : ∃ g, w1.heap.size = g := ⟨_, rfl⟩
  obtain ⟨g3, hg3⟩ : ∃ g, w.heap.size = g := ⟨_, rfl⟩
  have h0 : w.heap.size ≤ g3 := by omega
  rw [hg8, hg7, hg6, hg3] at hB
  rw [hg8, hg7] at h7
  rw [hg6, hg7] at h6
  rw [hg3, hg6] at h3
  rw [hg8, hg7, hg6, hg3]
  clear hg8 hg7 hg6 hg3
  refine wp_region_held_drew (S := Blk4W w g8 g7 g6 g3 Y X s) (by kernel_rfl) (hB.drew.any) (fun hS => ?_)
  have hH := hB.drew
  refine held_v 0 (some 13) rfl rfl (by kernel_rfl) (by kernel_rfl) (by kernel_rfl) (fun _ _ _ _ h => h) (by kernel_rfl) (.slice (some ⟨g3, 0, none⟩) 32 32) (fun W h => by go_simp) hS ?_
  try simp only [Act.put, List.setIfInBounds_toArray, List.set_cons_zero, List.set_cons_succ]
  refine held_v 1 (some 14) rfl rfl (by kernel_rfl) (by kernel_rfl) (by kernel_rfl) (fun _ _ _ _ h => h) (by kernel_rfl) (.slice (some ⟨g7, 0, none⟩) 8 8) (fun W h => by go_simp) hS ?_
  try simp only [Act.put, List.setIfInBounds_toArray, List.set_cons_zero, List.set_cons_succ]
  refine held_v 2 (some 15) rfl rfl (by kernel_rfl) (by kernel_rfl) (by kernel_rfl) (fun _ _ _ _ h => h) (by kernel_rfl) (.slice (some ⟨g8, 0, none⟩) 8 8) (fun W h => by go_simp) hS ?_
  try simp only [Act.put, List.setIfInBounds_toArray, List.set_cons_zero, List.set_cons_succ]
  refine wpAnyH_ready (rs := [3]) (by kernel_rfl) (by decide) ?_
  refine AllReadyH.cons rfl (fun K hK => ?_) AllReadyH.nil
  refine step_run (some 16) rfl (by kernel_rfl) _ (exec_build3 _ _ _ g3 g7 g8 32 8 8 rfl (by kernel_rfl) (by kernel_rfl) (by kernel_rfl)) ?_
  have hrow := rows3 hH.c3 hH.c7 hH.c8 HSL.out HXL.out HYL.out
  have hH9 := hH.below ((Below.refl _ _).alloc (Nat.le_refl _) (.cells (row3 g3 g7 g8 32 8 8) 36))
  refine hK.out _ _ hH9.any (fun hS => ?_)
  clear hK K
  try simp only [Act.put, List.setIfInBounds_toArray, List.set_cons_zero, List.set_cons_succ]
  refine wpAnyH_ready (rs := [4]) (by kernel_rfl) (by decide) ?_
  refine AllReadyH.cons rfl (fun K hK => ?_) AllReadyH.nil
  refine step_call (some 17) rfl (by kernel_rfl) _ _ (by kernel_rfl) _ (HSM.out g3 g7 g8 _ _ hrow (HKS.out.below hH9.bel)) ?_
  rintro e w10 ⟨rfl, hb10⟩
  rw [HJ.out g3 g7 g8]
  have hH10 := hH9.below hb10
  refine ⟨_, rfl, ?_⟩
  refine hK.out _ _ hH10.any (fun hS => ?_)
  clear hK K
  try simp only [Act.put, List.setIfInBounds_toArray, List.set_cons_zero, List.set_cons_succ]
  refine wpAnyH_ready (rs := [5]) (by kernel_rfl) (by decide) ?_
  refine AllReadyH.cons rfl (fun K hK => ?_) AllReadyH.nil
  refine step_store none rfl (by kernel_rfl) 38 (.tmp 6) (.tmp 17) rfl g6 (by kernel_rfl) 38 (intsA .u8 Z) (intsA .u8 R) hH10.c6 (by kernel_rfl) ZRA.out SRA.out (all_oneCell_toArray (ints_one .u8 R)) ?_
  intro w11 hk11 hs11 hb11 ho11
  have hH11 := hH10.put6 h6 h7 h3 h0 hk11.out hs11.out hb11 ho11
  refine hK.out _ _ hH11.any (fun hS => ?_)
  clear hK K
  try simp only [Act.put, List.setIfInBounds_toArray, List.set_cons_zero, List.set_cons_succ]
  refine wpAnyH_done (by kernel_rfl) ?_ _
  go_wp2_with (refine bodyPost_cell 6 38 rfl g6 rfl 38 .u8 R hH11.c6 _ Tryz.underlying38 rfl SR.out rfl ?_)
  exact hH11.bel
end
section
open Go.ChangeShapes Go.WideShapes Go.ChangeAt Go.RowKit
theorem and_one (x : Int) (h0 : 0 ≤ x) (h1 : x < 256) : bits .and .u64 x 1 = x % 2 := by
  have h : ∀ a : Fin 256, bits .and .u64 ((a : Nat) : Int) 1 = ((a : Nat) : Int) % 2 := by decide +kernel
  have := h ⟨x.toNat, by omega⟩
  rw [show ((⟨x.toNat, by omega⟩ : Fin 256) : Nat) = x.toNat from rfl, Int.toNat_of_nonneg h0] at this
  exact this
end
end Go.Proofs.YtkhlkggdibaefaaGreatDoor

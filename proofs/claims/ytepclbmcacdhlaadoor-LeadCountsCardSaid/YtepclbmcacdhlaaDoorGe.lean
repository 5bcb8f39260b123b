/-
  Texts of this claim, joined: UniQ, UniB. What each shows, and its conditions, stand at its own head.
-/
import Derived.Test.YtepclbmcacdhlaaDoorGd
/-
  A number as a tape of so many bits, in plain Lean: its bytes, its bits, and what draws of it give.
  Conditions: those that each theorem names.
-/
set_option maxRecDepth 100000
set_option linter.unusedVariables false
set_option linter.unusedSimpArgs false
namespace Go.Proofs.YtepclbmcacdhlaaDoor
/-- The bit of the number q, of the first i ones; the first one is the highest of all. -/
def bitB (x bits i q : Nat) : Int := if q < i then ((x / 2 ^ (bits - 1 - q) % 2 : Nat) : Int) else 0
def byteB (x bits i j : Nat) : Int := 128 * bitB x bits i (8 * j) + 64 * bitB x bits i (8 * j + 1) + 32 * bitB x bits i (8 * j + 2) + 16 * bitB x bits i (8 * j + 3) + 8 * bitB x bits i (8 * j + 4) + 4 * bitB x bits i (8 * j + 5) + 2 * bitB x bits i (8 * j + 6) + bitB x bits i (8 * j + 7)
/-- The bytes of the first i bits. -/
def bytesB (x bits i : Nat) : List Int := (List.range ((i + 7) / 8)).map (byteB x bits i)
/-- The same, with room for one bit more. -/
def bytesC (x bits i : Nat) : List Int := (List.range (i / 8 + 1)).map (byteB x bits i)
theorem bitB_in (x bits i q : Nat) : 0 ≤ bitB x bits i q ∧ bitB x bits i q < 2 := by unfold bitB; split <;> omega
theorem bitB_out (x bits i q : Nat) (h : i ≤ q) : bitB x bits i q = 0 := by unfold bitB; rw [if_neg (by omega)]
theorem bitB_old (x bits i q : Nat) (h : q ≠ i) : bitB x bits (i + 1) q = bitB x bits i q := by
  unfold bitB
  by_cases h1 : q < i
  · rw [if_pos h1, if_pos (by omega)]
  · rw [if_neg h1, if_neg (by omega)]
theorem byteB_in (x bits i j : Nat) : 0 ≤ byteB x bits i j ∧ byteB x bits i j < 256 := by
  have h0 := bitB_in x bits i (8 * j)
  have h1 := bitB_in x bits i (8 * j + 1)
  have h2 := bitB_in x bits i (8 * j + 2)
  have h3 := bitB_in x bits i (8 * j + 3)
  have h4 := bitB_in x bits i (8 * j + 4)
  have h5 := bitB_in x bits i (8 * j + 5)
  have h6 := bitB_in x bits i (8 * j + 6)
  have h7 := bitB_in x bits i (8 * j + 7)
  unfold byteB
  omega
theorem byteB_other (x bits i j : Nat) (h : j ≠ i / 8) : byteB x bits (i + 1) j = byteB x bits i j := by
  unfold byteB
  rw [bitB_old _ _ _ _ (by omega), bitB_old _ _ _ _ (by omega), bitB_old _ _ _ _ (by omega), bitB_old _ _ _ _ (by omega), bitB_old _ _ _ _ (by omega), bitB_old _ _ _ _ (by omega), bitB_old _ _ _ _ (by omega), bitB_old _ _ _ _ (by omega)]
theorem eight (r : Nat) (h : r < 8) : r = 0 ∨ r = 1 ∨ r = 2 ∨ r = 3 ∨ r = 4 ∨ r = 5 ∨ r = 6 ∨ r = 7 := by omega
theorem byteB_next (x bits i : Nat) : byteB x bits (i + 1) (i / 8) = byteB x bits i (i / 8) + bitB x bits (i + 1) i * 2 ^ (7 - i % 8) ∧ byteB x bits i (i / 8) + 2 ^ (7 - i % 8) < 256 := by
  obtain ⟨a, r, hr, rfl⟩ : ∃ a r, r < 8 ∧ i = 8 * a + r := ⟨i / 8, i % 8, by omega, by omega⟩
  rw [show (8 * a + r) / 8 = a by omega, show (8 * a + r) % 8 = r by omega]
  have ho := fun q (h : q ≠ 8 * a + r) => bitB_old x bits (8 * a + r) q h
  have hz := fun q (h : 8 * a + r ≤ q) => bitB_out x bits (8 * a + r) q h
  have hi := fun q => bitB_in x bits (8 * a + r) q
  have hn := bitB_in x bits (8 * a + r + 1) (8 * a + r)
  have i0 := hi (8 * a)
  have i1 := hi (8 * a + 1)
  have i2 := hi (8 * a + 2)
  have i3 := hi (8 * a + 3)
  have i4 := hi (8 * a + 4)
  have i5 := hi (8 * a + 5)
  have i6 := hi (8 * a + 6)
  have i7 := hi (8 * a + 7)
  unfold byteB
  rcases eight r hr with rfl | rfl | rfl | rfl | rfl | rfl | rfl | rfl
  · rw [ho (8 * a + 1) (by omega), ho (8 * a + 2) (by omega), ho (8 * a + 3) (by omega), ho (8 * a + 4) (by omega), ho (8 * a + 5) (by omega), ho (8 * a + 6) (by omega), ho (8 * a + 7) (by omega)]
    have z0 := hz (8 * a) (by omega)
    have z1 := hz (8 * a + 1) (by omega)
    have z2 := hz (8 * a + 2) (by omega)
    have z3 := hz (8 * a + 3) (by omega)
    have z4 := hz (8 * a + 4) (by omega)
    have z5 := hz (8 * a + 5) (by omega)
    have z6 := hz (8 * a + 6) (by omega)
    have z7 := hz (8 * a + 7) (by omega)
    simp only [Nat.add_zero] at *
    omega
  · rw [ho (8 * a) (by omega), ho (8 * a + 2) (by omega), ho (8 * a + 3) (by omega), ho (8 * a + 4) (by omega), ho (8 * a + 5) (by omega), ho (8 * a + 6) (by omega), ho (8 * a + 7) (by omega)]
    have z1 := hz (8 * a + 1) (by omega)
    have z2 := hz (8 * a + 2) (by omega)
    have z3 := hz (8 * a + 3) (by omega)
    have z4 := hz (8 * a + 4) (by omega)
    have z5 := hz (8 * a + 5) (by omega)
    have z6 := hz (8 * a + 6) (by omega)
    have z7 := hz (8 * a + 7) (by omega)
    omega
  · rw [ho (8 * a) (by omega), ho (8 * a + 1) (by omega), ho (8 * a + 3) (by omega), ho (8 * a + 4) (by omega), ho (8 * a + 5) (by omega), ho (8 * a + 6) (by omega), ho (8 * a + 7) (by omega)]
    have z2 := hz (8 * a + 2) (by omega)
    have z3 := hz (8 * a + 3) (by omega)
    have z4 := hz (8 * a + 4) (by omega)
    have z5 := hz (8 * a + 5) (by omega)
    have z6 := hz (8 * a + 6) (by omega)
    have z7 := hz (8 * a + 7) (by omega)
    omega
  · rw [ho (8 * a) (by omega), ho (8 * a + 1) (by omega), ho (8 * a + 2) (by omega), ho (8 * a + 4) (by omega), ho (8 * a + 5) (by omega), ho (8 * a + 6) (by omega), ho (8 * a + 7) (by omega)]
    have z3 := hz (8 * a + 3) (by omega)
    have z4 := hz (8 * a + 4) (by omega)
    have z5 := hz (8 * a + 5) (by omega)
    have z6 := hz (8 * a + 6) (by omega)
    have z7 := hz (8 * a + 7) (by omega)
    omega
  · rw [ho (8 * a) (by omega), ho (8 * a + 1) (by omega), ho (8 * a + 2) (by omega), ho (8 * a + 3) (by omega), ho (8 * a + 5) (by omega), ho (8 * a + 6) (by omega), ho (8 * a + 7) (by omega)]
    have z4 := hz (8 * a + 4) (by omega)
    have z5 := hz (8 * a + 5) (by omega)
    have z6 := hz (8 * a + 6) (by omega)
    have z7 := hz (8 * a + 7) (by omega)
    omega
  · rw [ho (8 * a) (by omega), ho (8 * a + 1) (by omega), ho (8 * a + 2) (by omega), ho (8 * a + 3) (by omega), ho (8 * a + 4) (by omega), ho (8 * a + 6) (by omega), ho (8 * a + 7) (by omega)]
    have z5 := hz (8 * a + 5) (by omega)
    have z6 := hz (8 * a + 6) (by omega)
    have z7 := hz (8 * a + 7) (by omega)
    omega
  · rw [ho (8 * a) (by omega), ho (8 * a + 1) (by omega), ho (8 * a + 2) (by omega), ho (8 * a + 3) (by omega), ho (8 * a + 4) (by omega), ho (8 * a + 5) (by omega), ho (8 * a + 7) (by omega)]
    have z6 := hz (8 * a + 6) (by omega)
    have z7 := hz (8 * a + 7) (by omega)
    omega
  · rw [ho (8 * a) (by omega), ho (8 * a + 1) (by omega), ho (8 * a + 2) (by omega), ho (8 * a + 3) (by omega), ho (8 * a + 4) (by omega), ho (8 * a + 5) (by omega), ho (8 * a + 6) (by omega)]
    have z7 := hz (8 * a + 7) (by omega)
    omega
/-- The bits of a byte are those that it was made of. -/
theorem byteB_bit (x bits i q : Nat) : byteB x bits i (q / 8) / 2 ^ (7 - q % 8) % 2 = bitB x bits i q := by
  obtain ⟨a, r, hr, rfl⟩ : ∃ a r, r < 8 ∧ q = 8 * a + r := ⟨q / 8, q % 8, by omega, by omega⟩
  rw [show (8 * a + r) / 8 = a by omega, show (8 * a + r) % 8 = r by omega]
  have hi := fun q => bitB_in x bits i q
  have i0 := hi (8 * a)
  have i1 := hi (8 * a + 1)
  have i2 := hi (8 * a + 2)
  have i3 := hi (8 * a + 3)
  have i4 := hi (8 * a + 4)
  have i5 := hi (8 * a + 5)
  have i6 := hi (8 * a + 6)
  have i7 := hi (8 * a + 7)
  unfold byteB
  rcases eight r hr with rfl | rfl | rfl | rfl | rfl | rfl | rfl | rfl
  all_goals
    try rw [show (2 : Int) ^ (7 - 0) = 128 from rfl]
    try rw [show (2 : Int) ^ (7 - 1) = 64 from rfl]
    try rw [show (2 : Int) ^ (7 - 2) = 32 from rfl]
    try rw [show (2 : Int) ^ (7 - 3) = 16 from rfl]
    try rw [show (2 : Int) ^ (7 - 4) = 8 from rfl]
    try rw [show (2 : Int) ^ (7 - 5) = 4 from rfl]
    try rw [show (2 : Int) ^ (7 - 6) = 2 from rfl]
    try rw [show (2 : Int) ^ (7 - 7) = 1 from rfl]
    try rw [show 8 * a + 0 = 8 * a from rfl]
    omega
theorem bytesB_len (x bits i : Nat) : (bytesB x bits i).length = (i + 7) / 8 := by unfold bytesB; rw [List.length_map, List.length_range]
theorem bytesC_len (x bits i : Nat) : (bytesC x bits i).length = i / 8 + 1 := by unfold bytesC; rw [List.length_map, List.length_range]
theorem bytesB_in (x bits i : Nat) : ∀ z ∈ bytesB x bits i, 0 ≤ z ∧ z < 256 := by
  intro z hz
  obtain ⟨j, _, rfl⟩ := List.mem_map.1 hz
  exact byteB_in x bits i j
theorem bytesB_at (x bits i j : Nat) (h : j < (i + 7) / 8) : (bytesB x bits i).getD j 0 = byteB x bits i j := by
  unfold bytesB
  rw [List.getD_eq_getElem?_getD, List.getElem?_map, List.getElem?_range h]
  rfl
theorem bytesC_at (x bits i : Nat) : (bytesC x bits i).getD (i / 8) 0 = byteB x bits i (i / 8) := by
  unfold bytesC
  rw [List.getD_eq_getElem?_getD, List.getElem?_map, List.getElem?_range (by omega)]
  rfl
theorem bytesB_get (x bits i j : Nat) (h : j < (bytesB x bits i).length) : (bytesB x bits i)[j] = byteB x bits i j := by simp [bytesB]
theorem bytesC_get (x bits i j : Nat) (h : j < (bytesC x bits i).length) : (bytesC x bits i)[j] = byteB x bits i j := by simp [bytesC]
theorem bytesC_new (x bits i : Nat) (h : i % 8 = 0) : bytesB x bits i ++ [0] = bytesC x bits i := by
  unfold bytesB bytesC
  rw [List.range_succ, List.map_append, show (i + 7) / 8 = i / 8 by omega]
  congr 1
  show [0] = [byteB x bits i (i / 8)]
  unfold byteB
  rw [bitB_out _ _ _ _ (by omega), bitB_out _ _ _ _ (by omega), bitB_out _ _ _ _ (by omega), bitB_out _ _ _ _ (by omega), bitB_out _ _ _ _ (by omega), bitB_out _ _ _ _ (by omega), bitB_out _ _ _ _ (by omega), bitB_out _ _ _ _ (by omega)]
  rfl
theorem bytesC_old (x bits i : Nat) (h : i % 8 ≠ 0) : bytesB x bits i = bytesC x bits i := by
  unfold bytesB bytesC
  rw [show (i + 7) / 8 = i / 8 + 1 by omega]
/-- One bit more. -/
theorem bytesB_next (x bits i : Nat) : bytesB x bits (i + 1) = (bytesC x bits i).set (i / 8) (byteB x bits (i + 1) (i / 8)) := by
  apply List.ext_getElem
  · rw [bytesB_len, List.length_set, bytesC_len]; omega
  · intro j h1 h2
    rw [List.getElem_set, bytesB_get]
    split
    · rename_i h; rw [← h]
    · rename_i h; rw [bytesC_get]; exact byteB_other x bits i j (fun h3 => h h3.symm)
theorem bytesB_zero (x bits i : Nat) (h : bitB x bits (i + 1) i = 0) : bytesB x bits (i + 1) = bytesC x bits i := by
  rw [bytesB_next, (byteB_next x bits i).1, h, Int.zero_mul, Int.add_zero]
  apply List.ext_getElem
  · rw [List.length_set]
  · intro j h1 h2
    rw [List.getElem_set]
    split
    · rename_i h3; subst h3; rw [bytesC_get]
    · rfl
theorem bytesB_one (x bits i : Nat) (h : bitB x bits (i + 1) i = 1) : bytesB x bits (i + 1) = (bytesC x bits i).set (i / 8) (byteB x bits i (i / 8) + 2 ^ (7 - i % 8)) := by
  rw [bytesB_next, (byteB_next x bits i).1, h, Int.one_mul]
theorem bitB_at (x bits i : Nat) : bitB x bits (i + 1) i = ((x / 2 ^ (bits - 1 - i) % 2 : Nat) : Int) := by unfold bitB; rw [if_pos (by omega)]
/-! ### the number as a source -/
def numT (x bits : Nat) : Src := ⟨1, bytesB x bits bits, bits, List.replicate 32 0, 0, 0⟩
theorem numT_ok (x bits : Nat) (h : bits ≤ 1000) : (numT x bits).Ok := ⟨(by show (-9223372036854775808 : Int) ≤ 1; omega), (by show (1 : Int) < 9223372036854775808; omega), by show (bytesB x bits bits).length ≤ _; rw [bytesB_len]; omega, bytesB_in x bits bits, by show (0 : Int) ≤ (bits : Int); omega, by show (bits : Int) < _; omega, rfl, fun z hz => by rw [List.eq_of_mem_replicate hz]; omega, Int.le_refl _, (by show (0 : Int) < 18446744073709551616; omega), Int.le_refl _, (by show (0 : Int) < 18446744073709551616; omega)⟩
theorem numT_bit (x bits n : Nat) (h : n < bits) (p : Int) : bitS ((numT x bits).to p) (n : Int) = ((x / 2 ^ (bits - 1 - n) % 2 : Nat) : Int) := by
  rw [bitS_to]
  unfold bitS
  rw [if_neg (by show ¬ (1 : Int) = 2; omega)]
  show (bytesB x bits bits).getD ((n : Int) / 8).toNat 0 / 2 ^ (7 - (n : Int) % 8).toNat % 2 = _
  rw [show ((n : Int) / 8).toNat = n / 8 by omega, show (7 - (n : Int) % 8).toNat = 7 - n % 8 by omega, bytesB_at _ _ _ _ (by omega), byteB_bit]
  unfold bitB
  rw [if_pos h]
theorem numT_num (x bits a : Nat) (p : Int) : ∀ k, a + k ≤ bits → numS ((numT x bits).to p) (a : Int) k = ((x / 2 ^ (bits - a - k) % 2 ^ k : Nat) : Int)
  | 0, _ => by rw [Nat.pow_zero, Nat.mod_one]; rfl
  | k + 1, h => by
    rw [numS_succ, numT_num x bits a p k (by omega), show (a : Int) + (k : Int) = ((a + k : Nat) : Int) by omega, numT_bit x bits (a + k) (by omega)]
    rw [show bits - 1 - (a + k) = bits - a - (k + 1) by omega, show bits - a - k = bits - a - (k + 1) + 1 by omega, Nat.pow_succ 2 (bits - a - (k + 1)), ← Nat.div_div_eq_div_mul]
    generalize x / 2 ^ (bits - a - (k + 1)) = y
    rw [Nat.pow_succ 2 k, Nat.mul_comm (2 ^ k) 2, Nat.mod_mul]
    generalize y / 2 % 2 ^ k = z
    omega
theorem numT_take (x bits a k : Nat) (h : a + k ≤ bits) (hk : k ≤ 64) : takeE ((numT x bits).to (a : Int)) k = 0 ∧ takeV ((numT x bits).to (a : Int)) k = ((x / 2 ^ (bits - a - k) % 2 ^ k : Nat) : Int) := by
  have hr : rightS ((numT x bits).to (a : Int)) = true := by
    unfold rightS
    rw [if_pos (show ((numT x bits).to (a : Int)).kind = 1 from rfl)]
    show (decide ((bits : Int) ≤ 8 * ((bytesB x bits bits).length : Int)) && decide ((a : Int) ≤ (bits : Int))) = true
    rw [bytesB_len, decide_eq_true (by omega), decide_eq_true (by omega)]
    rfl
  have hl : leftS ((numT x bits).to (a : Int)) = (bits : Int) - a := by
    unfold leftS
    rw [if_pos hr, if_pos (show ((numT x bits).to (a : Int)).kind = 1 from rfl)]
    rfl
  have he : takeE ((numT x bits).to (a : Int)) k = 0 := takeE_ok.2 ⟨hr, by omega, by omega, by rw [hl]; omega⟩
  refine ⟨he, ?_⟩
  unfold takeV
  rw [if_pos he, Int.toNat_natCast]
  exact numT_num x bits a _ k h
/-- What draws of a number as a tape give. -/
def DrawsAs (bits : Nat) (h : Option Nat) (r : Int × Src × Int) : Prop := match h with
  | some v => r.1 = (v : Int) ∧ r.2.2 = 0 ∧ r.2.1.at_ ≤ (bits : Int)
  | none => r.2.2 = 9 ∧ r.2.1.at_ = (bits : Int)
theorem numT_draw (x k n m : Nat) (hk : k ≤ 64) : ∀ j, j ≤ m → DrawsAs (k * m) (hits (2 ^ k) n j (x % (2 ^ k) ^ j)) (drawGo k (n : Int) j ((numT x (k * m)).to ((k * (m - j) : Nat) : Int)))
  | 0, _ => by
    rw [drawGo_zero]
    exact ⟨rfl, by show ((k * (m - 0) : Nat) : Int) = _; rw [Nat.sub_zero]⟩
  | j + 1, hj => by
    have hd := numT_draw x k n m hk j (by omega)
    have e1 : k * (m - j) = k * (m - (j + 1)) + k := by rw [show m - j = m - (j + 1) + 1 by omega, Nat.mul_add, Nat.mul_one]
    have e2 : k * m = k * (m - j) + k * j := by rw [← Nat.mul_add]; congr 1; omega
    obtain ⟨h1, h2⟩ := numT_take x (k * m) (k * (m - (j + 1))) k (by omega) hk
    have e3 : k * m - k * (m - (j + 1)) - k = k * j := by omega
    rw [e3, Nat.pow_mul] at h2
    have e4 : x % (2 ^ k) ^ (j + 1) / (2 ^ k) ^ j = x / (2 ^ k) ^ j % 2 ^ k := by rw [Nat.pow_succ, Nat.mod_mul_right_div_self]
    have e5 : x % (2 ^ k) ^ (j + 1) % (2 ^ k) ^ j = x % (2 ^ k) ^ j := by rw [Nat.pow_succ]; exact Nat.mod_mul_right_mod _ _ _
    rw [hits, e4, e5]
    by_cases hx : x / (2 ^ k) ^ j % 2 ^ k < n
    · rw [if_pos hx, drawGo_hit h1 (by rw [h2]; exact_mod_cast hx)]
      exact ⟨h2, rfl, by rw [takeS_to h1]; show ((k * (m - (j + 1)) : Nat) : Int) + (k : Int) ≤ _; omega⟩
    · rw [if_neg hx, drawGo_miss h1 (by rw [h2]; exact_mod_cast hx), takeS_to h1, to_to]
      rw [show ((numT x (k * m)).to ((k * (m - (j + 1)) : Nat) : Int)).at_ + (k : Int) = ((k * (m - j) : Nat) : Int) from (by show ((k * (m - (j + 1)) : Nat) : Int) + (k : Int) = _; omega)]
      exact hd
/-- What is drawn, if anything, is below the bound, by whole attempts; with fewer attempts nothing is. -/
theorem draw_first (s : Src) (n m : Int) (hm0 : 1 ≤ m) (hm1 : m ≤ 64) :
    (drawE s n m ≠ 0 ∧ drawV s n m = 0) ∨ (drawE s n m = 0 ∧ ∃ j : Nat, (j : Int) < m ∧ drawV s n m < n ∧ (drawT s n m).at_ = s.at_ + ((needN n * (j + 1) : Nat) : Int) ∧ (1 ≤ j → drawR s n (j : Int) = (0, s.to (s.at_ + ((needN n * j : Nat) : Int)), 9))) := by
  unfold drawE drawV drawT drawR
  by_cases hb : drawB s n m = true
  · rw [if_pos hb]
    by_cases he : (drawGo (needN n) n m.toNat s).2.2 = 0
    · refine .inr ⟨he, ?_⟩
      obtain ⟨h1, j, hj, h2, h3⟩ := drawGo_first (needN n) n m.toNat s he
      refine ⟨j, by omega, h1, by rw [h2]; rfl, fun hj1 => ?_⟩
      have hb2 : drawB s n (j : Int) = true := by
        unfold drawB at hb ⊢
        rw [Bool.and_eq_true] at hb ⊢
        obtain ⟨a1, a2, a3, a4⟩ := of_decide_eq_true hb.2
        exact ⟨hb.1, decide_eq_true ⟨a1, a2, by omega, by omega⟩⟩
      rw [if_pos hb2, Int.toNat_natCast]
      exact h3
    · exact .inl ⟨he, drawGo_no _ _ _ _ he⟩
  · rw [if_neg hb]
    exact .inl ⟨by show ¬ (1 : Int) = 0; omega, rfl⟩
end Go.Proofs.YtepclbmcacdhlaaDoor
/-
  What drawlotref08.Pow and Bytes return: powers; a number as a tape.
  Conditions: the power stays below 2^64; the number below 2^32, at most 31 bits.
-/
set_option maxRecDepth 100000
set_option linter.unusedSimpArgs false
namespace Go.Proofs.YtepclbmcacdhlaaDoor
open Go.ChangeShapes Go.WideShapes Go.ChangeAt Go.RowKit
set_option linter.unusedVariables false
theorem r8pow_c (x n : Nat) (hb : ∀ i, i ≤ n → x ^ i < 18446744073709551616) (hn : n ≤ 1000) (w : World) : Calls Tryd.prog 8 #[.int .u64 (x : Int), .int .i64 (n : Int)] w fun e w' => e = .returned (.int .u64 ((x ^ n : Nat) : Int)) ∧ w = w' := by
  have HB := Lib.hid hb
  clear hb
  go_enter Tryd.func8, Tryd.ntmps8
  go_wp2
  go_loop [5, 6] (fun v cc => ∃ i : Nat, i ≤ n ∧ v = .int .u64 ((x ^ i : Nat) : Int) ∧ cc = .int .i64 (i : Int)) (fun _ cc => n - (intOf cc).toNat)
  case atStart => exact ⟨0, by omega, rfl, rfl⟩
  case round =>
    obtain ⟨i, hi, rfl, rfl⟩ := hrel
    by_cases hlt : i < n
    · have hp := HB.out (i + 1) (by omega)
      rw [Nat.pow_succ] at hp
      have HS := Lib.hid (Nat.pow_succ (m := i) (n := x))
      obtain ⟨P, hP⟩ : ∃ P, x ^ i = P := ⟨_, rfl⟩
      rw [hP] at hp HS ⊢
      have hm : ((P : Int)) * (x : Int) = ((P * x : Nat) : Int) := by push_cast; rfl
      obtain ⟨M, hM⟩ : ∃ M, P * x = M := ⟨_, rfl⟩
      rw [hM] at hp hm HS
      have e1 : IntKind.u64.wrap ((P : Int) * (x : Int)) = (M : Int) := by rw [hm, IntKind.wrap_u64]; omega
      have HM := Lib.hid hm
      clear hP hM hm
      go_wp2
      go_round
      case rel => exact ⟨i + 1, by omega, by rw [HS.out], by go_num⟩
      case measure => simp [intOf]; omega
    · obtain rfl : i = n := by omega
      go_wp2
      go_ret
      exact ⟨rfl, rfl⟩
theorem size_u8s : (Tryd.prog.info? 5).map (·.size) = some 1 := by kernel_rfl
theorem blk_drew8 {w : World} {g : Nat} {t : TypeId} {cs : Array Value} (h : Blk w g t cs) : Blk w.drew g t cs := h
def AnyB (_ : World) : Prop := True
def RetSl (w : World) (zs : List Int) (e : Ending) (w' : World) : Prop := ∃ A c, e = .returned (.slice A zs.length c) ∧ zs.length ≤ c ∧ c ≤ maxLen ∧ Rd .u8 w' w'.heap.size A zs.length zs ∧ Below w.heap.size w w'
theorem right_at (x n : Nat) (hn : n ≤ 31) : Wd.right (x : Int) (n : Int) = ((x / 2 ^ n : Nat) : Int) := by
  unfold Wd.right
  rcases Nat.eq_zero_or_pos n with h0 | h0
  · subst h0
    simp
  · rw [if_neg (by omega), if_neg (by omega), Int.toNat_natCast, Int.natCast_ediv, Int.natCast_pow]
    rfl
theorem left_one (q : Nat) (hq : q ≤ 7) : Wd.left 1 (q : Int) = 2 ^ q := by
  have : q = 0 ∨ q = 1 ∨ q = 2 ∨ q = 3 ∨ q = 4 ∨ q = 5 ∨ q = 6 ∨ q = 7 := by omega
  rcases this with rfl | rfl | rfl | rfl | rfl | rfl | rfl | rfl <;> rfl
set_option maxHeartbeats 8000000 in
theorem r8bytes_c (x bits : Nat) (hx : x < 4294967296) (hb : bits ≤ 31) (w : World) : Calls Tryd.prog 10 #[.int .u64 (x : Int), .int .i64 (bits : Int)] w (RetSl w (bytesB x bits bits)) := by
  obtain ⟨i0, hi0, hz0, hz1, hzb⟩ := info_parts info_u8'
  have e1 : (x : Int) % 4294967296 = (x : Int) := by omega
  have e2 : IntKind.u32.wrap (x : Int) = (x : Int) := by rw [IntKind.wrap_u32]; omega
  have HEND : Hid (∀ v W, OwnI W w.heap.size 5 .u8 v (bytesB x bits bits) → Below w.heap.size w W → RetSl w (bytesB x bits bits) (.returned v) W) := Lib.hid (fun v W h hb => by
    obtain ⟨A, c, rfl, h1, h2⟩ := h.form
    exact ⟨A, c, rfl, h1, h2, h.rd rfl, hb⟩)
  obtain ⟨F, hF⟩ : ∃ F, RetSl w (bytesB x bits bits) = F := ⟨_, rfl⟩
  rw [hF] at HEND ⊢
  clear hF
  go_enter Tryd.func10, Tryd.ntmps10
  go_wp2
  go_loopw [5, 6] (fun v cc wr => ∃ i : Nat, i ≤ bits ∧ cc = .int .i64 (i : Int) ∧ OwnI wr w.heap.size 5 .u8 v (bytesB x bits i) ∧ Below w.heap.size w wr) (fun _ cc _ => bits - (intOf cc).toNat)
  case atStart => exact ⟨0, by omega, rfl, ⟨by simp [bytesB], .inl ⟨rfl, by simp [bytesB]⟩⟩, Below.refl _ _⟩
  case round =>
    obtain ⟨i, hi, rfl, hown, hbq⟩ := hrel
    by_cases hlt : i < bits
    · have hnx := byteB_next x bits i
      have hlb := bytesB_len x bits i
      have hlc := bytesC_len x bits i
      have hcv := bytesC_at x bits i
      have hyi := byteB_in x bits i (i / 8)
      have hrt := fun W => rright_c (x : Int) ((bits - 1 - i : Nat) : Int) (by omega) (by omega) (by omega) (by omega) W
      rw [right_at _ _ (by omega)] at hrt
      have hba := bitB_at x bits i
      have hyb : x / 2 ^ (bits - 1 - i) < 4294967296 := Nat.lt_of_le_of_lt (Nat.div_le_self _ _) hx
      obtain ⟨Y, hY⟩ : ∃ Y, x / 2 ^ (bits - 1 - i) = Y := ⟨_, rfl⟩
      rw [hY] at hrt hba hyb
      have e3 : IntKind.i64.wrap ((bits : Int) - 1 - (i : Int)) = ((bits - 1 - i : Nat) : Int) := by rw [IntKind.wrap_i64]; omega
      have e4 : (bits : Int) - 1 - (i : Int) = ((bits - 1 - i : Nat) : Int) := by omega
      obtain ⟨u, hu⟩ : ∃ u, bits - 1 - i = u := ⟨_, rfl⟩
      rw [hu] at hrt e3 e4
      have HRT := Lib.hid hrt
      obtain ⟨j, hj⟩ : ∃ j, i / 8 = j := ⟨_, rfl⟩
      obtain ⟨r, hr⟩ : ∃ r, i % 8 = r := ⟨_, rfl⟩
      have hr8 : r < 8 := by omega
      rw [hj] at hlc hcv hyi hnx
      rw [hr] at hnx
      obtain ⟨y, hy⟩ : ∃ y, byteB x bits i j = y := ⟨_, rfl⟩
      rw [hy] at hcv hyi hnx
      have hp0 : (0 : Int) < 2 ^ (7 - r) := Wd.pow_pos2 _
      have hlf := fun W => rleft_c 1 ((7 - r : Nat) : Int) (by omega) (by omega) (by omega) (by omega) W
      rw [left_one _ (by omega)] at hlf
      have hone : bitB x bits (i + 1) i = 1 → bytesB x bits (i + 1) = (bytesC x bits i).set j (y + 2 ^ (7 - r)) := fun h => by rw [bytesB_one x bits i h, hj, hr, hy]
      obtain ⟨p, hp⟩ : ∃ p : Int, 2 ^ (7 - r) = p := ⟨_, rfl⟩
      rw [hp] at hlf hnx hp0 hone
      have HLF := Lib.hid hlf
      have HJI := Lib.hid hj
      have HRI := Lib.hid hr
      have hpl := hnx.2
      have hzero := bytesB_zero x bits i
      clear hrt hnx hY hu hp hlf
      -- the row with room for one bit more
      have hjb : j ≤ 4 := by omega
      by_cases h8 : r = 0
      · have t8 : ((i : Int) % 8 == 0) = true := by rw [beq_iff_eq]; omega
        have hcn := bytesC_new x bits i (by omega)
        have HCN := Lib.hid hcn
        have hl8 : (bytesB x bits i).length ≤ 4 := by omega
        have HOW := Lib.hid hown
        have HBQ := Lib.hid hbq
        have hsz := hbq.size
        have HL8 := Lib.hid hl8
        have H8 := Lib.hid h8
        clear h8
        clear hcn hown hbq hj hr hy  e4
        by_cases hbit : Y % 2 = 1
        · have tb : ((Y : Int) % 2 == 1) = true := by rw [beq_iff_eq]; omega
          have HON1 := Lib.hid (hone (by rw [hba]; omega))
          have HLC := Lib.hid hlc
          have HCV := Lib.hid hcv
          clear hzero hone hba hcv hlc hlb
          go_wp2_with (first
            | (at_builtin; refine wpList_append_ints _ rfl (.tmp 15) (.tmp 16) 30 rfl w.heap.size 5 i0 _ 1 .u8 Tryd.underlying30 hi0 hz0 hz1 hzb rfl _ (bytesB x bits i) rfl (HOW.out.alloc _) (wr.heap.size + 1) (some ⟨wr.heap.size, 0, none⟩) 1 1 [0] rfl (rd_one wr 5 .u8 0) (by have := HL8.out; simp [maxLen]; omega) (by have := HL8.out; omega) (by simp; omega) ?_; intro v6 w6 hown6 hg6 hat6; have hb6 : Below w.heap.size w w6 := (HOW.out.alloc _).below_ (HBQ.out.alloc hsz _) (by simp; omega) hg6; rw [HCN.out] at hown6; have HOC := Lib.hid hown6; have HBQ := Lib.hid hb6; clear hown6 hg6 hat6 hb6)
            | (go_at_call 18; (with_reducible refine (HRT.out _).mono ?_); rintro e _ ⟨rfl, rfl⟩))
          have hoc := HOC.out
          obtain ⟨A8, c, hv8, hc1, hc2⟩ := hoc.form
          rw [hv8] at hoc
          obtain ⟨g, cur, hA8, hge, hB8, hcs, hcc⟩ := hoc.whole (by rw [HLC.out]; omega)
          have hcj := hcc j (by rw [HLC.out]; omega)
          rw [HCV.out] at hcj
          rw [HLC.out] at hv8 hcs
          rw [hA8] at hv8 hoc
          rw [HLC.out] at hoc
          subst hv8
          have HB8 : Hid (Blk w6.drew g 5 cur) := Lib.hid (blk_drew8 hB8)
          have HNW : Hid (∀ W, Blk W g 5 (cur.setIfInBounds j (.int .u8 (y + p))) → Only g w6.drew W → OwnI W w.heap.size 5 .u8 (.slice (some ⟨g, 0, none⟩) (j + 1) c) (bytesB x bits (i + 1)) ∧ Below w.heap.size w W) := Lib.hid (fun W h1 h2 => ⟨by rw [HON1.out]; exact hoc.put hB8 (by rw [HLC.out]; omega) h1, HBQ.out.trans (h2.of_drew.below hge HBQ.out.size)⟩)
          have HCJ : Hid (w6.drew.cell? ⟨g, j, none⟩ = some (.int .u8 y)) := Lib.hid (by rw [HB8.out.cell]; exact hcj)
          have HJL : Hid (j < cur.size) := Lib.hid (by omega)
          have HIX := Lib.hid (show (j : Int) < (j : Int) + 1 by omega)
          have HZ1 := Lib.hid (show ((i : Nat) : Int).tdiv 8 = (j : Int) by rw [Int.tdiv_eq_ediv_of_nonneg (by omega)]; have := HJI.out; omega)
          have HZ2 := Lib.hid (show IntKind.i64.wrap (j : Int) = (j : Int) by rw [IntKind.wrap_i64]; omega)
          have HR1 := Lib.hid (show ((i : Nat) : Int).tmod 8 = (r : Int) by rw [Int.tmod_eq_emod_of_nonneg (by omega)]; have := HRI.out; omega)
          have HR2 := Lib.hid (show IntKind.i64.wrap (r : Int) = (r : Int) by rw [IntKind.wrap_i64]; omega)
          have HS1 := Lib.hid (show IntKind.i64.wrap (7 - (r : Int)) = ((7 - r : Nat) : Int) by rw [IntKind.wrap_i64]; omega)
          have HP1 := Lib.hid (show IntKind.u8.wrap p = p by rw [IntKind.wrap_u8]; omega)
          have HP2 := Lib.hid (show IntKind.u8.wrap (y + p) = y + p by rw [IntKind.wrap_u8]; omega)
          clear hoc hA8 hge hB8 hcs hcc hcj hc1 hc2
          refine wp_region_held_drew (S := AnyB) (by kernel_rfl) trivial (fun _ => ?_)
          refine wpAnyH_letter #[false, false, false, false, false, false, false, false, false, false, false, false, false, false, false, false] (by kernel_rfl) (fun _ _ d _ _ h => by cases d <;> exact h) (fun QL HQ1 HQ2 => ?_)
          refine held_v 0 (some 28) rfl (by kernel_rfl) (by kernel_rfl) (by kernel_rfl) (by kernel_rfl) (fun c a v w h => HQ2.out c a _ v w h) (by kernel_rfl) (.slice (some ⟨g, 0, none⟩) (j + 1) c) (fun W h => by kernel_rfl) trivial ?_
          try simp only [Act.put, List.setIfInBounds_toArray, List.set_cons_zero, List.set_cons_succ]
          refine held_v 1 (some 29) rfl (by kernel_rfl) (by kernel_rfl) (by kernel_rfl) (by kernel_rfl) (fun c a v w h => HQ2.out c a _ v w h) (by kernel_rfl) (.int .i64 (i : Int)) (fun W h => by kernel_rfl) trivial ?_
          try simp only [Act.put, List.setIfInBounds_toArray, List.set_cons_zero, List.set_cons_succ]
          refine held_v 2 (some 30) rfl (by kernel_rfl) (by kernel_rfl) (by kernel_rfl) (by kernel_rfl) (fun c a v w h => HQ2.out c a _ v w h) (by kernel_rfl) (.int .i64 (j : Int)) (fun W h => by have p := HZ1.out; have p2 := HZ2.out; go_simp) trivial ?_
          try simp only [Act.put, List.setIfInBounds_toArray, List.set_cons_zero, List.set_cons_succ]
          refine held_v 3 (some 31) rfl (by kernel_rfl) (by kernel_rfl) (by kernel_rfl) (by kernel_rfl) (fun c a v w h => HQ2.out c a _ v w h) (by kernel_rfl) (.slice (some ⟨g, 0, none⟩) (j + 1) c) (fun W h => by kernel_rfl) trivial ?_
          try simp only [Act.put, List.setIfInBounds_toArray, List.set_cons_zero, List.set_cons_succ]
          refine held_v 4 (some 32) rfl (by kernel_rfl) (by kernel_rfl) (by kernel_rfl) (by kernel_rfl) (fun c a v w h => HQ2.out c a _ v w h) (by kernel_rfl) (.int .i64 (i : Int)) (fun W h => by kernel_rfl) trivial ?_
          try simp only [Act.put, List.setIfInBounds_toArray, List.set_cons_zero, List.set_cons_succ]
          refine held_v 5 (some 33) rfl (by kernel_rfl) (by kernel_rfl) (by kernel_rfl) (by kernel_rfl) (fun c a v w h => HQ2.out c a _ v w h) (by kernel_rfl) (.int .i64 (j : Int)) (fun W h => by have p := HZ1.out; have p2 := HZ2.out; go_simp) trivial ?_
          try simp only [Act.put, List.setIfInBounds_toArray, List.set_cons_zero, List.set_cons_succ]
          refine held_v 6 (some 34) rfl (by kernel_rfl) (by kernel_rfl) (by kernel_rfl) (by kernel_rfl) (fun c a v w h => HQ2.out c a _ v w h) (by kernel_rfl) (.pointer (some ⟨g, j, none⟩)) (fun W h => by have p := HIX.out; go_simp) trivial ?_
          try simp only [Act.put, List.setIfInBounds_toArray, List.set_cons_zero, List.set_cons_succ]
          refine held_v 8 (some 36) rfl (by kernel_rfl) (by kernel_rfl) (by kernel_rfl) (by kernel_rfl) (fun c a v w h => HQ2.out c a _ v w h) (by kernel_rfl) (.int .i64 (i : Int)) (fun W h => by kernel_rfl) trivial ?_
          try simp only [Act.put, List.setIfInBounds_toArray, List.set_cons_zero, List.set_cons_succ]
          refine held_v 9 (some 37) rfl (by kernel_rfl) (by kernel_rfl) (by kernel_rfl) (by kernel_rfl) (fun c a v w h => HQ2.out c a _ v w h) (by kernel_rfl) (.int .i64 (r : Int)) (fun W h => by have p := HR1.out; have p2 := HR2.out; go_simp) trivial ?_
          try simp only [Act.put, List.setIfInBounds_toArray, List.set_cons_zero, List.set_cons_succ]
          refine held_v 10 (some 38) rfl (by kernel_rfl) (by kernel_rfl) (by kernel_rfl) (by kernel_rfl) (fun c a v w h => HQ2.out c a _ v w h) (by kernel_rfl) (.int .i64 ((7 - r : Nat) : Int)) (fun W h => by have p := HS1.out; go_simp) trivial ?_
          try simp only [Act.put, List.setIfInBounds_toArray, List.set_cons_zero, List.set_cons_succ]
          refine wpAnyH_ready (rs := [7, 11]) (by kernel_rfl) (by decide) ?_
          refine AllReadyH.cons rfl (fun K hK => ?_) (AllReadyH.cons rfl (fun K hK => ?_) AllReadyH.nil)
          · refine step_v (some 35) (by kernel_rfl) (by kernel_rfl) (.int .u8 y) (by have p := HCJ.out; go_simp) ?_
            refine hK.out _ _ trivial (fun _ => ?_)
            clear hK K
            try simp only [Act.put, List.setIfInBounds_toArray, List.set_cons_zero, List.set_cons_succ]
            refine wpAnyH_ready (rs := [11]) (by kernel_rfl) (by decide) ?_
            refine AllReadyH.cons rfl (fun K hK => ?_) AllReadyH.nil
            refine step_call (some 39) (by kernel_rfl) (by kernel_rfl) _ _ (by kernel_rfl) _ (HLF.out _) ?_
            rintro e _ ⟨rfl, rfl⟩
            refine ⟨_, rfl, ?_⟩
            refine hK.out _ _ trivial (fun _ => ?_)
            clear hK K
            try simp only [Act.put, List.setIfInBounds_toArray, List.set_cons_zero, List.set_cons_succ]
            refine held_v 12 (some 40) rfl (by kernel_rfl) (by kernel_rfl) (by kernel_rfl) (by kernel_rfl) (fun c a v w h => HQ2.out c a _ v w h) (by kernel_rfl) (.int .u8 p) (fun W h => by have p := HP1.out; go_simp) trivial ?_
            try simp only [Act.put, List.setIfInBounds_toArray, List.set_cons_zero, List.set_cons_succ]
            refine held_v 13 (some 41) rfl (by kernel_rfl) (by kernel_rfl) (by kernel_rfl) (by kernel_rfl) (fun c a v w h => HQ2.out c a _ v w h) (by kernel_rfl) (.int .u8 (y + p)) (fun W h => by have p := HP2.out; go_simp) trivial ?_
            try simp only [Act.put, List.setIfInBounds_toArray, List.set_cons_zero, List.set_cons_succ]
            refine held_v 14 (some 42) rfl (by kernel_rfl) (by kernel_rfl) (by kernel_rfl) (by kernel_rfl) (fun c a v w h => HQ2.out c a _ v w h) (by kernel_rfl) (.pointer (some ⟨g, j, none⟩)) (fun W h => by have p := HIX.out; go_simp) trivial ?_
            try simp only [Act.put, List.setIfInBounds_toArray, List.set_cons_zero, List.set_cons_succ]
            refine wpAnyH_ready (rs := [15]) (by kernel_rfl) (by decide) ?_
            refine AllReadyH.cons rfl (fun K hK => ?_) AllReadyH.nil
            refine step_store_cell none (by kernel_rfl) (by kernel_rfl) 5 (.tmp 42) (.tmp 41) rfl g j (by kernel_rfl) 5 cur HB8.out (.int .u8 (y + p)) (by kernel_rfl) HJL.out size_u8s rfl rfl ?_
            intro w42 hkw42 how42
            have HKN := Lib.hid hkw42.out
            have HON := Lib.hid how42
            refine hK.out _ _ trivial (fun _ => ?_)
            clear hK K
            try simp only [Act.put, List.setIfInBounds_toArray, List.set_cons_zero, List.set_cons_succ]
            refine wpAnyH_done (by kernel_rfl) ?_ _
            refine HQ1.out _ _ ?_
            clear HQ1 HQ2
            have HF := Lib.hid (HNW.out _ HKN.out HON.out)
            clear HKN HON
            go_wp2
            go_roundw
            case rel => exact ⟨i + 1, by omega, by go_num, HF.out.1, HF.out.2⟩
            case measure => simp [intOf]; omega
          · refine step_call (some 39) (by kernel_rfl) (by kernel_rfl) _ _ (by kernel_rfl) _ (HLF.out _) ?_
            rintro e _ ⟨rfl, rfl⟩
            refine ⟨_, rfl, ?_⟩
            refine hK.out _ _ trivial (fun _ => ?_)
            clear hK K
            try simp only [Act.put, List.setIfInBounds_toArray, List.set_cons_zero, List.set_cons_succ]
            refine held_v 12 (some 40) rfl (by kernel_rfl) (by kernel_rfl) (by kernel_rfl) (by kernel_rfl) (fun c a v w h => HQ2.out c a _ v w h) (by kernel_rfl) (.int .u8 p) (fun W h => by have p := HP1.out; go_simp) trivial ?_
            try simp only [Act.put, List.setIfInBounds_toArray, List.set_cons_zero, List.set_cons_succ]
            refine wpAnyH_ready (rs := [7]) (by kernel_rfl) (by decide) ?_
            refine AllReadyH.cons rfl (fun K hK => ?_) AllReadyH.nil
            refine step_v (some 35) (by kernel_rfl) (by kernel_rfl) (.int .u8 y) (by have p := HCJ.out; go_simp) ?_
            refine hK.out _ _ trivial (fun _ => ?_)
            clear hK K
            try simp only [Act.put, List.setIfInBounds_toArray, List.set_cons_zero, List.set_cons_succ]
            refine held_v 13 (some 41) rfl (by kernel_rfl) (by kernel_rfl) (by kernel_rfl) (by kernel_rfl) (fun c a v w h => HQ2.out c a _ v w h) (by kernel_rfl) (.int .u8 (y + p)) (fun W h => by have p := HP2.out; go_simp) trivial ?_
            try simp only [Act.put, List.setIfInBounds_toArray, List.set_cons_zero, List.set_cons_succ]
            refine held_v 14 (some 42) rfl (by kernel_rfl) (by kernel_rfl) (by kernel_rfl) (by kernel_rfl) (fun c a v w h => HQ2.out c a _ v w h) (by kernel_rfl) (.pointer (some ⟨g, j, none⟩)) (fun W h => by have p := HIX.out; go_simp) trivial ?_
            try simp only [Act.put, List.setIfInBounds_toArray, List.set_cons_zero, List.set_cons_succ]
            refine wpAnyH_ready (rs := [15]) (by kernel_rfl) (by decide) ?_
            refine AllReadyH.cons rfl (fun K hK => ?_) AllReadyH.nil
            refine step_store_cell none (by kernel_rfl) (by kernel_rfl) 5 (.tmp 42) (.tmp 41) rfl g j (by kernel_rfl) 5 cur HB8.out (.int .u8 (y + p)) (by kernel_rfl) HJL.out size_u8s rfl rfl ?_
            intro w44 hkw44 how44
            have HKN := Lib.hid hkw44.out
            have HON := Lib.hid how44
            refine hK.out _ _ trivial (fun _ => ?_)
            clear hK K
            try simp only [Act.put, List.setIfInBounds_toArray, List.set_cons_zero, List.set_cons_succ]
            refine wpAnyH_done (by kernel_rfl) ?_ _
            refine HQ1.out _ _ ?_
            clear HQ1 HQ2
            have HF := Lib.hid (HNW.out _ HKN.out HON.out)
            clear HKN HON
            go_wp2
            go_roundw
            case rel => exact ⟨i + 1, by omega, by go_num, HF.out.1, HF.out.2⟩
            case measure => simp [intOf]; omega

        · have tb : ((Y : Int) % 2 == 1) = false := by rw [beq_eq_false_iff_ne]; omega
          have tb2 : ((Y : Int) % 2 = 1) = False := by rw [eq_iff_iff]; exact ⟨fun h => by omega, False.elim⟩
          have HZE := Lib.hid (hzero (by rw [hba]; omega))
          clear hzero hone hba hcv hlc hlb
          go_wp2_with (first
            | (at_builtin; refine wpList_append_ints _ rfl (.tmp 15) (.tmp 16) 30 rfl w.heap.size 5 i0 _ 1 .u8 Tryd.underlying30 hi0 hz0 hz1 hzb rfl _ (bytesB x bits i) rfl (HOW.out.alloc _) (wr.heap.size + 1) (some ⟨wr.heap.size, 0, none⟩) 1 1 [0] rfl (rd_one wr 5 .u8 0) (by have := HL8.out; simp [maxLen]; omega) (by have := HL8.out; omega) (by simp; omega) ?_; intro v6 w6 hown6 hg6 hat6; have hb6 : Below w.heap.size w w6 := (HOW.out.alloc _).below_ (HBQ.out.alloc hsz _) (by simp; omega) hg6; rw [HCN.out] at hown6; have HOC := Lib.hid hown6; have HBQ := Lib.hid hb6; clear hown6 hg6 hat6 hb6)
            | (go_at_call 18; (with_reducible refine (HRT.out _).mono ?_); rintro e _ ⟨rfl, rfl⟩))
          go_roundw
          case rel => exact ⟨i + 1, by omega, by go_num, by rw [HZE.out]; exact HOC.out, HBQ.out⟩
          case measure => simp [intOf]; omega

      · have t8 : ((i : Int) % 8 == 0) = false := by rw [beq_eq_false_iff_ne]; omega
        have hco := bytesC_old x bits i (by omega)
        rw [hco] at hown
        have HOC := Lib.hid hown
        have HBQ := Lib.hid hbq
        clear hco hown hbq hj hr hy  e4
        by_cases hbit : Y % 2 = 1
        · have tb : ((Y : Int) % 2 == 1) = true := by rw [beq_iff_eq]; omega
          have HON1 := Lib.hid (hone (by rw [hba]; omega))
          have HLC := Lib.hid hlc
          have HCV := Lib.hid hcv
          clear hzero hone hba hcv hlc hlb
          go_wp2_with (first
            | (go_at_call 18; (with_reducible refine (HRT.out _).mono ?_); rintro e _ ⟨rfl, rfl⟩))
          have hoc := HOC.out
          obtain ⟨A8, c, hv8, hc1, hc2⟩ := hoc.form
          rw [hv8] at hoc
          obtain ⟨g, cur, hA8, hge, hB8, hcs, hcc⟩ := hoc.whole (by rw [HLC.out]; omega)
          have hcj := hcc j (by rw [HLC.out]; omega)
          rw [HCV.out] at hcj
          rw [HLC.out] at hv8 hcs
          rw [hA8] at hv8 hoc
          rw [HLC.out] at hoc
          subst hv8
          have HB8 : Hid (Blk wr.drew g 5 cur) := Lib.hid (blk_drew8 hB8)
          have HNW : Hid (∀ W, Blk W g 5 (cur.setIfInBounds j (.int .u8 (y + p))) → Only g wr.drew W → OwnI W w.heap.size 5 .u8 (.slice (some ⟨g, 0, none⟩) (j + 1) c) (bytesB x bits (i + 1)) ∧ Below w.heap.size w W) := Lib.hid (fun W h1 h2 => ⟨by rw [HON1.out]; exact hoc.put hB8 (by rw [HLC.out]; omega) h1, HBQ.out.trans (h2.of_drew.below hge HBQ.out.size)⟩)
          have HCJ : Hid (wr.drew.cell? ⟨g, j, none⟩ = some (.int .u8 y)) := Lib.hid (by rw [HB8.out.cell]; exact hcj)
          have HJL : Hid (j < cur.size) := Lib.hid (by omega)
          have HIX := Lib.hid (show (j : Int) < (j : Int) + 1 by omega)
          have HZ1 := Lib.hid (show ((i : Nat) : Int).tdiv 8 = (j : Int) by rw [Int.tdiv_eq_ediv_of_nonneg (by omega)]; have := HJI.out; omega)
          have HZ2 := Lib.hid (show IntKind.i64.wrap (j : Int) = (j : Int) by rw [IntKind.wrap_i64]; omega)
          have HR1 := Lib.hid (show ((i : Nat) : Int).tmod 8 = (r : Int) by rw [Int.tmod_eq_emod_of_nonneg (by omega)]; have := HRI.out; omega)
          have HR2 := Lib.hid (show IntKind.i64.wrap (r : Int) = (r : Int) by rw [IntKind.wrap_i64]; omega)
          have HS1 := Lib.hid (show IntKind.i64.wrap (7 - (r : Int)) = ((7 - r : Nat) : Int) by rw [IntKind.wrap_i64]; omega)
          have HP1 := Lib.hid (show IntKind.u8.wrap p = p by rw [IntKind.wrap_u8]; omega)
          have HP2 := Lib.hid (show IntKind.u8.wrap (y + p) = y + p by rw [IntKind.wrap_u8]; omega)
          clear hoc hA8 hge hB8 hcs hcc hcj hc1 hc2
          refine wp_region_held_drew (S := AnyB) (by kernel_rfl) trivial (fun _ => ?_)
          refine wpAnyH_letter #[false, false, false, false, false, false, false, false, false, false, false, false, false, false, false, false] (by kernel_rfl) (fun _ _ d _ _ h => by cases d <;> exact h) (fun QL HQ1 HQ2 => ?_)
          refine held_v 0 (some 28) rfl (by kernel_rfl) (by kernel_rfl) (by kernel_rfl) (by kernel_rfl) (fun c a v w h => HQ2.out c a _ v w h) (by kernel_rfl) (.slice (some ⟨g, 0, none⟩) (j + 1) c) (fun W h => by kernel_rfl) trivial ?_
          try simp only [Act.put, List.setIfInBounds_toArray, List.set_cons_zero, List.set_cons_succ]
          refine held_v 1 (some 29) rfl (by kernel_rfl) (by kernel_rfl) (by kernel_rfl) (by kernel_rfl) (fun c a v w h => HQ2.out c a _ v w h) (by kernel_rfl) (.int .i64 (i : Int)) (fun W h => by kernel_rfl) trivial ?_
          try simp only [Act.put, List.setIfInBounds_toArray, List.set_cons_zero, List.set_cons_succ]
          refine held_v 2 (some 30) rfl (by kernel_rfl) (by kernel_rfl) (by kernel_rfl) (by kernel_rfl) (fun c a v w h => HQ2.out c a _ v w h) (by kernel_rfl) (.int .i64 (j : Int)) (fun W h => by have p := HZ1.out; have p2 := HZ2.out; go_simp) trivial ?_
          try simp only [Act.put, List.setIfInBounds_toArray, List.set_cons_zero, List.set_cons_succ]
          refine held_v 3 (some 31) rfl (by kernel_rfl) (by kernel_rfl) (by kernel_rfl) (by kernel_rfl) (fun c a v w h => HQ2.out c a _ v w h) (by kernel_rfl) (.slice (some ⟨g, 0, none⟩) (j + 1) c) (fun W h => by kernel_rfl) trivial ?_
          try simp only [Act.put, List.setIfInBounds_toArray, List.set_cons_zero, List.set_cons_succ]
          refine held_v 4 (some 32) rfl (by kernel_rfl) (by kernel_rfl) (by kernel_rfl) (by kernel_rfl) (fun c a v w h => HQ2.out c a _ v w h) (by kernel_rfl) (.int .i64 (i : Int)) (fun W h => by kernel_rfl) trivial ?_
          try simp only [Act.put, List.setIfInBounds_toArray, List.set_cons_zero, List.set_cons_succ]
          refine held_v 5 (some 33) rfl (by kernel_rfl) (by kernel_rfl) (by kernel_rfl) (by kernel_rfl) (fun c a v w h => HQ2.out c a _ v w h) (by kernel_rfl) (.int .i64 (j : Int)) (fun W h => by have p := HZ1.out; have p2 := HZ2.out; go_simp) trivial ?_
          try simp only [Act.put, List.setIfInBounds_toArray, List.set_cons_zero, List.set_cons_succ]
          refine held_v 6 (some 34) rfl (by kernel_rfl) (by kernel_rfl) (by kernel_rfl) (by kernel_rfl) (fun c a v w h => HQ2.out c a _ v w h) (by kernel_rfl) (.pointer (some ⟨g, j, none⟩)) (fun W h => by have p := HIX.out; go_simp) trivial ?_
          try simp only [Act.put, List.setIfInBounds_toArray, List.set_cons_zero, List.set_cons_succ]
          refine held_v 8 (some 36) rfl (by kernel_rfl) (by kernel_rfl) (by kernel_rfl) (by kernel_rfl) (fun c a v w h => HQ2.out c a _ v w h) (by kernel_rfl) (.int .i64 (i : Int)) (fun W h => by kernel_rfl) trivial ?_
          try simp only [Act.put, List.setIfInBounds_toArray, List.set_cons_zero, List.set_cons_succ]
          refine held_v 9 (some 37) rfl (by kernel_rfl) (by kernel_rfl) (by kernel_rfl) (by kernel_rfl) (fun c a v w h => HQ2.out c a _ v w h) (by kernel_rfl) (.int .i64 (r : Int)) (fun W h => by have p := HR1.out; have p2 := HR2.out; go_simp) trivial ?_
          try simp only [Act.put, List.setIfInBounds_toArray, List.set_cons_zero, List.set_cons_succ]
          refine held_v 10 (some 38) rfl (by kernel_rfl) (by kernel_rfl) (by kernel_rfl) (by kernel_rfl) (fun c a v w h => HQ2.out c a _ v w h) (by kernel_rfl) (.int .i64 ((7 - r : Nat) : Int)) (fun W h => by have p := HS1.out; go_simp) trivial ?_
          try simp only [Act.put, List.setIfInBounds_toArray, List.set_cons_zero, List.set_cons_succ]
          refine wpAnyH_ready (rs := [7, 11]) (by kernel_rfl) (by decide) ?_
          refine AllReadyH.cons rfl (fun K hK => ?_) (AllReadyH.cons rfl (fun K hK => ?_) AllReadyH.nil)
          · refine step_v (some 35) (by kernel_rfl) (by kernel_rfl) (.int .u8 y) (by have p := HCJ.out; go_simp) ?_
            refine hK.out _ _ trivial (fun _ => ?_)
            clear hK K
            try simp only [Act.put, List.setIfInBounds_toArray, List.set_cons_zero, List.set_cons_succ]
            refine wpAnyH_ready (rs := [11]) (by kernel_rfl) (by decide) ?_
            refine AllReadyH.cons rfl (fun K hK => ?_) AllReadyH.nil
            refine step_call (some 39) (by kernel_rfl) (by kernel_rfl) _ _ (by kernel_rfl) _ (HLF.out _) ?_
            rintro e _ ⟨rfl, rfl⟩
            refine ⟨_, rfl, ?_⟩
            refine hK.out _ _ trivial (fun _ => ?_)
            clear hK K
            try simp only [Act.put, List.setIfInBounds_toArray, List.set_cons_zero, List.set_cons_succ]
            refine held_v 12 (some 40) rfl (by kernel_rfl) (by kernel_rfl) (by kernel_rfl) (by kernel_rfl) (fun c a v w h => HQ2.out c a _ v w h) (by kernel_rfl) (.int .u8 p) (fun W h => by have p := HP1.out; go_simp) trivial ?_
            try simp only [Act.put, List.setIfInBounds_toArray, List.set_cons_zero, List.set_cons_succ]
            refine held_v 13 (some 41) rfl (by kernel_rfl) (by kernel_rfl) (by kernel_rfl) (by kernel_rfl) (fun c a v w h => HQ2.out c a _ v w h) (by kernel_rfl) (.int .u8 (y + p)) (fun W h => by have p := HP2.out; go_simp) trivial ?_
            try simp only [Act.put, List.setIfInBounds_toArray, List.set_cons_zero, List.set_cons_succ]
            refine held_v 14 (some 42) rfl (by kernel_rfl) (by kernel_rfl) (by kernel_rfl) (by kernel_rfl) (fun c a v w h => HQ2.out c a _ v w h) (by kernel_rfl) (.pointer (some ⟨g, j, none⟩)) (fun W h => by have p := HIX.out; go_simp) trivial ?_
            try simp only [Act.put, List.setIfInBounds_toArray, List.set_cons_zero, List.set_cons_succ]
            refine wpAnyH_ready (rs := [15]) (by kernel_rfl) (by decide) ?_
            refine AllReadyH.cons rfl (fun K hK => ?_) AllReadyH.nil
            refine step_store_cell none (by kernel_rfl) (by kernel_rfl) 5 (.tmp 42) (.tmp 41) rfl g j (by kernel_rfl) 5 cur HB8.out (.int .u8 (y + p)) (by kernel_rfl) HJL.out size_u8s rfl rfl ?_
            intro w42 hkw42 how42
            have HKN := Lib.hid hkw42.out
            have HON := Lib.hid how42
            refine hK.out _ _ trivial (fun _ => ?_)
            clear hK K
            try simp only [Act.put, List.setIfInBounds_toArray, List.set_cons_zero, List.set_cons_succ]
            refine wpAnyH_done (by kernel_rfl) ?_ _
            refine HQ1.out _ _ ?_
            clear HQ1 HQ2
            have HF := Lib.hid (HNW.out _ HKN.out HON.out)
            clear HKN HON
            go_wp2
            go_roundw
            case rel => exact ⟨i + 1, by omega, by go_num, HF.out.1, HF.out.2⟩
            case measure => simp [intOf]; omega
          · refine step_call (some 39) (by kernel_rfl) (by kernel_rfl) _ _ (by kernel_rfl) _ (HLF.out _) ?_
            rintro e _ ⟨rfl, rfl⟩
            refine ⟨_, rfl, ?_⟩
            refine hK.out _ _ trivial (fun _ => ?_)
            clear hK K
            try simp only [Act.put, List.setIfInBounds_toArray, List.set_cons_zero, List.set_cons_succ]
            refine held_v 12 (some 40) rfl (by kernel_rfl) (by kernel_rfl) (by kernel_rfl) (by kernel_rfl) (fun c a v w h => HQ2.out c a _ v w h) (by kernel_rfl) (.int .u8 p) (fun W h => by have p := HP1.out; go_simp) trivial ?_
            try simp only [Act.put, List.setIfInBounds_toArray, List.set_cons_zero, List.set_cons_succ]
            refine wpAnyH_ready (rs := [7]) (by kernel_rfl) (by decide) ?_
            refine AllReadyH.cons rfl (fun K hK => ?_) AllReadyH.nil
            refine step_v (some 35) (by kernel_rfl) (by kernel_rfl) (.int .u8 y) (by have p := HCJ.out; go_simp) ?_
            refine hK.out _ _ trivial (fun _ => ?_)
            clear hK K
            try simp only [Act.put, List.setIfInBounds_toArray, List.set_cons_zero, List.set_cons_succ]
            refine held_v 13 (some 41) rfl (by kernel_rfl) (by kernel_rfl) (by kernel_rfl) (by kernel_rfl) (fun c a v w h => HQ2.out c a _ v w h) (by kernel_rfl) (.int .u8 (y + p)) (fun W h => by have p := HP2.out; go_simp) trivial ?_
            try simp only [Act.put, List.setIfInBounds_toArray, List.set_cons_zero, List.set_cons_succ]
            refine held_v 14 (some 42) rfl (by kernel_rfl) (by kernel_rfl) (by kernel_rfl) (by kernel_rfl) (fun c a v w h => HQ2.out c a _ v w h) (by kernel_rfl) (.pointer (some ⟨g, j, none⟩)) (fun W h => by have p := HIX.out; go_simp) trivial ?_
            try simp only [Act.put, List.setIfInBounds_toArray, List.set_cons_zero, List.set_cons_succ]
            refine wpAnyH_ready (rs := [15]) (by kernel_rfl) (by decide) ?_
            refine AllReadyH.cons rfl (fun K hK => ?_) AllReadyH.nil
            refine step_store_cell none (by kernel_rfl) (by kernel_rfl) 5 (.tmp 42) (.tmp 41) rfl g j (by kernel_rfl) 5 cur HB8.out (.int .u8 (y + p)) (by kernel_rfl) HJL.out size_u8s rfl rfl ?_
            intro w44 hkw44 how44
            have HKN := Lib.hid hkw44.out
            have HON := Lib.hid how44
            refine hK.out _ _ trivial (fun _ => ?_)
            clear hK K
            try simp only [Act.put, List.setIfInBounds_toArray, List.set_cons_zero, List.set_cons_succ]
            refine wpAnyH_done (by kernel_rfl) ?_ _
            refine HQ1.out _ _ ?_
            clear HQ1 HQ2
            have HF := Lib.hid (HNW.out _ HKN.out HON.out)
            clear HKN HON
            go_wp2
            go_roundw
            case rel => exact ⟨i + 1, by omega, by go_num, HF.out.1, HF.out.2⟩
            case measure => simp [intOf]; omega

        · have tb : ((Y : Int) % 2 == 1) = false := by rw [beq_eq_false_iff_ne]; omega
          have tb2 : ((Y : Int) % 2 = 1) = False := by rw [eq_iff_iff]; exact ⟨fun h => by omega, False.elim⟩
          have HZE := Lib.hid (hzero (by rw [hba]; omega))
          clear hzero hone hba hcv hlc hlb
          go_wp2_with (first
            | (go_at_call 18; (with_reducible refine (HRT.out _).mono ?_); rintro e _ ⟨rfl, rfl⟩))
          go_roundw
          case rel => exact ⟨i + 1, by omega, by go_num, by rw [HZE.out]; exact HOC.out, HBQ.out⟩
          case measure => simp [intOf]; omega

    · obtain rfl : i = bits := by omega
      have HO := Lib.hid hown
      have HB := Lib.hid hbq
      clear hown hbq
      go_wp2
      exact HEND.out _ _ HO.out HB.out
end Go.Proofs.YtepclbmcacdhlaaDoor

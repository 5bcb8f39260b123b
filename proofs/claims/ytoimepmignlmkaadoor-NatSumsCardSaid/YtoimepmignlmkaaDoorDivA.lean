/-
  What the library's bits.Div64 returns, where the quotient takes 32 bits.
  Conditions: the divisor is below 2^63, and goes into the number fewer than 2^32 times.
-/
import Derived.Test.YtoimepmignlmkaaDoorDivP
import Derived.Test.YtoimepmignlmkaaDoorShlA
import Derived.Test.YtoimepmignlmkaaDoorPlainA
import Derived.Deep.CutRange
import Derived.Deep.CutBlock
set_option maxRecDepth 100000
set_option linter.unusedSimpArgs false
namespace Go.Proofs.YtoimepmignlmkaaDoor
open Go.ChangeShapes Go.WideShapes Go.ChangeAt Go.RowKit Div64
set_option linter.unusedVariables false
theorem u64lo {x : Int} (x0 : 0 ≤ x) (x1 : x < 18446744073709551616) : IntKind.u64.wrap x = x := by rw [IntKind.wrap_u64]; omega
theorem u64mask (a : Nat) (a1 : a < 18446744073709551616) : bits .and .u64 (a : Int) 4294967295 = ((a % 4294967296 : Nat) : Int) := by
  have h := bits_and_u64_nat a 4294967295 (by omega) (by omega)
  rw [Nat.and_two_pow_sub_one_eq_mod a 32] at h
  exact h
/-- The parts of what is laid left by so many bits. -/
structure Parts (hi lo d s : Nat) (y b c h2 l2 n32 n10 n1 n0 : Nat) : Prop where
  ey : IntKind.u64.wrap ((d : Int) * 2 ^ s) = (y : Int)
  eb : (y : Int) / 4294967296 = (b : Int)
  ec : bits .and .u64 (y : Int) 4294967295 = (c : Int)
  eh : IntKind.u64.wrap ((hi : Int) * 2 ^ s) = (h2 : Int)
  el : (lo : Int) / 2 ^ (64 - s) = (l2 : Int)
  eo : bits .or .u64 (h2 : Int) (l2 : Int) = (n32 : Int)
  en : IntKind.u64.wrap ((lo : Int) * 2 ^ s) = (n10 : Int)
  e1 : (n10 : Int) / 4294967296 = (n1 : Int)
  e0 : bits .and .u64 (n10 : Int) 4294967295 = (n0 : Int)
  hy : d * 2 ^ s = b * 4294967296 + c
  yy : y = b * 4294967296 + c
  hn : (hi * 18446744073709551616 + lo) * 2 ^ s = (n32 * 4294967296 + n1) * 4294967296 + n0
  b0 : 2147483648 ≤ b
  b1 : b < 4294967296
  c1 : c < 4294967296
  n11 : n1 < 4294967296
  n01 : n0 < 4294967296
theorem parts (hi lo d s : Nat) (hlo : lo < 18446744073709551616) (hU : hi * 18446744073709551616 + lo < d * 4294967296) (s1 : 1 ≤ s) (s63 : s ≤ 63) (y0 : 9223372036854775808 ≤ d * 2 ^ s) (y1 : d * 2 ^ s < 18446744073709551616) : ∃ y b c h2 l2 n32 n10 n1 n0, Parts hi lo d s y b c h2 l2 n32 n10 n1 n0 := by
  have hp : 0 < 2 ^ s := Nat.pow_pos (by omega)
  have hp2 : 2 ^ (64 - s) * 2 ^ s = 18446744073709551616 := by rw [← Nat.pow_add, show 64 - s + s = 64 by omega]
  have hq : 0 < 2 ^ (64 - s) := Nat.pow_pos (by omega)
  have hcast : ∀ x : Nat, (x : Int) * 2 ^ s = ((x * 2 ^ s : Nat) : Int) := fun x => by rw [Int.natCast_mul, Int.natCast_pow]; rfl
  have hdiv : (lo : Int) / 2 ^ (64 - s) = ((lo / 2 ^ (64 - s) : Nat) : Int) := by rw [Int.natCast_ediv, Int.natCast_pow]; rfl
  have hN : (hi * 18446744073709551616 + lo) * 2 ^ s < d * 2 ^ s * 4294967296 := by
    rw [Nat.mul_right_comm]
    exact (Nat.mul_lt_mul_right hp).2 hU
  have hlo2 : lo * 2 ^ s = lo / 2 ^ (64 - s) * 18446744073709551616 + lo % 2 ^ (64 - s) * 2 ^ s := by
    rw [← hp2, ← Nat.mul_assoc, ← Nat.add_mul]
    congr 1
    rw [Nat.mul_comm]; exact (Nat.div_add_mod _ _).symm
  have hr : lo % 2 ^ (64 - s) * 2 ^ s < 18446744073709551616 := by
    rw [← hp2]
    exact (Nat.mul_lt_mul_right hp).2 (Nat.mod_lt _ hq)
  have hlp : lo / 2 ^ (64 - s) < 2 ^ s := by
    rw [Nat.div_lt_iff_lt_mul hq, Nat.mul_comm, hp2]
    exact hlo
  have hor : (hi * 2 ^ s) ||| (lo / 2 ^ (64 - s)) = hi * 2 ^ s + lo / 2 ^ (64 - s) := by
    rw [Nat.mul_comm, Nat.two_pow_add_eq_or_of_lt hlp]
  rw [Nat.add_mul, Nat.mul_right_comm, hlo2] at hN
  have hNN : (hi * 18446744073709551616 + lo) * 2 ^ s = (hi * 2 ^ s + lo / 2 ^ (64 - s)) * 18446744073709551616 + lo % 2 ^ (64 - s) * 2 ^ s := by
    rw [Nat.add_mul, Nat.mul_right_comm, hlo2, Nat.add_mul, Nat.add_assoc]
  have e10 : lo * 2 ^ s % 18446744073709551616 = lo % 2 ^ (64 - s) * 2 ^ s := by rw [hlo2, Nat.mul_comm, Nat.mul_add_mod, Nat.mod_eq_of_lt hr]
  generalize hY : d * 2 ^ s = Y at *
  generalize hH : hi * 2 ^ s = H at *
  generalize hL : lo * 2 ^ s = L at *
  generalize hD : lo / 2 ^ (64 - s) = D at *
  generalize hR : lo % 2 ^ (64 - s) * 2 ^ s = R at *
  have hb : H + D < 4294967296 := by omega
  refine ⟨Y, Y / 4294967296, Y % 4294967296, H, D, H + D, R, R / 4294967296, R % 4294967296, ?_, ?_, ?_, ?_, ?_, ?_, ?_, ?_, ?_, ?_, ?_, ?_, ?_, ?_, ?_, ?_, ?_⟩
  · rw [hcast, hY]; exact u64lo (by omega) (by omega)
  · omega
  · exact u64mask Y (by omega)
  · rw [hcast, hH]; exact u64lo (by omega) (by omega)
  · exact hdiv
  · rw [bits_or_u64_nat _ _ (by omega) (by omega), hor]
  · rw [hcast, hL, IntKind.wrap_u64, ← e10]; omega
  · omega
  · exact u64mask R (by omega)
  · omega
  · omega
  · rw [hNN]; omega
  · omega
  · omega
  · omega
  · omega
  · omega
theorem lead_c (d : Nat) (h : d < 18446744073709551616) (w : World) : Calls Tryd.prog 49 #[.int .u64 (d : Int)] w fun e w' => e = .returned (.int .i64 (64 - (Lib.bitLen d : Int))) ∧ w = w' := by
  have h1 := Any.bits_LeadingZeros64 lays134 (d : Int) w (by omega) (by omega)
  rw [Int.toNat_natCast] at h1
  exact h1.mono fun e w' h => ⟨h.1, h.2.symm⟩
theorem lead_bounds (d : Nat) (h1 : 1 ≤ d) (h2 : d < 9223372036854775808) : ∃ s : Nat, 1 ≤ s ∧ s ≤ 63 ∧ 64 - (Lib.bitLen d : Int) = (s : Int) ∧ 9223372036854775808 ≤ d * 2 ^ s ∧ d * 2 ^ s < 18446744073709551616 := by
  obtain ⟨a1, a2, a3⟩ := Lib.bitLenAux_bounds 64 d (by rw [show (2 : Nat) ^ 64 = 18446744073709551616 from rfl]; omega) (by omega)
  have a4 : Lib.bitLen d ≤ 63 := Lib.bitLen_le d 63 (by omega) (by rw [show (2 : Nat) ^ 63 = 9223372036854775808 from rfl]; omega)
  have e : Lib.bitLenAux 64 d = Lib.bitLen d := rfl
  rw [e] at a1 a2 a3
  generalize Lib.bitLen d = L at *
  refine ⟨64 - L, by omega, by omega, by omega, ?_, ?_⟩
  · have h3 : 2 ^ (L - 1) * 2 ^ (64 - L) ≤ d * 2 ^ (64 - L) := Nat.mul_le_mul_right _ a2
    rw [← Nat.pow_add, show L - 1 + (64 - L) = 63 by omega] at h3
    exact h3
  · have h3 : d * 2 ^ (64 - L) < 2 ^ L * 2 ^ (64 - L) := (Nat.mul_lt_mul_right (Nat.pow_pos (by omega))).2 a3
    rw [← Nat.pow_add, show L + (64 - L) = 64 by omega] at h3
    exact h3
set_option maxHeartbeats 4000000 in
theorem q10div64_c (hi lo d : Nat) (hlo : lo < 18446744073709551616) (hd : d < 9223372036854775808) (hU : hi * 18446744073709551616 + lo < d * 4294967296) (w : World) : Calls Tryd.prog 41 #[.int .u64 (hi : Int), .int .u64 (lo : Int), .int .u64 (d : Int)] w fun e w' => e = .returned (.tuple #[.int .u64 (((hi * 18446744073709551616 + lo) / d : Nat) : Int), .int .u64 (((hi * 18446744073709551616 + lo) % d : Nat) : Int)]) ∧ ∃ n, w' = w.drewN n := by
  have h1 : 1 ≤ d := by omega
  have hhi : hi < d := by omega
  have hl := fun W => lead_c d (by omega) W
  obtain ⟨s, s1, s63, hs, y0, y1⟩ := lead_bounds d h1 hd
  rw [hs] at hl
  have HL := Lib.hid hl
  have t1 : ((d : Int) == 0) = false := by rw [beq_eq_false_iff_ne]; omega
  have t2 : ¬ (d : Int) ≤ (hi : Int) := by omega
  clear hs hl
  by_cases hz : hi = 0
  · subst hz
    have t4 : ((d : Int) == 0) = false := t1
    have d0 : (d : Int) ≠ 0 := by omega
    have hq : (lo : Int) / (d : Int) = ((lo / d : Nat) : Int) := by rw [Int.natCast_ediv]
    have hm : (lo : Int) % (d : Int) = ((lo % d : Nat) : Int) := by rw [Int.natCast_emod]
    have hq1 : lo / d ≤ lo := Nat.div_le_self _ _
    have hm1 : lo % d ≤ lo := Nat.mod_le _ _
    rw [Nat.zero_mul, Nat.zero_add]
    obtain ⟨Q, hQ⟩ : ∃ Q, lo / d = Q := ⟨_, rfl⟩
    obtain ⟨R, hR⟩ : ∃ R, lo % d = R := ⟨_, rfl⟩
    rw [hQ] at hq hq1 ⊢
    rw [hR] at hm hm1 ⊢
    have f1 : IntKind.u64.wrap (Q : Int) = (Q : Int) := u64lo (by omega) (by omega)
    have f2 : IntKind.u64.wrap (R : Int) = (R : Int) := u64lo (by omega) (by omega)
    have f3 : (lo : Int).tdiv (d : Int) = (Q : Int) := by rw [Int.tdiv_eq_ediv_of_nonneg (by omega)]; exact hq
    have f4 : (lo : Int).tmod (d : Int) = (R : Int) := by rw [Int.tmod_eq_emod_of_nonneg (by omega)]; exact hm
    clear hQ hR hq1 hm1 y0 y1 s1 s63 h1 hU hlo hd HL
    go_enter Tryd.func41, Tryd.ntmps41
    go_wp2
    go_quiet (fail)
    go_wp2
    go_ret2
    exact ⟨rfl, _, rfl⟩
  · have t3 : ((hi : Int) == 0) = false := by rw [beq_eq_false_iff_ne]; omega
    obtain ⟨y, b, c, h2, l2, n32, n10, n1, n0, HP⟩ := parts hi lo d s hlo hU s1 s63 y0 y1
    have ey := HP.ey
    have eb := HP.eb
    have ec := HP.ec
    have eh := HP.eh
    have el := HP.el
    have eo := HP.eo
    have en := HP.en
    have e1 := HP.e1
    have e0 := HP.e0
    have b0 : ((b : Int) == 0) = false := by have := HP.b0; rw [beq_eq_false_iff_ne]; omega
    have b1 : (b : Int) ≠ 0 := by have := HP.b0; omega
    have hs64 : (s : Int) ≤ 63 := by omega
    have hb2 := HP.b0
    have HB := Lib.hid HP.b0
    have HB1 := Lib.hid HP.b1
    have HC1 := Lib.hid HP.c1
    have hb1' := HP.b1
    have hc1' := HP.c1
    obtain ⟨w1, w2, w3, w4⟩ := Div64.whole (by omega) HP.hy hU HP.hn HP.n11 HP.n01
    have hn1 := HP.n11
    have hn0 := HP.n01
    have hyy := HP.yy
    -- the first digit
    have k0 := Div64.KI.start HP.b0 HP.b1 HP.c1 HP.n11 (show n32 < b * 4294967296 + c by omega)
    have HV := Lib.hid HP.n11
    have HU : Hid (n32 < b * 4294967296 + c) := Lib.hid (by omega)
    obtain ⟨q, hq⟩ : ∃ q, n32 / b = q := ⟨_, rfl⟩
    obtain ⟨r, hr⟩ : ∃ r, n32 % b = r := ⟨_, rfl⟩
    rw [hq, hr] at k0
    have kk := k0.1
    have k3 := k0.2.2.1
    have f1 : (n32 : Int) / (b : Int) = (q : Int) := by rw [← hq, Int.natCast_ediv]
    have f2 : IntKind.u64.wrap (q : Int) = (q : Int) := u64lo (by omega) (by omega)
    obtain ⟨z, hz1⟩ : ∃ z, q * b = z := ⟨_, rfl⟩
    have f3 : (q : Int) * (b : Int) = (z : Int) := by rw [← hz1, Int.natCast_mul]
    rw [hz1] at kk
    have f4 : IntKind.u64.wrap (z : Int) = (z : Int) := u64lo (by omega) (by omega)
    have f5 : (n32 : Int) - (z : Int) = (r : Int) := by omega
    have f6 : IntKind.u64.wrap (r : Int) = (r : Int) := u64lo (by omega) (by omega)
    -- what the first digit leaves
    have HW2 := Lib.hid w2
    obtain ⟨u21, hu21⟩ : ∃ u, n32 * 4294967296 + n1 = u := ⟨_, rfl⟩
    have j1 : IntKind.u64.wrap ((n32 : Int) * 4294967296) = (n32 : Int) * 4294967296 := u64lo (by omega) (by omega)
    have j2 : (n32 : Int) * 4294967296 + (n1 : Int) = (u21 : Int) := by omega
    have j3 : IntKind.u64.wrap (u21 : Int) = (u21 : Int) := u64lo (by omega) (by omega)
    rw [hu21] at w1 w2 w3 w4
    have HU2 : Hid (u21 < b * 4294967296 + c) := Lib.hid w1
    have HV2 := Lib.hid HP.n01
    -- the second digit
    have m0 := Div64.KI.start HP.b0 HP.b1 HP.c1 HP.n01 w1
    obtain ⟨q2, hq2⟩ : ∃ q, u21 / b = q := ⟨_, rfl⟩
    obtain ⟨r2, hr2⟩ : ∃ r, u21 % b = r := ⟨_, rfl⟩
    rw [hq2, hr2] at m0
    have mm := m0.1
    have m3 := m0.2.2.1
    have i1 : (u21 : Int) / (b : Int) = (q2 : Int) := by rw [← hq2, Int.natCast_ediv]
    have i2 : IntKind.u64.wrap (q2 : Int) = (q2 : Int) := u64lo (by omega) (by omega)
    obtain ⟨z2, hz2⟩ : ∃ z, q2 * b = z := ⟨_, rfl⟩
    have i3 : (q2 : Int) * (b : Int) = (z2 : Int) := by rw [← hz2, Int.natCast_mul]
    rw [hz2] at mm
    have i4 : IntKind.u64.wrap (z2 : Int) = (z2 : Int) := u64lo (by omega) (by omega)
    have i5 : (u21 : Int) - (z2 : Int) = (r2 : Int) := by omega
    have i6 : IntKind.u64.wrap (r2 : Int) = (r2 : Int) := u64lo (by omega) (by omega)
    have K0 := Lib.hid k0
    have M0 := Lib.hid m0
    have HW3 := Lib.hid w3
    have HW4 := Lib.hid w4
    have HYY := Lib.hid hyy
    have HHY := Lib.hid HP.hy
    have n1u : n1 < 18446744073709551616 := by omega
    have n0u : n0 < 18446744073709551616 := by omega
    have HLOW : Hid (d < 9223372036854775808) := Lib.hid hd
    have HD1 : Hid (1 ≤ d) := Lib.hid (by omega)
    obtain ⟨U, hUU⟩ : ∃ U, hi * 18446744073709551616 + lo = U := ⟨_, rfl⟩
    rw [hUU] at HW3 HW4 w3 w4 ⊢
    obtain ⟨Q, hQ⟩ : ∃ Q, U / d = Q := ⟨_, rfl⟩
    obtain ⟨R, hR⟩ : ∃ R, U % d = R := ⟨_, rfl⟩
    rw [hQ] at HW3 w4 ⊢
    rw [hR] at w4 ⊢
    rw [← hyy] at w4
    have hQ32 : Q < 4294967296 := by rw [← hQ, Nat.div_lt_iff_lt_mul (by omega), Nat.mul_comm, ← hUU]; exact hU
    have hRd : R * 2 ^ s < y := by
      rw [hyy, ← HP.hy]
      exact (Nat.mul_lt_mul_right (Nat.pow_pos (by omega))).2 (by rw [← hR]; exact Nat.mod_lt _ (by omega))
    obtain ⟨V, hV⟩ : ∃ V, R * 2 ^ s = V := ⟨_, rfl⟩
    obtain ⟨Z, hZ⟩ : ∃ Z, Q * y = Z := ⟨_, rfl⟩
    rw [hV, hZ] at w4
    rw [hV] at hRd
    have x3 : (Q : Int) * (y : Int) = (Z : Int) := by rw [← hZ, Int.natCast_mul]
    obtain ⟨a1, ha1⟩ : ∃ z : Int, ((u21 : Int) * 4294967296) % 18446744073709551616 = z := ⟨_, rfl⟩
    obtain ⟨a2, ha2⟩ : ∃ z : Int, (a1 + (n0 : Int)) % 18446744073709551616 = z := ⟨_, rfl⟩
    obtain ⟨a3, ha3⟩ : ∃ z : Int, (Z : Int) % 18446744073709551616 = z := ⟨_, rfl⟩
    have x1 : IntKind.u64.wrap ((u21 : Int) * 4294967296) = a1 := by rw [IntKind.wrap_u64]; exact ha1
    have x2 : IntKind.u64.wrap (a1 + (n0 : Int)) = a2 := by rw [IntKind.wrap_u64]; exact ha2
    have x4 : IntKind.u64.wrap (Z : Int) = a3 := by rw [IntKind.wrap_u64]; exact ha3
    have x5 : IntKind.u64.wrap (a2 - a3) = (V : Int) := by rw [IntKind.wrap_u64]; omega
    have x6 : (V : Int) / 2 ^ s = (R : Int) := by
      have : (V : Int) = (R : Int) * 2 ^ s := by rw [← hV, Int.natCast_mul, Int.natCast_pow]; rfl
      rw [this, Int.mul_ediv_cancel]
      exact Int.ne_of_gt (Int.pow_pos (by omega))
    have x7 : IntKind.u64.wrap (Q : Int) = (Q : Int) := u64lo (by omega) (by omega)
    clear HP hlo hd hU h1 hhi s1 s63 y0 y1 hz k0 kk k3 hq hr hz1 w1 w2 w3 w4 hu21 m0 mm m3 hq2 hr2 hz2 hyy hUU hb2 hQ hR hQ32 hRd hV hZ ha1 ha2 ha3
    go_enter Tryd.func41, Tryd.ntmps41
    go_upto_block 0 with (first
      | (go_at_call 49; (with_reducible refine (HL.out _).mono ?_); rintro e _ ⟨rfl, rfl⟩))
    go_cut [15, 16] from 67 to 85 (fun vq vr wx => vq = .int .u64 0 ∧ w = wx)
    case first =>
      go_wp2_with fail
      go_loop [15, 16] (fun vq vr => ∃ q r : Nat, vq = .int .u64 (q : Int) ∧ vr = .int .u64 (r : Int) ∧ Hid (KI b c n32 n1 q r)) (fun vq _ => (intOf vq).toNat)
      case atStart => exact ⟨_, _, rfl, rfl, K0⟩
      case round =>
        obtain ⟨q, r, rfl, rfl, hk⟩ := hrel
        obtain ⟨k1, k2, k3, k4⟩ := hk.out
        have hqc : q * c ≤ 4294967297 * 4294967295 := Nat.mul_le_mul k3 (by omega)
        obtain ⟨P, hP⟩ : ∃ P, q * c = P := ⟨_, rfl⟩
        have ht := hk.out.test HB.out
        rw [hP] at hqc ht
        have f1 : (q : Int) * (c : Int) = (P : Int) := by rw [← hP, Int.natCast_mul]
        have f2 : IntKind.u64.wrap (P : Int) = (P : Int) := u64lo (by omega) (by omega)
        have f3 : IntKind.u64.wrap (4294967296 * (r : Int)) = 4294967296 * (r : Int) := u64lo (by omega) (by omega)
        have f4 : IntKind.u64.wrap (4294967296 * (r : Int) + (n1 : Int)) = 4294967296 * (r : Int) + (n1 : Int) := u64lo (by omega) (by omega)
        have hnx := fun h => KI.next HB.out HB1.out HC1.out HV.out HU.out hk.out h
        rw [hP] at hnx
        by_cases hc : 4294967296 ≤ q ∨ r * 4294967296 + n1 < P
        · obtain ⟨p, rfl, hn1, hn2⟩ := hnx hc
          have g1 : ((p + 1 : Nat) : Int) - 1 = (p : Int) := by omega
          have g2 : IntKind.u64.wrap (p : Int) = (p : Int) := u64lo (by omega) (by omega)
          have g3 : (r : Int) + (b : Int) = ((r + b : Nat) : Int) := by omega
          have g4 : IntKind.u64.wrap ((r + b : Nat) : Int) = ((r + b : Nat) : Int) := u64lo (by omega) (by have := HB1.out; omega)
          have hor : (4294967296 : Int) ≤ ((p + 1 : Nat) : Int) ∨ (¬ (4294967296 : Int) ≤ ((p + 1 : Nat) : Int) ∧ 4294967296 * (r : Int) + (n1 : Int) < (P : Int)) := by omega
          obtain ⟨rb, hrb⟩ : ∃ z, r + b = z := ⟨_, rfl⟩
          obtain ⟨pz, hpz⟩ : ∃ z : Int, ((p + 1 : Nat) : Int) = z := ⟨_, rfl⟩
          rw [hrb] at hn1 hn2 g3 g4
          have HM : Hid ((p : Int).toNat < pz.toNat) := Lib.hid (by omega)
          rw [hpz] at g1 f1 hor ⊢
          by_cases hr : rb < 4294967296
          · have HK := Lib.hid (hn1 hr)
            have hrr : ¬ (4294967296 : Int) ≤ (rb : Int) := by omega
            clear k1 k2 k3 k4 hqc ht hnx hn1 hn2 hc hP hk hr hrb hpz
            rcases hor with h | ⟨h, h'⟩
            all_goals
              go_wp2_with fail
              go_round
              case rel => exact ⟨p, rb, rfl, rfl, HK⟩
              case measure => exact HM.out
          · have HK := Lib.hid (hn2 (by omega))
            have hrr : (4294967296 : Int) ≤ (rb : Int) := by omega
            clear k1 k2 k3 k4 hqc ht hnx hn1 hn2 hc hP hk hr hrb hpz
            rcases hor with h | ⟨h, h'⟩
            all_goals
              go_wp2_with fail
              (go_meet; exact ⟨by rw [HK.out, HW2.out]; rfl, rfl⟩)
        · have HK : Hid (q = (n32 * 4294967296 + n1) / (b * 4294967296 + c)) := Lib.hid (hk.out.done HB.out (by rw [hP]; omega))
          have h1 : ¬ (4294967296 : Int) ≤ (q : Int) := by omega
          have h2 : ¬ 4294967296 * (r : Int) + (n1 : Int) < (P : Int) := by omega
          clear k1 k2 k3 k4 hqc ht hnx hc hP hk
          go_wp2_with fail
          (go_meet; exact ⟨by rw [HK.out, HW2.out]; rfl, rfl⟩)
    case rest =>
      obtain ⟨rfl, rfl⟩ := hcut
      clear HW2 HU HV K0
      go_upto_block 2 with fail
      go_cut [18, 16] from 102 to 120 (fun vq vr wx => vq = .int .u64 (Q : Int) ∧ w = wx)
      case first =>
        go_wp2_with fail
        go_loop [18, 16] (fun vq vr => ∃ q r : Nat, vq = .int .u64 (q : Int) ∧ vr = .int .u64 (r : Int) ∧ Hid (KI b c u21 n0 q r)) (fun vq _ => (intOf vq).toNat)
        case atStart => exact ⟨_, _, rfl, rfl, M0⟩
        case round =>
          obtain ⟨q, r, rfl, rfl, hk⟩ := hrel
          obtain ⟨k1, k2, k3, k4⟩ := hk.out
          have hqc : q * c ≤ 4294967297 * 4294967295 := Nat.mul_le_mul k3 (by omega)
          obtain ⟨P, hP⟩ : ∃ P, q * c = P := ⟨_, rfl⟩
          have ht := hk.out.test HB.out
          rw [hP] at hqc ht
          have f1 : (q : Int) * (c : Int) = (P : Int) := by rw [← hP, Int.natCast_mul]
          have f2 : IntKind.u64.wrap (P : Int) = (P : Int) := u64lo (by omega) (by omega)
          have f3 : IntKind.u64.wrap (4294967296 * (r : Int)) = 4294967296 * (r : Int) := u64lo (by omega) (by omega)
          have f4 : IntKind.u64.wrap (4294967296 * (r : Int) + (n0 : Int)) = 4294967296 * (r : Int) + (n0 : Int) := u64lo (by omega) (by omega)
          have hnx := fun h => KI.next HB.out HB1.out HC1.out HV2.out HU2.out hk.out h
          rw [hP] at hnx
          by_cases hc : 4294967296 ≤ q ∨ r * 4294967296 + n0 < P
          · obtain ⟨p, rfl, hn1, hn2⟩ := hnx hc
            have g1 : ((p + 1 : Nat) : Int) - 1 = (p : Int) := by omega
            have g2 : IntKind.u64.wrap (p : Int) = (p : Int) := u64lo (by omega) (by omega)
            have g3 : (r : Int) + (b : Int) = ((r + b : Nat) : Int) := by omega
            have g4 : IntKind.u64.wrap ((r + b : Nat) : Int) = ((r + b : Nat) : Int) := u64lo (by omega) (by have := HB1.out; omega)
            have hor : (4294967296 : Int) ≤ ((p + 1 : Nat) : Int) ∨ (¬ (4294967296 : Int) ≤ ((p + 1 : Nat) : Int) ∧ 4294967296 * (r : Int) + (n0 : Int) < (P : Int)) := by omega
            obtain ⟨rb, hrb⟩ : ∃ z, r + b = z := ⟨_, rfl⟩
            obtain ⟨pz, hpz⟩ : ∃ z : Int, ((p + 1 : Nat) : Int) = z := ⟨_, rfl⟩
            rw [hrb] at hn1 hn2 g3 g4
            have HM : Hid ((p : Int).toNat < pz.toNat) := Lib.hid (by omega)
            rw [hpz] at g1 f1 hor ⊢
            by_cases hr : rb < 4294967296
            · have HK := Lib.hid (hn1 hr)
              have hrr : ¬ (4294967296 : Int) ≤ (rb : Int) := by omega
              clear k1 k2 k3 k4 hqc ht hnx hn1 hn2 hc hP hk hr hrb hpz
              rcases hor with h | ⟨h, h'⟩
              all_goals
                go_wp2_with fail
                go_round
                case rel => exact ⟨p, rb, rfl, rfl, HK⟩
                case measure => exact HM.out
            · have HK := Lib.hid (hn2 (by omega))
              have hrr : (4294967296 : Int) ≤ (rb : Int) := by omega
              clear k1 k2 k3 k4 hqc ht hnx hn1 hn2 hc hP hk hr hrb hpz
              rcases hor with h | ⟨h, h'⟩
              all_goals
                go_wp2_with fail
                (go_meet; exact ⟨by rw [HK.out, HW3.out], rfl⟩)
          · have HK : Hid (q = (u21 * 4294967296 + n0) / (b * 4294967296 + c)) := Lib.hid (hk.out.done HB.out (by rw [hP]; omega))
            have h1 : ¬ (4294967296 : Int) ≤ (q : Int) := by omega
            have h2 : ¬ 4294967296 * (r : Int) + (n0 : Int) < (P : Int) := by omega
            clear k1 k2 k3 k4 hqc ht hnx hc hP hk
            go_wp2_with fail
            (go_meet; exact ⟨by rw [HK.out, HW3.out], rfl⟩)
      case rest =>
        obtain ⟨rfl, rfl⟩ := hcut
        go_wp2_with fail
        go_ret2
        exact ⟨rfl, 0, rfl⟩
end Go.Proofs.YtoimepmignlmkaaDoor

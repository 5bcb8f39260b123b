/-
  What the program's safe returns: sums, differences and products below 2^63, or refused, over the library's carries.
  Conditions: the numbers lie in their type's range; the slices read as lists.
-/
import Derived.Test.YtkgajcifanobnaaRows
import Derived.Test.YtkgajcifanobnaaSafP
import Derived.Laws.Externs
import Derived.Lib.Mul64
set_option maxRecDepth 100000
set_option linter.unusedSimpArgs false
namespace Go.Proofs.Ytkgajcifanobnaa
open Go.ChangeShapes Go.WideShapes Go.ChangeAt Go.RowKit
set_option linter.unusedVariables false
theorem bits_lo {x : Int} (x0 : 0 ≤ x) (x1 : x < 18446744073709551616) : IntKind.u64.wrap x = x := by rw [IntKind.wrap_u64]; omega
theorem mask_lo (a : Int) (a0 : 0 ≤ a) (a1 : a < 18446744073709551616) : bits .and .u64 a 4294967295 = a % 4294967296 := by
  obtain ⟨n, rfl⟩ := Int.eq_ofNat_of_zero_le a0
  have h := bits_and_u64_nat n 4294967295 (by omega) (by omega)
  rw [Nat.and_two_pow_sub_one_eq_mod n 32] at h
  exact h
/-- bits.Add64 with no carry: the model's own entry, run. -/
theorem ext_add (a b : Int) (a0 : 0 ≤ a) (b0 : 0 ≤ b) (w : World) : (callFunc 42 #[.int .u64 a, .int .u64 b, .int .u64 0]).run Try.prog w = .ok (.value (.tuple #[.int .u64 ((a + b) % 18446744073709551616), .int .u64 ((a + b) / 18446744073709551616)])) w := by
  rw [run_callFunc_extern Try.func42 (by kernel_rfl) (by kernel_rfl) (by kernel_rfl) (e := add64Entry) (by kernel_rfl), run_add64 a b 0 a0 b0 (by omega) (by omega)]
  simp only [Result.andThen, Int.add_zero]
/-- bits.Mul64: the library's own text, walked. -/
theorem mul_c (a b : Int) (a0 : 0 ≤ a) (a1 : a < 18446744073709551616) (b0 : 0 ≤ b) (b1 : b < 18446744073709551616) (w : World) : Calls Try.prog 36 #[.int .u64 a, .int .u64 b] w fun e w' => e = .returned (.tuple #[.int .u64 (a * b / 18446744073709551616), .int .u64 (a * b % 18446744073709551616)]) ∧ w = w' := by
  obtain ⟨x, hx⟩ := Int.eq_ofNat_of_zero_le a0
  obtain ⟨y, hy⟩ := Int.eq_ofNat_of_zero_le b0
  obtain ⟨g1, g2, g3, g4⟩ := Lib.mul64_hi x y (by omega) (by omega)
  have p1 := Lib.half_mul_le (a := x / 4294967296) (b := y / 4294967296) (by omega) (by omega)
  have p2 := Lib.half_mul_le (a := x / 4294967296) (b := y % 4294967296) (by omega) (by omega)
  have p3 := Lib.half_mul_le (a := x % 4294967296) (b := y / 4294967296) (by omega) (by omega)
  have p4 := Lib.half_mul_le (a := x % 4294967296) (b := y % 4294967296) (by omega) (by omega)
  have q1 : a / 4294967296 * (b / 4294967296) = ((x / 4294967296 * (y / 4294967296) : Nat) : Int) := by rw [hx, hy, Int.natCast_mul, Int.natCast_ediv, Int.natCast_ediv]; rfl
  have q2 : a / 4294967296 * (b % 4294967296) = ((x / 4294967296 * (y % 4294967296) : Nat) : Int) := by rw [hx, hy, Int.natCast_mul, Int.natCast_ediv, Int.natCast_emod]; rfl
  have q3 : a % 4294967296 * (b / 4294967296) = ((x % 4294967296 * (y / 4294967296) : Nat) : Int) := by rw [hx, hy, Int.natCast_mul, Int.natCast_emod, Int.natCast_ediv]; rfl
  have q4 : a % 4294967296 * (b % 4294967296) = ((x % 4294967296 * (y % 4294967296) : Nat) : Int) := by rw [hx, hy, Int.natCast_mul, Int.natCast_emod, Int.natCast_emod]; rfl
  have q5 : a * b = ((x * y : Nat) : Int) := by rw [hx, hy, Int.natCast_mul]
  generalize x / 4294967296 * (y / 4294967296) = P1 at *
  generalize x / 4294967296 * (y % 4294967296) = P2 at *
  generalize x % 4294967296 * (y / 4294967296) = P3 at *
  generalize x % 4294967296 * (y % 4294967296) = P4 at *
  generalize x * y = P5 at *
  have HQ := Lib.hid (And.intro q1 (And.intro q2 (And.intro q3 (And.intro q4 q5))))
  have m1 := mask_lo a a0 a1
  have m2 := mask_lo b b0 b1
  have HG := Lib.hid (And.intro g1 (And.intro g2 (And.intro g3 g4)))
  have HP := Lib.hid (And.intro p1 (And.intro p2 (And.intro p3 p4)))
  clear q1 q2 q3 q4 q5 g1 g2 g3 g4 p1 p2 p3 p4 hx hy
  go_enter Try.func36, Try.ntmps36
  go_wp2
  obtain ⟨q1, q2, q3, q4, q5⟩ := HQ.out
  obtain ⟨g1, g2, g3, g4⟩ := HG.out
  obtain ⟨p1, p2, p3, p4⟩ := HP.out
  clear HQ HG HP
  have w1 : IntKind.u64.wrap (P1 : Int) = P1 := bits_lo (by omega) (by omega)
  have w2 : IntKind.u64.wrap (P2 : Int) = P2 := bits_lo (by omega) (by omega)
  have w3 : IntKind.u64.wrap (P3 : Int) = P3 := bits_lo (by omega) (by omega)
  have w4 : IntKind.u64.wrap (P4 : Int) = P4 := bits_lo (by omega) (by omega)
  have w5 : IntKind.u64.wrap (P5 : Int) = P5 % 18446744073709551616 := IntKind.wrap_u64 _
  have wT : IntKind.u64.wrap ((P2 : Int) + P4 / 4294967296) = P2 + P4 / 4294967296 := bits_lo (by omega) (by omega)
  have mT := mask_lo ((P2 : Int) + P4 / 4294967296) (by omega) (by omega)
  have wW : IntKind.u64.wrap (((P2 : Int) + P4 / 4294967296) % 4294967296 + P3) = ((P2 : Int) + P4 / 4294967296) % 4294967296 + P3 := bits_lo (by omega) (by omega)
  have wH : IntKind.u64.wrap ((P1 : Int) + (P2 + P4 / 4294967296) / 4294967296) = (P1 : Int) + (P2 + P4 / 4294967296) / 4294967296 := bits_lo (by omega) (by omega)
  have wI : IntKind.u64.wrap ((P1 : Int) + (P2 + P4 / 4294967296) / 4294967296 + (((P2 : Int) + P4 / 4294967296) % 4294967296 + P3) / 4294967296) = P5 / 18446744073709551616 := by rw [bits_lo (by omega) (by omega)]; omega
  simp only [q1, q2, q3, q4, q5, w1, w2, w3, w4, w5, wT, mT, wW, wH, wI]
  go_ret2
  exact ⟨by first | rfl | (rw [q5]), rfl⟩
theorem q9fits_c (a : Int) (a0 : 0 ≤ a) (a1 : a < 18446744073709551616) (w : World) : Calls Try.prog 43 #[.int .u64 a] w fun e w' => e = .returned (.bool (decide (a < 9223372036854775808))) ∧ w = w' := by
  go_enter Try.func43, Try.ntmps43
  go_wp2
  go_ret
  exact ⟨rfl, rfl⟩
theorem q9bel_ok (l : Int) (l0 : 0 ≤ l) (l1 : l < 9223372036854775808) (w : World) : Calls Try.prog 37 #[.int .u64 0, .int .u64 l] w fun e w' => e = .returned (.tuple #[.int .u64 l, .bool true]) ∧ w = w' := by
  have hf := q9fits_c l l0 (by omega)
  rw [decide_eq_true l1] at hf
  have HF := Lib.hid hf
  clear hf
  go_enter Try.func37, Try.ntmps37
  go_wp2_with (first
    | (go_at_call 43; (with_reducible refine (HF.out _).mono ?_); rintro e _ ⟨rfl, rfl⟩))
  go_ret2
  exact ⟨rfl, rfl⟩
theorem q9bel_no (h l : Int) (h0 : 0 ≤ h) (h1 : h < 18446744073709551616) (l0 : 0 ≤ l) (l1 : l < 18446744073709551616) (hno : h = 0 → ¬ l < 9223372036854775808) (w : World) : Calls Try.prog 37 #[.int .u64 h, .int .u64 l] w fun e w' => e = .returned (.tuple #[.int .u64 0, .bool false]) ∧ w = w' := by
  have hf := q9fits_c l l0 l1
  by_cases hz : h = 0
  · subst hz
    rw [decide_eq_false (hno rfl)] at hf
    have HF := Lib.hid hf
    clear hf hno
    go_enter Try.func37, Try.ntmps37
    go_wp2_with (first
      | (go_at_call 43; (with_reducible refine (HF.out _).mono ?_); rintro e _ ⟨rfl, rfl⟩))
    go_ret2
    exact ⟨rfl, rfl⟩
  · have tz : (h == 0) = false := by rw [beq_eq_false_iff_ne]; exact hz
    clear hf hno
    go_enter Try.func37, Try.ntmps37
    go_wp2
    go_ret2
    exact ⟨rfl, rfl⟩
theorem q9add_c (a b : Int) (a0 : 0 ≤ a) (a1 : a < 18446744073709551616) (b0 : 0 ≤ b) (b1 : b < 18446744073709551616) (w : World) : Calls Try.prog 35 #[.int .u64 a, .int .u64 b] w fun e w' => e = .returned (.tuple #[.int .u64 (addV a b), .bool (addO a b)]) ∧ w = w' := by
  have hx := ext_add a b a0 b0
  obtain ⟨s, hs⟩ : ∃ s, (a + b) % 18446744073709551616 = s := ⟨_, rfl⟩
  obtain ⟨c, hc⟩ : ∃ c, (a + b) / 18446744073709551616 = c := ⟨_, rfl⟩
  rw [hs, hc] at hx
  by_cases h : a + b < 9223372036854775808
  · obtain rfl : c = 0 := by omega
    obtain rfl : s = a + b := by omega
    have hb := q9bel_ok (a + b) (by omega) h
    rw [(addV_ok h).1, (addV_ok h).2]
    have HB := Lib.hid hb
    clear hb hs hc h
    go_enter Try.func35, Try.ntmps35
    go_wp2_with (first
      | (go_at_call 37; (with_reducible refine (HB.out _).mono ?_); rintro e _ ⟨rfl, rfl⟩)
      | (simp only [hx]))
    go_ret2
    exact ⟨rfl, rfl⟩
  · have hb := q9bel_no c s (by omega) (by omega) (by omega) (by omega) (by omega)
    rw [(addV_no h).1, (addV_no h).2]
    have HB := Lib.hid hb
    clear hb hs hc h
    go_enter Try.func35, Try.ntmps35
    go_wp2_with (first
      | (go_at_call 37; (with_reducible refine (HB.out _).mono ?_); rintro e _ ⟨rfl, rfl⟩)
      | (simp only [hx]))
    go_ret2
    exact ⟨rfl, rfl⟩
theorem q9mul_c (a b : Int) (a0 : 0 ≤ a) (a1 : a < 18446744073709551616) (b0 : 0 ≤ b) (b1 : b < 18446744073709551616) (w : World) : Calls Try.prog 25 #[.int .u64 a, .int .u64 b] w fun e w' => e = .returned (.tuple #[.int .u64 (mulV a b), .bool (mulO a b)]) ∧ w = w' := by
  have hx := mul_c a b a0 a1 b0 b1
  have hm := Int.mul_nonneg a0 b0
  have hl : a * b ≤ 18446744073709551615 * 18446744073709551615 := Int.mul_le_mul (by omega) (by omega) b0 (by omega)
  by_cases h : a * b < 9223372036854775808
  · rw [(mulV_ok h).1, (mulV_ok h).2]
    generalize a * b = m at *
    obtain ⟨s, hs⟩ : ∃ s, m % 18446744073709551616 = s := ⟨_, rfl⟩
    obtain ⟨c, hc⟩ : ∃ c, m / 18446744073709551616 = c := ⟨_, rfl⟩
    rw [hs, hc] at hx
    obtain rfl : c = 0 := by omega
    obtain rfl : s = m := by omega
    have hb := q9bel_ok s (by omega) h
    have HB := Lib.hid hb
    have HX := Lib.hid hx
    clear hb hx hs hc h hm hl
    go_enter Try.func25, Try.ntmps25
    go_wp2_with (first
      | (go_at_call 37; (with_reducible refine (HB.out _).mono ?_); rintro e _ ⟨rfl, rfl⟩)
      | (go_at_call 36; (with_reducible refine (HX.out _).mono ?_); rintro e _ ⟨rfl, rfl⟩))
    go_ret2
    exact ⟨rfl, rfl⟩
  · rw [(mulV_no h).1, (mulV_no h).2]
    generalize a * b = m at *
    obtain ⟨s, hs⟩ : ∃ s, m % 18446744073709551616 = s := ⟨_, rfl⟩
    obtain ⟨c, hc⟩ : ∃ c, m / 18446744073709551616 = c := ⟨_, rfl⟩
    rw [hs, hc] at hx
    have hb := q9bel_no c s (by omega) (by omega) (by omega) (by omega) (by omega)
    have HB := Lib.hid hb
    have HX := Lib.hid hx
    clear hb hx hs hc h hm hl
    go_enter Try.func25, Try.ntmps25
    go_wp2_with (first
      | (go_at_call 37; (with_reducible refine (HB.out _).mono ?_); rintro e _ ⟨rfl, rfl⟩)
      | (go_at_call 36; (with_reducible refine (HX.out _).mono ?_); rintro e _ ⟨rfl, rfl⟩))
    go_ret2
    exact ⟨rfl, rfl⟩
set_option maxHeartbeats 2000000 in
theorem q9total_c (zs : List Int) (hz : ∀ z ∈ zs, 0 ≤ z ∧ z < 18446744073709551616) (A : Option Addr) (n c : Nat) (hn : n ≤ maxLen) (w : World) (hrd : Rd .u64 w w.heap.size A n zs) : Calls Try.prog 24 #[.slice A n c] w fun e w' => e = .returned (.tuple #[.int .u64 (sumV zs), .bool (sumO zs)]) ∧ w = w' := by
  have HR := Lib.hid hrd
  have HZ := Lib.hid hz
  have hlen := hrd.len
  have hnm : (n : Int) ≤ 9223372036854775807 := by unfold maxLen at hn; omega
  have hle := fun k => sumL_le (l := zs) (fun z h => (hz z h).1) k
  have hst := fun k h => sumL_take (l := zs) (k := k) h
  have htk : zs.take n = zs := by rw [← hlen, List.take_length]
  have HLE := Lib.hid hle
  have HST := Lib.hid hst
  clear hrd hz hn hle hst
  go_enter Try.func24, Try.ntmps24
  go_wp2
  go_loopw [4, 10] (fun s i wr => ∃ k : Nat, k ≤ n ∧ i = .int .i64 (k : Int) ∧ s = .int .u64 (sumL (zs.take k)) ∧ 0 ≤ sumL (zs.take k) ∧ sumL (zs.take k) < 9223372036854775808 ∧ wr = w) (fun _ i _ => n - (intOf i).toNat)
  case atStart => exact ⟨0, by omega, rfl, rfl, Int.le_refl _, (by show (0 : Int) < 9223372036854775808; omega), by first | rfl | trivial⟩
  case round =>
    obtain ⟨k, hk, rfl, rfl, h0, h1, rfl⟩ := hrel
    by_cases hlt : k < n
    · obtain ⟨b, off, rfl, _, hc⟩ := HR.out.at_ (by omega)
      have hck := hc k hlt
      have hzk := HZ.out _ (getD_in (l := zs) (k := k) (by omega))
      have hsk := HST.out k (by omega)
      have hl1 := HLE.out (k + 1)
      have HSK := Lib.hid hsk
      obtain ⟨z, hzz⟩ : ∃ z, zs.getD k 0 = z := ⟨_, rfl⟩
      obtain ⟨S, hS⟩ : ∃ S, sumL (zs.take k) = S := ⟨_, rfl⟩
      obtain ⟨S1, hS1⟩ : ∃ S, sumL (zs.take (k + 1)) = S := ⟨_, rfl⟩
      rw [hzz, hS] at HSK
      rw [hzz] at hck hzk hsk
      rw [hS] at h0 h1 hsk ⊢
      rw [hS1] at hl1 hsk
      have hadd := fun W => q9add_c S z h0 (by omega) hzk.1 hzk.2 W
      by_cases hs : S + z < 9223372036854775808
      · rw [(addV_ok hs).1, (addV_ok hs).2] at hadd
        have HADD := Lib.hid hadd
        clear hadd hc hzz hS hS1 hsk hl1
        go_wp2_with (first
          | (go_at_call 35; (with_reducible refine (HADD.out _).mono ?_); rintro e _ ⟨rfl, rfl⟩))
        go_roundw
        case rel => exact ⟨k + 1, by omega, by go_num, by rw [HSK.out], by rw [HSK.out]; omega, by rw [HSK.out]; exact hs, by first | rfl | trivial⟩
        case measure => simp [intOf]; omega
      · rw [(addV_no hs).1, (addV_no hs).2] at hadd
        have hno : ¬ sumL zs < 9223372036854775808 := by omega
        have HADD := Lib.hid hadd
        have HNO := Lib.hid (sumV_no hno)
        clear hadd hc hzz hS hS1 hsk hl1 hno
        go_wp2_with (first
          | (go_at_call 35; (with_reducible refine (HADD.out _).mono ?_); rintro e _ ⟨rfl, rfl⟩))
        go_ret2
        exact ⟨ret_pair (sym2 HNO.out), by first | rfl | trivial⟩
    · obtain rfl : k = n := by omega
      rw [htk] at h0 h1 ⊢
      have HOK := Lib.hid (sumV_ok h1)
      go_wp2
      go_ret2
      exact ⟨ret_pair (sym2 HOK.out), by first | rfl | trivial⟩
end Go.Proofs.Ytkgajcifanobnaa

/-
  What the program's safe returns: sums, differences and products below 2^63, or refused, over the library's carries.
  Conditions: the numbers lie in their type's range; the slices read as lists.
-/
import Derived.Test.YtilccjjagdedaaaDoorRows
import Derived.Test.YtilccjjagdedaaaDoorSafP
import Derived.Laws.Externs
import Derived.Lib.Mul64
set_option maxRecDepth 100000
set_option linter.unusedSimpArgs false
namespace Go.Proofs.YtilccjjagdedaaaDoor
open Go.ChangeShapes Go.WideShapes Go.ChangeAt Go.RowKit
set_option linter.unusedVariables false
theorem bits_lo {x : Int} (x0 : 0 ≤ x) (x1 : x < 18446744073709551616) : IntKind.u64.wrap x = x := by rw [IntKind.wrap_u64]; omega
theorem mask_lo (a : Int) (a0 : 0 ≤ a) (a1 : a < 18446744073709551616) : bits .and .u64 a 4294967295 = a % 4294967296 := by
  obtain ⟨n, rfl⟩ := Int.eq_ofNat_of_zero_le a0
  have h := bits_and_u64_nat n 4294967295 (by omega) (by omega)
  rw [Nat.and_two_pow_sub_one_eq_mod n 32] at h
  exact h
/-- bits.Add64 with no carry: the model's own entry, run. -/
theorem ext_add (a b : Int) (a0 : 0 ≤ a) (b0 : 0 ≤ b) (w : World) : (callFunc 22 #[.int .u64 a, .int .u64 b, .int .u64 0]).run Tryd.prog w = .ok (.value (.tuple #[.int .u64 ((a + b) % 18446744073709551616), .int .u64 ((a + b) / 18446744073709551616)])) w := by
  rw [run_callFunc_extern Tryd.func22 (by kernel_rfl) (by kernel_rfl) (by kernel_rfl) (e := add64Entry) (by kernel_rfl), run_add64 a b 0 a0 b0 (by omega) (by omega)]
  simp only [Result.andThen, Int.add_zero]
theorem q9fits_c (a : Int) (a0 : 0 ≤ a) (a1 : a < 18446744073709551616) (w : World) : Calls Tryd.prog 28 #[.int .u64 a] w fun e w' => e = .returned (.bool (decide (a < 9223372036854775808))) ∧ w = w' := by
  go_enter Tryd.func28, Tryd.ntmps28
  go_wp2
  go_ret
  exact ⟨rfl, rfl⟩
theorem q9bel_ok (l : Int) (l0 : 0 ≤ l) (l1 : l < 9223372036854775808) (w : World) : Calls Tryd.prog 23 #[.int .u64 0, .int .u64 l] w fun e w' => e = .returned (.tuple #[.int .u64 l, .bool true]) ∧ w = w' := by
  have hf := q9fits_c l l0 (by omega)
  rw [decide_eq_true l1] at hf
  have HF := Lib.hid hf
  clear hf
  go_enter Tryd.func23, Tryd.ntmps23
  go_wp2_with (first
    | (go_at_call 28; (with_reducible refine (HF.out _).mono ?_); rintro e _ ⟨rfl, rfl⟩))
  go_ret2
  exact ⟨rfl, rfl⟩
theorem q9bel_no (h l : Int) (h0 : 0 ≤ h) (h1 : h < 18446744073709551616) (l0 : 0 ≤ l) (l1 : l < 18446744073709551616) (hno : h = 0 → ¬ l < 9223372036854775808) (w : World) : Calls Tryd.prog 23 #[.int .u64 h, .int .u64 l] w fun e w' => e = .returned (.tuple #[.int .u64 0, .bool false]) ∧ w = w' := by
  have hf := q9fits_c l l0 l1
  by_cases hz : h = 0
  · subst hz
    rw [decide_eq_false (hno rfl)] at hf
    have HF := Lib.hid hf
    clear hf hno
    go_enter Tryd.func23, Tryd.ntmps23
    go_wp2_with (first
      | (go_at_call 28; (with_reducible refine (HF.out _).mono ?_); rintro e _ ⟨rfl, rfl⟩))
    go_ret2
    exact ⟨rfl, rfl⟩
  · have tz : (h == 0) = false := by rw [beq_eq_false_iff_ne]; exact hz
    clear hf hno
    go_enter Tryd.func23, Tryd.ntmps23
    go_wp2
    go_ret2
    exact ⟨rfl, rfl⟩
theorem q9add_c (a b : Int) (a0 : 0 ≤ a) (a1 : a < 18446744073709551616) (b0 : 0 ≤ b) (b1 : b < 18446744073709551616) (w : World) : Calls Tryd.prog 18 #[.int .u64 a, .int .u64 b] w fun e w' => e = .returned (.tuple #[.int .u64 (addV a b), .bool (addO a b)]) ∧ w = w' := by
  have hx := ext_add a b a0 b0
  obtain ⟨s, hs⟩ : ∃ s, (a + b) % 18446744073709551616 = s := ⟨_, rfl⟩
  obtain ⟨c, hc⟩ : ∃ c, (a + b) / 18446744073709551616 = c := ⟨_, rfl⟩
  rw [hs, hc] at hx
  by_cases h : a + b < 9223372036854775808
  · obtain rfl : c = 0 := by omega
    obtain rfl : s = a + b := by omega
    have hb := q9bel_ok (a + b) (by omega) h
    rw [(addV_ok h).1, (addV_ok h).2]
    have HB := Lib.hid hb
    clear hb hs hc h
    go_enter Tryd.func18, Tryd.ntmps18
    go_wp2_with (first
      | (go_at_call 23; (with_reducible refine (HB.out _).mono ?_); rintro e _ ⟨rfl, rfl⟩)
      | (simp only [hx]))
    go_ret2
    exact ⟨rfl, rfl⟩
  · have hb := q9bel_no c s (by omega) (by omega) (by omega) (by omega) (by omega)
    rw [(addV_no h).1, (addV_no h).2]
    have HB := Lib.hid hb
    clear hb hs hc h
    go_enter Tryd.func18, Tryd.ntmps18
    go_wp2_with (first
      | (go_at_call 23; (with_reducible refine (HB.out _).mono ?_); rintro e _ ⟨rfl, rfl⟩)
      | (simp only [hx]))
    go_ret2
    exact ⟨rfl, rfl⟩
set_option maxHeartbeats 2000000 in
theorem q9total_c (zs : List Int) (hz : ∀ z ∈ zs, 0 ≤ z ∧ z < 18446744073709551616) (A : Option Addr) (n c : Nat) (hn : n ≤ maxLen) (w : World) (hrd : Rd .u64 w w.heap.size A n zs) : Calls Tryd.prog 12 #[.slice A n c] w fun e w' => e = .returned (.tuple #[.int .u64 (sumV zs), .bool (sumO zs)]) ∧ w = w' := by
  have HR := Lib.hid hrd
  have HZ := Lib.hid hz
  have hlen := hrd.len
  have hnm : (n : Int) ≤ 9223372036854775807 := by unfold maxLen at hn; omega
  have hle := fun k => sumL_le (l := zs) (fun z h => (hz z h).1) k
  have hst := fun k h => sumL_take (l := zs) (k := k) h
  have htk : zs.take n = zs := by rw [← hlen, List.take_length]
  have HLE := Lib.hid hle
  have HST := Lib.hid hst
  clear hrd hz hn hle hst
  go_enter Tryd.func12, Tryd.ntmps12
  go_wp2
  go_loopw [4, 10] (fun s i wr => ∃ k : Nat, k ≤ n ∧ i = .int .i64 (k : Int) ∧ s = .int .u64 (sumL (zs.take k)) ∧ 0 ≤ sumL (zs.take k) ∧ sumL (zs.take k) < 9223372036854775808 ∧ wr = w) (fun _ i _ => n - (intOf i).toNat)
  case atStart => exact ⟨0, by omega, rfl, rfl, Int.le_refl _, (by show (0 : Int) < 9223372036854775808; omega), by first | rfl | trivial⟩
  case round =>
    obtain ⟨k, hk, rfl, rfl, h0, h1, rfl⟩ := hrel
    by_cases hlt : k < n
    · obtain ⟨b, off, rfl, _, hc⟩ := HR.out.at_ (by omega)
      have hck := hc k hlt
      have hzk := HZ.out _ (getD_in (l := zs) (k := k) (by omega))
      have hsk := HST.out k (by omega)
      have hl1 := HLE.out (k + 1)
      have HSK := Lib.hid hsk
      obtain ⟨z, hzz⟩ : ∃ z, zs.getD k 0 = z := ⟨_, rfl⟩
      obtain ⟨S, hS⟩ : ∃ S, sumL (zs.take k) = S := ⟨_, rfl⟩
      obtain ⟨S1, hS1⟩ : ∃ S, sumL (zs.take (k + 1)) = S := ⟨_, rfl⟩
      rw [hzz, hS] at HSK
      rw [hzz] at hck hzk hsk
      rw [hS] at h0 h1 hsk ⊢
      rw [hS1] at hl1 hsk
      have hadd := fun W => q9add_c S z h0 (by omega) hzk.1 hzk.2 W
      by_cases hs : S + z < 9223372036854775808
      · rw [(addV_ok hs).1, (addV_ok hs).2] at hadd
        have HADD := Lib.hid hadd
        clear hadd hc hzz hS hS1 hsk hl1
        go_wp2_with (first
          | (go_at_call 18; (with_reducible refine (HADD.out _).mono ?_); rintro e _ ⟨rfl, rfl⟩))
        go_roundw
        case rel => exact ⟨k + 1, by omega, by go_num, by rw [HSK.out], by rw [HSK.out]; omega, by rw [HSK.out]; exact hs, by first | rfl | trivial⟩
        case measure => simp [intOf]; omega
      · rw [(addV_no hs).1, (addV_no hs).2] at hadd
        have hno : ¬ sumL zs < 9223372036854775808 := by omega
        have HADD := Lib.hid hadd
        have HNO := Lib.hid (sumV_no hno)
        clear hadd hc hzz hS hS1 hsk hl1 hno
        go_wp2_with (first
          | (go_at_call 18; (with_reducible refine (HADD.out _).mono ?_); rintro e _ ⟨rfl, rfl⟩))
        go_ret2
        exact ⟨ret_pair (sym2 HNO.out), by first | rfl | trivial⟩
    · obtain rfl : k = n := by omega
      rw [htk] at h0 h1 ⊢
      have HOK := Lib.hid (sumV_ok h1)
      go_wp2
      go_ret2
      exact ⟨ret_pair (sym2 HOK.out), by first | rfl | trivial⟩
end Go.Proofs.YtilccjjagdedaaaDoor

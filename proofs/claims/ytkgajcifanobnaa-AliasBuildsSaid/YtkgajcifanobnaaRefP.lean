/-
  What drawlotref09 returns: sums, differences and products below 2^63, or refused; whether two lists are the same.
  Conditions: the numbers lie in their type's range; the slices read as lists.
-/
import Derived.Test.YtkgajcifanobnaaRows
import Derived.Test.YtkgajcifanobnaaSafP
set_option maxRecDepth 100000
set_option linter.unusedSimpArgs false
namespace Go.Proofs.Ytkgajcifanobnaa
open Go.ChangeShapes Go.WideShapes Go.ChangeAt Go.RowKit
set_option linter.unusedVariables false
-- arith
theorem r9add_c (a b : Int) (a0 : 0 ≤ a) (a1 : a < 18446744073709551616) (b0 : 0 ≤ b) (b1 : b < 18446744073709551616) (w : World) : Calls Try.prog 40 #[.int .u64 a, .int .u64 b] w fun e w' => e = .returned (.tuple #[.int .u64 (addV a b), .bool (addO a b)]) ∧ w = w' := by
  by_cases h : a + b < 9223372036854775808
  · have HV := Lib.hid (addV_ok h)
    have h1 : ¬ 9223372036854775808 ≤ a := by omega
    have h2 : ¬ 9223372036854775808 - a ≤ b := by omega
    go_enter Try.func40, Try.ntmps40
    go_wp2
    go_ret2
    exact ⟨ret_pair (sym2 HV.out), rfl⟩
  · have HV := Lib.hid (addV_no h)
    by_cases h1 : 9223372036854775808 ≤ a
    · go_enter Try.func40, Try.ntmps40
      go_wp2
      go_ret2
      exact ⟨ret_pair (sym2 HV.out), rfl⟩
    · have h2 : 9223372036854775808 - a ≤ b := by omega
      go_enter Try.func40, Try.ntmps40
      go_wp2
      go_ret2
      exact ⟨ret_pair (sym2 HV.out), rfl⟩
theorem r9mul_c (a b : Int) (a0 : 0 ≤ a) (a1 : a < 18446744073709551616) (b0 : 0 ≤ b) (b1 : b < 18446744073709551616) (w : World) : Calls Try.prog 29 #[.int .u64 a, .int .u64 b] w fun e w' => e = .returned (.tuple #[.int .u64 (mulV a b), .bool (mulO a b)]) ∧ w = w' := by
  by_cases ha : a = 0
  · subst ha
    have HV := Lib.hid (mulV_ok (a := 0) (b := b) (by rw [Int.zero_mul]; omega))
    go_enter Try.func29, Try.ntmps29
    go_wp2
    go_ret2
    exact ⟨ret_pair (sym2 ⟨HV.out.1.trans (Int.zero_mul b), HV.out.2⟩), rfl⟩
  · have ta : (a == 0) = false := by rw [beq_eq_false_iff_ne]; exact ha
    by_cases hb : b = 0
    · subst hb
      have HV := Lib.hid (mulV_ok (a := a) (b := 0) (by rw [Int.mul_zero]; omega))
      go_enter Try.func29, Try.ntmps29
      go_wp2
      go_ret2
      exact ⟨ret_pair (sym2 ⟨HV.out.1.trans (Int.mul_zero a), HV.out.2⟩), rfl⟩
    · have tb : (b == 0) = false := by rw [beq_eq_false_iff_ne]; exact hb
      have hd := lt_div b a (by omega) a0
      have hq0 : 0 ≤ 9223372036854775807 / b := Int.ediv_nonneg (by omega) (by omega)
      have hq1 : 9223372036854775807 / b ≤ 9223372036854775807 := Int.ediv_le_self _ (by omega)
      have ht : (9223372036854775807 : Int).tdiv b = 9223372036854775807 / b := Int.tdiv_eq_ediv_of_nonneg (by omega)
      have hm0 := Int.mul_nonneg a0 b0
      obtain ⟨q, hq⟩ : ∃ q, 9223372036854775807 / b = q := ⟨_, rfl⟩
      obtain ⟨m, hm⟩ : ∃ m, a * b = m := ⟨_, rfl⟩
      rw [hq] at hd hq0 hq1 ht
      rw [hm] at hd hm0
      by_cases hs : m < 9223372036854775808
      · have HV := Lib.hid (mulV_ok (a := a) (b := b) (by rw [hm]; exact hs))
        rw [hm] at HV
        have hqa : ¬ q < a := fun h => hd.1 h hs
        clear hd hq
        go_enter Try.func29, Try.ntmps29
        go_wp2
        go_ret2
        exact ⟨ret_pair (sym2 HV.out), rfl⟩
      · have HV := Lib.hid (mulV_no (a := a) (b := b) (by rw [hm]; exact hs))
        have hqa : q < a := hd.2 hs
        clear hd hq hm
        go_enter Try.func29, Try.ntmps29
        go_wp2
        go_ret2
        exact ⟨ret_pair (sym2 HV.out), rfl⟩
-- arith end
set_option maxHeartbeats 2000000 in
theorem r9total_c (zs : List Int) (hz : ∀ z ∈ zs, 0 ≤ z ∧ z < 18446744073709551616) (A : Option Addr) (n c : Nat) (hn : n ≤ maxLen) (w : World) (hrd : Rd .u64 w w.heap.size A n zs) : Calls Try.prog 28 #[.slice A n c] w fun e w' => e = .returned (.tuple #[.int .u64 (sumV zs), .bool (sumO zs)]) ∧ w = w' := by
  have HR := Lib.hid hrd
  have HZ := Lib.hid hz
  have hlen := hrd.len
  have hnm : (n : Int) ≤ 9223372036854775807 := by unfold maxLen at hn; omega
  have hle := fun k => sumL_le (l := zs) (fun z h => (hz z h).1) k
  have hst := fun k h => sumL_take (l := zs) (k := k) h
  have htk : zs.take n = zs := by rw [← hlen, List.take_length]
  have HLE := Lib.hid hle
  have HST := Lib.hid hst
  clear hrd hz hn hle hst
  go_enter Try.func28, Try.ntmps28
  go_wp2
  go_loopw [4, 5] (fun s i wr => ∃ k : Nat, k ≤ n ∧ i = .int .i64 (k : Int) ∧ s = .int .u64 (sumL (zs.take k)) ∧ 0 ≤ sumL (zs.take k) ∧ sumL (zs.take k) < 9223372036854775808 ∧ wr = w) (fun _ i _ => n - (intOf i).toNat)
  case atStart => exact ⟨0, by omega, rfl, rfl, Int.le_refl _, (by show (0 : Int) < 9223372036854775808; omega), by first | rfl | trivial⟩
  case round =>
    obtain ⟨k, hk, rfl, rfl, h0, h1, rfl⟩ := hrel
    by_cases hlt : k < n
    · obtain ⟨b, off, rfl, _, hc⟩ := HR.out.at_ (by omega)
      have hck := hc k hlt
      have hzk := HZ.out _ (getD_in (l := zs) (k := k) (by omega))
      have hsk := HST.out k (by omega)
      have hl1 := HLE.out (k + 1)
      have HSK := Lib.hid hsk
      obtain ⟨z, hzz⟩ : ∃ z, zs.getD k 0 = z := ⟨_, rfl⟩
      obtain ⟨S, hS⟩ : ∃ S, sumL (zs.take k) = S := ⟨_, rfl⟩
      obtain ⟨S1, hS1⟩ : ∃ S, sumL (zs.take (k + 1)) = S := ⟨_, rfl⟩
      rw [hzz, hS] at HSK
      rw [hzz] at hck hzk hsk
      rw [hS] at h0 h1 hsk ⊢
      rw [hS1] at hl1 hsk
      have hadd := fun W => r9add_c S z h0 (by omega) hzk.1 hzk.2 W
      by_cases hs : S + z < 9223372036854775808
      · rw [(addV_ok hs).1, (addV_ok hs).2] at hadd
        have HADD := Lib.hid hadd
        clear hadd hc hzz hS hS1 hsk hl1
        go_wp2_with (first
          | (go_at_call 40; (with_reducible refine (HADD.out _).mono ?_); rintro e _ ⟨rfl, rfl⟩))
        go_roundw
        case rel => exact ⟨k + 1, by omega, by go_num, by rw [HSK.out], by rw [HSK.out]; omega, by rw [HSK.out]; exact hs, by first | rfl | trivial⟩
        case measure => simp [intOf]; omega
      · rw [(addV_no hs).1, (addV_no hs).2] at hadd
        have hno : ¬ sumL zs < 9223372036854775808 := by omega
        have HADD := Lib.hid hadd
        have HNO := Lib.hid (sumV_no hno)
        clear hadd hc hzz hS hS1 hsk hl1 hno
        go_wp2_with (first
          | (go_at_call 40; (with_reducible refine (HADD.out _).mono ?_); rintro e _ ⟨rfl, rfl⟩))
        go_ret2
        exact ⟨ret_pair (sym2 HNO.out), by first | rfl | trivial⟩
    · obtain rfl : k = n := by omega
      rw [htk] at h0 h1 ⊢
      have HOK := Lib.hid (sumV_ok h1)
      go_wp2
      go_ret2
      exact ⟨ret_pair (sym2 HOK.out), by first | rfl | trivial⟩
set_option maxHeartbeats 2000000 in
theorem r9same_c (xs ys : List Int) (A B : Option Addr) (n m c d : Nat) (hn : n ≤ maxLen) (hm : m ≤ maxLen) (w : World) (hra : Rd .u64 w w.heap.size A n xs) (hrb : Rd .u64 w w.heap.size B m ys) : Calls Try.prog 12 #[.slice A n c, .slice B m d] w fun e w' => e = .returned (.bool (decide (xs = ys))) ∧ Below w.heap.size w w' := by
  have HA := Lib.hid hra
  have HB := Lib.hid hrb
  have hla := hra.len
  have hlb := hrb.len
  have hnm : (n : Int) ≤ 9223372036854775807 := by unfold maxLen at hn; omega
  clear hra hrb hn hm
  by_cases hl : n = m
  · subst hl
    have t0 : ((n : Int) != (n : Int)) = false := by simp
    go_enter Try.func12, Try.ntmps12
    go_wp2
    go_loopw [5] (fun i wr => ∃ k : Nat, k ≤ n ∧ i = .int .i64 (k : Int) ∧ (∀ j, j < k → xs.getD j 0 = ys.getD j 0) ∧ Below w.heap.size w wr) (fun i _ => n - (intOf i).toNat)
    case atStart => exact ⟨0, by omega, rfl, fun j h => absurd h (by omega), Below.refl _ _⟩
    case round =>
      obtain ⟨k, hk, rfl, heq, hbl⟩ := hrel
      have HEQ := Lib.hid heq
      have HBL := Lib.hid hbl
      by_cases hlt : k < n
      · obtain ⟨b1, o1, rfl, _, hc1⟩ := (HA.out.below hbl).at_ (by omega)
        obtain ⟨b2, o2, rfl, _, hc2⟩ := (HB.out.below hbl).at_ (by omega)
        have hk1 := hc1 k hlt
        have hk2 := hc2 k hlt
        obtain ⟨x, hx⟩ : ∃ x, xs.getD k 0 = x := ⟨_, rfl⟩
        obtain ⟨y, hy⟩ : ∃ y, ys.getD k 0 = y := ⟨_, rfl⟩
        rw [hx] at hk1
        rw [hy] at hk2
        have i0 : (0 : Int) ≤ (k : Int) := by omega
        have i1 : (k : Int) < (n : Int) := by omega
        clear heq hbl hc1 hc2
        by_cases hxy : x = y
        · subst hxy
          have HK : ∀ j, j < k + 1 → xs.getD j 0 = ys.getD j 0 := fun j hj => by
            by_cases h : j = k
            · rw [h, hx, hy]
            · exact HEQ.out j (by omega)
          have HKK := Lib.hid HK
          have t1 : (x != x) = false := by simp
          clear hx hy HEQ HK
          go_wp2
          go_quiet (fail)
          go_wp2
          go_roundw
          case rel => exact ⟨k + 1, by omega, by go_num, HKK.out, HBL.out.trans (below_drewN (Below.refl _ _) _)⟩
          case measure => simp [intOf]; omega
        · have hne : ¬ xs = ys := fun h => hxy (by rw [← hx, ← hy, h])
          have t1 : (x != y) = true := by simp [bne, hxy]
          have HNE := Lib.hid hne
          clear hx hy HEQ hne
          go_wp2
          go_quiet (fail)
          go_wp2
          go_ret
          exact ⟨ret_bool (decide_eq_false HNE.out).symm, below_drewN HBL.out _⟩
      · have hxy : xs = ys := ext_getD (by omega) fun j hj => heq j (by omega)
        obtain rfl : k = n := by omega
        have HXY := Lib.hid hxy
        clear heq hbl hxy
        go_wp2
        go_ret
        exact ⟨ret_bool (decide_eq_true HXY.out).symm, HBL.out⟩
  · have t0 : ((n : Int) != (m : Int)) = true := by simp [bne]; omega
    have hne : ¬ xs = ys := fun h => hl (by rw [← hla, ← hlb, h])
    have HNE := Lib.hid hne
    clear hne
    go_enter Try.func12, Try.ntmps12
    go_wp2
    go_ret
    exact ⟨ret_bool (decide_eq_false HNE.out).symm, Below.refl _ _⟩
end Go.Proofs.Ytkgajcifanobnaa

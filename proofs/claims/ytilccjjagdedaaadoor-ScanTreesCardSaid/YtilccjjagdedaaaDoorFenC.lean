/-
  The lowest bit of a number by bits.TrailingZeros, the highest by bits.Len; the sum of the first stakes of a tree.
  Conditions: the tree is that of a list of stakes; the library's table of trailing zeros is as the program's text lays it.
-/
import Derived.Test.YtilccjjagdedaaaDoorFenL
import Derived.Test.YtilccjjagdedaaaDoorFenK
set_option maxRecDepth 100000
set_option linter.unusedVariables false
set_option linter.unusedSimpArgs false
namespace Go.Proofs.YtilccjjagdedaaaDoor
open Go.ChangeShapes Go.WideShapes Go.ChangeAt Go.RowKit
theorem q11low_c (n : Nat) (h0 : n ≠ 0) (hn : n < 9223372036854775808) (w : World) (hT : TzT w) : Calls Tryd.prog 14 #[.int .i64 (n : Int)] w fun e w' => e = .returned (.int .i64 ((lowN n : Nat) : Int)) ∧ w = w' := by
  obtain ⟨h1, h2⟩ := ctz_low n h0 (by omega)
  have hle := lowN_le n
  have HTZ := Lib.hid (tz_c n h0 (by omega) w hT)
  obtain ⟨L, hL⟩ : ∃ x : Nat, lowN n = x := ⟨_, rfl⟩
  rw [hL] at h1 hle ⊢
  obtain ⟨N, hN⟩ : ∃ x : Int, (n : Int) = x := ⟨_, rfl⟩
  rw [hN] at HTZ ⊢
  obtain ⟨k, hk⟩ : ∃ x : Nat, Lib.ctz 64 n = x := ⟨_, rfl⟩
  rw [hk] at HTZ h1 h2
  have hw : Go.IntKind.u64.wrap N = N := by rw [Go.IntKind.wrap_u64]; omega
  have hs : wrap64 ((2 : Int) ^ k) = ((L : Nat) : Int) := by
    have e : ((2 : Int) ^ k) = ((2 ^ k : Nat) : Int) := by simp
    rw [e, h1]
    simp only [wrap64]
    omega
  have k0 : (0 : Int) ≤ (k : Int) := by omega
  have k1 : (k : Int) < 64 := by omega
  clear hL h0 hn hN hk hT h1 h2 hle
  go_enter Tryd.func14, Tryd.ntmps14
  go_wp2_with (first
    | (go_at_call 19; (with_reducible refine HTZ.out.mono ?_); rintro e _ ⟨rfl, rfl⟩))
  go_ret
  exact ⟨by first | rfl | (rw [hs]; rfl), rfl⟩
theorem q11high_zero (w : World) : Calls Tryd.prog 16 #[.int .i64 0] w fun e w' => e = .returned (.int .i64 0) ∧ w = w' := by
  have HTZ := Lib.hid (len_c 0 (by omega) w)
  rw [bitLen_zero] at HTZ
  simp only [show ((0 : Nat) : Int) = 0 from rfl] at HTZ
  go_enter Tryd.func16, Tryd.ntmps16
  go_wp2_with (first
    | (go_at_call 21; (with_reducible refine HTZ.out.mono ?_); rintro e _ ⟨rfl, rfl⟩))
  go_ret
  exact ⟨by first | rfl | (rw [hs]; rfl), rfl⟩
theorem q11high_c (n k : Nat) (h1 : 2 ^ k ≤ n) (h2 : n < 2 ^ (k + 1)) (hn : n ≤ 1048576) (w : World) : Calls Tryd.prog 16 #[.int .i64 (n : Int)] w fun e w' => e = .returned (.int .i64 ((2 ^ k : Nat) : Int)) ∧ w = w' := by
  have hp : 1 ≤ 2 ^ k := Nat.one_le_two_pow
  obtain ⟨k', e1, e2, e3⟩ := bitLen_is n (by omega) (by omega)
  obtain rfl : k = k' := by
    rcases Nat.lt_trichotomy k k' with h | h | h
    · have := Nat.pow_le_pow_right (n := 2) (by omega) (show k + 1 ≤ k' by omega)
      omega
    · exact h
    · have := Nat.pow_le_pow_right (n := 2) (by omega) (show k' + 1 ≤ k by omega)
      omega
  have HTZ := Lib.hid (len_c n (by omega) w)
  rw [e1] at HTZ
  have hk20 : k < 21 := by
    rcases Nat.lt_or_ge k 21 with h | h
    · exact h
    · have := Nat.pow_le_pow_right (n := 2) (by omega) h
      omega
  have hpk : 2 ^ (k + 1) = 2 * 2 ^ k := by rw [Nat.pow_succ, Nat.mul_comm]
  obtain ⟨P, hP⟩ : ∃ x : Nat, 2 ^ k = x := ⟨_, rfl⟩
  rw [hP] at h1 hp hpk e2 ⊢
  obtain ⟨K, hK⟩ : ∃ x : Nat, k + 1 = x := ⟨_, rfl⟩
  rw [hK] at HTZ hpk e3 h2
  obtain ⟨N, hN⟩ : ∃ x : Int, (n : Int) = x := ⟨_, rfl⟩
  rw [hN] at HTZ ⊢
  have hw : Go.IntKind.u64.wrap N = N := by rw [Go.IntKind.wrap_u64]; omega
  have hs : wrap64 ((2 : Int) ^ K) = 2 * ((P : Nat) : Int) := by
    have e : ((2 : Int) ^ K) = ((2 ^ K : Nat) : Int) := by simp
    rw [e, hpk]
    simp only [wrap64]
    omega
  have hd : (2 * (P : Int)) / 2 = (P : Int) := by omega
  have k0 : (0 : Int) ≤ (K : Int) := by omega
  have k1 : (K : Int) < 64 := by omega
  clear hN hn h1 h2 e1 e2 e3 hk20 hpk hp hP hK
  go_enter Tryd.func16, Tryd.ntmps16
  go_wp2_with (first
    | (go_at_call 21; (with_reducible refine HTZ.out.mono ?_); rintro e _ ⟨rfl, rfl⟩))
  go_ret
  exact ⟨by first | rfl | (rw [hs]; rfl), rfl⟩
set_option maxHeartbeats 4000000 in
theorem q11first_c (l : List Int) (hz : ∀ z ∈ l, 0 ≤ z) (hs : sumL l < 9223372036854775808) (A : Option Addr) (m c : Nat) (hm : l.length = m) (hl : m ≤ 1048576) (n : Nat) (hn : n ≤ m) (w : World) (hT : TzT w) (hrd : Rd .u64 w w.heap.size A m (treeL l)) : Calls Tryd.prog 20 #[.agg #[.slice A m c], .int .i64 (n : Int)] w fun e w' => e = .returned (.int .u64 (preL l n)) ∧ Below w.heap.size w w' := by
  have HR := Lib.hid hrd
  have HLOW := Lib.hid (fun j (h : j ≠ 0) (h2 : j ≤ n) => preL_low (l := l) (n := j) h (by omega))
  have HMO := Lib.hid (fun a b (h : a ≤ b) => preL_mono hz (l := l) h)
  have HNN := Lib.hid (fun a => preL_nn hz (l := l) a)
  have HLE := Lib.hid (fun a => Int.lt_of_le_of_lt (preL_le hz (l := l) a) hs)
  have HLC := Lib.hid (fun j (h : j ≠ 0) (h2 : j ≤ n) W hW => q11low_c j h (by omega) W hW)
  have hmI : (m : Int) ≤ 1048576 := by omega
  have HTT := Lib.hid hT
  clear hrd hz hs hm hT
  go_enter Tryd.func20, Tryd.ntmps20
  go_wp2_with (with_reducible refine at_any ?_; refine at_dst 2 rfl ?_; refine wpList_box_any rfl 26 (.tmp 0) rfl #[.slice A m c] rfl ?_; intro w1 hk1 hs1 hb1; have HK1 := Lib.hid hk1.out; have HB1 := Lib.hid hb1; clear hk1 hs1 hb1)
  obtain ⟨g2, hg2⟩ : ∃ g, w.heap.size = g := ⟨_, rfl⟩
  have HC : Hid (w1.cell? ⟨g2, 0, none⟩ = some (.slice A m c)) := Lib.hid (by rw [← hg2]; exact Blk.cell0 HK1.out)
  have HR1A := Lib.hid (HR1 HR.out HB1.out)
  have HT1 := Lib.hid (HTT.out.below HB1.out)
  rw [hg2]
  clear hg2 HK1 HR
  go_loopw [1, 5] (fun nn ss wr => ∃ j : Nat, j ≤ n ∧ nn = .int .i64 (j : Int) ∧ ss = .int .u64 (preL l n - preL l j) ∧ w1 = wr) (fun nn _ _ => (intOf nn).toNat)
  case atStart => exact ⟨n, Nat.le_refl _, rfl, by rw [Int.sub_self], by first | rfl | trivial⟩
  case round =>
    obtain ⟨j, hj, rfl, rfl, rfl⟩ := hrel
    by_cases hlt : 0 < j
    · obtain ⟨g, off, rfl, -, hc⟩ := HR1A.out.at_ (by omega)
      have hck := hc (j - 1) (by omega)
      have hpl := HLOW.out j (by omega) hj
      have hlow := lowN_le j
      have hlp := lowN_pos (n := j) (by omega)
      have hlc := HLC.out j (by omega) hj
      obtain ⟨q, hq⟩ : ∃ q, j - 1 = q := ⟨_, rfl⟩
      obtain ⟨lo, hlo⟩ : ∃ x, lowN j = x := ⟨_, rfl⟩
      rw [hq] at hck hpl
      rw [hlo] at hpl hlow hlp hlc
      obtain ⟨r, hr⟩ : ∃ r : Nat, j - lo = r := ⟨_, rfl⟩
      rw [hr] at hpl
      have h1 := HMO.out j n hj
      have h2 := HNN.out r
      have h3 := HLE.out n
      have h4 := HMO.out r j (by omega)
      obtain ⟨z, hzz⟩ : ∃ z, (treeL l).getD q 0 = z := ⟨_, rfl⟩
      obtain ⟨pn, hpn⟩ : ∃ z, preL l n = z := ⟨_, rfl⟩
      obtain ⟨pj, hpj⟩ : ∃ z, preL l j = z := ⟨_, rfl⟩
      obtain ⟨pr, hpr⟩ : ∃ z, preL l r = z := ⟨_, rfl⟩
      rw [hzz] at hck hpl
      rw [hpn] at h1 h3 ⊢
      rw [hpj] at hpl h1 h4 ⊢
      rw [hpr] at hpl h2 h4
      obtain ⟨s, hs⟩ : ∃ s, pn - pj = s := ⟨_, rfl⟩
      rw [hs]
      have HNP : Hid (s + z = pn - preL l r) := Lib.hid (by rw [hpr]; omega)
      have s0 : 0 ≤ s := by omega
      have z0 : 0 ≤ z := by omega
      have sz : s + z < 9223372036854775808 := by omega
      have hjI : (0 : Int) < (j : Int) := by omega
      have hqI : (j : Int) - 1 = (q : Int) := by omega
      have hqm : (q : Int) < (m : Int) := by omega
      have hq0 : (0 : Int) ≤ (q : Int) := by omega
      have hjm : (j : Int) ≤ 1048576 := by omega
      have hrI : (j : Int) - (lo : Int) = (r : Int) := by omega
      have hrm : (r : Int) ≤ 1048576 := by omega
      have hr0 : (0 : Int) ≤ (r : Int) := by omega
      have cz := HC.out
      have HLCJ := Lib.hid hlc
      have HPN := Lib.hid hpn
      have hrj : r < j := by omega
      clear hc hpl hlow hlp hlc hq hlo hr h1 h2 h3 h4 hzz hpn hpj hpr hs
      go_wp2_with (go_at_call 14; (with_reducible refine (HLCJ.out _ HT1.out).mono ?_); rintro e _ ⟨rfl, rfl⟩)
      go_roundw
      case rel => exact ⟨r, by omega, by go_num, by rw [HNP.out], by first | rfl | trivial⟩
      case measure => simp [intOf]; omega
    · obtain rfl : j = 0 := by omega
      rw [show preL l 0 = 0 from rfl, Int.sub_zero]
      rw [show ((0 : Nat) : Int) = 0 from rfl]
      go_wp2
      go_ret
      exact ⟨rfl, HB1.out⟩
theorem q11len_c (A : Option Addr) (n c : Nat) (w : World) : Calls Tryd.prog 17 #[.agg #[.slice A n c]] w fun e w' => e = .returned (.int .i64 (n : Int)) ∧ Below w.heap.size w w' := by
  go_enter Tryd.func17, Tryd.ntmps17
  go_wp2_with (first
    | (with_reducible refine at_any ?_; refine at_dst 1 rfl ?_; refine wpList_box_any rfl 26 (.tmp 0) rfl #[.slice A n c] rfl ?_; intro w1 hk1 hs1 hb1; have HK1 := Lib.hid hk1.out; have HB1 := Lib.hid hb1; have cz := Blk.cell0 HK1.out; clear hk1 hs1 hb1))
  go_ret
  exact ⟨rfl, HB1.out⟩
end Go.Proofs.YtilccjjagdedaaaDoor

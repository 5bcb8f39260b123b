/-
  What drawlotref11's low, sum and Owner return.
  Conditions: the number is above 0 and below 2^62; the stakes aren't below 0, their sum is below 2^63 (sum).
-/
import Derived.Test.YtdpjambejmlppaaDoorRefP
import Derived.Test.YtdpjambejmlppaaDoorFenP
set_option maxRecDepth 100000
set_option linter.unusedSimpArgs false
namespace Go.Proofs.YtdpjambejmlppaaDoor
open Go.ChangeShapes Go.WideShapes Go.ChangeAt Go.RowKit
set_option linter.unusedVariables false
theorem ret_i64 {a b : Nat} (h : a = b) : Ending.returned (.int .i64 (a : Int)) = .returned (.int .i64 (b : Int)) := by rw [h]
set_option maxHeartbeats 2000000 in
theorem r11low_c (n : Nat) (h0 : n ≠ 0) (hn : n < 4611686018427387904) (w : World) : Calls Tryd.prog 36 #[.int .i64 (n : Int)] w fun e w' => e = .returned (.int .i64 ((lowN n : Nat) : Int)) ∧ w = w' := by
  have HN := Lib.hid hn
  clear hn
  go_enter Tryd.func36, Tryd.ntmps36
  go_wp2
  go_loop [0, 3] (fun a b => ∃ m k : Nat, m ≠ 0 ∧ a = .int .i64 (m : Int) ∧ b = .int .i64 (k : Int) ∧ k * lowN m = lowN n ∧ k * m ≤ n) (fun a _ => (intOf a).toNat)
  case atStart => exact ⟨n, 1, h0, rfl, rfl, Nat.one_mul _, by omega⟩
  case round =>
    obtain ⟨m, k, hm, rfl, rfl, hk, hkm⟩ := hrel
    rcases Nat.mod_two_eq_zero_or_one m with h2 | h2
    · have hl := lowN_even hm h2
      obtain ⟨j, hj⟩ : ∃ j, m / 2 = j := ⟨_, rfl⟩
      have hmj : m = 2 * j := by omega
      rw [hj] at hl
      have HK : Hid (2 * k * lowN j = lowN n) := Lib.hid (by rw [← hk, hl, Nat.mul_comm 2 k, Nat.mul_assoc])
      have HM : Hid (2 * k * j ≤ n) := Lib.hid (by rw [Nat.mul_comm 2 k, Nat.mul_assoc, ← hmj]; exact hkm)
      have hk2 : 2 * k ≤ n := Nat.le_trans (by rw [Nat.mul_comm]; exact Nat.mul_le_mul_left k (show 2 ≤ m by omega)) hkm
      have HJ : Hid (j ≠ 0) := Lib.hid (by omega)
      have HLT : Hid (j < m) := Lib.hid (by omega)
      obtain ⟨mi, hmi⟩ : ∃ z : Int, (m : Int) = z := ⟨_, rfl⟩
      obtain ⟨ji, hji⟩ : ∃ z : Int, (j : Int) = z := ⟨_, rfl⟩
      obtain ⟨ki, hki⟩ : ∃ z : Int, (k : Int) = z := ⟨_, rfl⟩
      have h3 : mi % 2 = 0 := by omega
      have h4 : mi / 2 = ji := by omega
      have h5 : 0 ≤ mi := by omega
      have h6 : mi < 4611686018427387904 := by
        have := HN.out
        have h9 : m ≤ k * m := Nat.le_mul_of_pos_left m (by
          rcases Nat.eq_zero_or_pos k with h | h
          · subst h
            rw [Nat.zero_mul] at hk
            have := lowN_pos h0
            omega
          · exact h)
        omega
      have h7 : IntKind.i64.wrap (2 * ki) = 2 * ki := by have := HN.out; rw [IntKind.wrap_i64]; omega
      have HKI : Hid (2 * ki = ((2 * k : Nat) : Int)) := Lib.hid (by omega)
      have HJI := Lib.hid hji
      have HMI := Lib.hid hmi
      rw [hmi, hki]
      have h8 : IntKind.i64.wrap ji = ji := by rw [IntKind.wrap_i64]; omega
      have h9 : mi.tdiv 2 = ji := by rw [Int.tdiv_eq_ediv_of_nonneg h5]; exact h4
      have h10 : mi.tmod 2 = 0 := by rw [Int.tmod_eq_emod_of_nonneg h5]; exact h3
      clear hl hj hmj hk hkm hk2 hmi hji hki h2 hm
      go_wp2
      go_round
      case rel => exact ⟨j, 2 * k, HJ.out, by rw [HJI.out], by rw [HKI.out], HK.out, HM.out⟩
      case measure => rw [← HJI.out, ← HMI.out]; have := HLT.out; simp only [intOf]; omega
    · have hl := lowN_odd h2
      rw [hl, Nat.mul_one] at hk
      have HK := Lib.hid hk
      have h3 : (m : Int) % 2 = 1 := by omega
      obtain ⟨mi, hmi⟩ : ∃ z : Int, (m : Int) = z := ⟨_, rfl⟩
      rw [hmi] at h3 ⊢
      have h5 : 0 ≤ mi := by omega
      have h10 : mi.tmod 2 = 1 := by rw [Int.tmod_eq_emod_of_nonneg h5]; exact h3
      clear hl hk h2 hm hkm hmi
      go_wp2
      go_ret
      first
        | exact ⟨rfl, rfl⟩
        | exact ⟨ret_i64 HK.out, rfl⟩
set_option maxHeartbeats 2000000 in
theorem r11sum_c (l : List Int) (hz : ∀ z ∈ l, 0 ≤ z) (hs : sumL l < 9223372036854775808) (A : Option Addr) (n c : Nat) (hn : n ≤ maxLen) (a b : Nat) (hab : a ≤ b) (hbn : b ≤ n) (w : World) (hrd : Rd .u64 w w.heap.size A n l) : Calls Tryd.prog 35 #[.slice A n c, .int .i64 (a : Int), .int .i64 (b : Int)] w fun e w' => e = .returned (.int .u64 (preL l b - preL l a)) ∧ w = w' := by
  have HR := Lib.hid hrd
  have hlen := hrd.len
  have hnm : (n : Int) ≤ 9223372036854775807 := by unfold maxLen at hn; omega
  have HNX := Lib.hid (fun k (h : k < n) => preL_next (l := l) (n := k) (by omega))
  have HMO := Lib.hid (fun (x y : Nat) (h : x ≤ y) => preL_mono hz h)
  have HLE := Lib.hid (fun k => preL_le hz k)
  have HNN := Lib.hid (fun k => preL_nn hz k)
  have HZ := Lib.hid hz
  have HS := Lib.hid hs
  clear hrd hz hn hs
  go_enter Tryd.func35, Tryd.ntmps35
  go_wp2
  go_loopw [7, 8] (fun s i wr => ∃ k : Nat, a ≤ k ∧ k ≤ b ∧ i = .int .i64 (k : Int) ∧ s = .int .u64 (preL l k - preL l a) ∧ wr = w) (fun _ i _ => b - (intOf i).toNat)
  case atStart => exact ⟨a, Nat.le_refl _, hab, rfl, by rw [Int.sub_self], by first | rfl | trivial⟩
  case round =>
    obtain ⟨k, hak, hkb, rfl, rfl, rfl⟩ := hrel
    by_cases hlt : k < b
    · obtain ⟨g, off, rfl, _, hc⟩ := HR.out.at_ (by omega)
      have hck := hc k (by omega)
      have hnx := HNX.out k (by omega)
      have h1 := HMO.out _ _ hak
      have h2 := HLE.out (k + 1)
      have h3 := HNN.out a
      have h4 := HS.out
      obtain ⟨z, hzz⟩ : ∃ z, l.getD k 0 = z := ⟨_, rfl⟩
      obtain ⟨p, hp⟩ : ∃ z, preL l k = z := ⟨_, rfl⟩
      obtain ⟨q, hq⟩ : ∃ z, preL l a = z := ⟨_, rfl⟩
      have hz0 := HZ.out _ (getD_in (l := l) (k := k) (by omega))
      rw [hzz] at hck hnx hz0
      rw [hp, hq] at h1
      rw [hp] at hnx
      rw [hq] at h3
      rw [hp, hq]
      have HNP : Hid (preL l (k + 1) - q = p - q + z) := Lib.hid (by rw [hnx]; omega)
      obtain ⟨s, hs⟩ : ∃ s, p - q = s := ⟨_, rfl⟩
      rw [hs] at HNP ⊢
      have h5 : 0 ≤ s := by omega
      have h6 : s + z < 18446744073709551616 := by omega
      have hk3 : (k : Int) < (b : Int) := by omega
      have hk4 : (k : Int) < (n : Int) := by omega
      clear hc hnx h1 h2 h3 h4 hzz hp hq hs
      go_wp2
      go_roundw
      case rel => exact ⟨k + 1, by omega, by omega, by go_num, by rw [HNP.out], by first | rfl | trivial⟩
      case measure => simp [intOf]; omega
    · obtain rfl : k = b := by omega
      go_wp2
      go_ret
      exact ⟨rfl, by first | rfl | trivial⟩
/-- The place whose stake holds the ticket, from a place on. -/
def ownF : List Int → Int → Nat → Option Nat
  | [], _, _ => none
  | x :: l, t, i => if t < x then some i else ownF l (t - x) (i + 1)
def ownV (l : List Int) (t : Int) : Int := match ownF l t 0 with
  | some i => (i : Int)
  | none => 0
def ownE (l : List Int) (t : Int) : Int := match ownF l t 0 with
  | some _ => 0
  | none => 3
theorem ownF_step {l : List Int} {k : Nat} (h : k < l.length) (t : Int) : ownF (l.drop k) t k = if t < l.getD k 0 then some k else ownF (l.drop (k + 1)) (t - l.getD k 0) (k + 1) := by
  rw [List.drop_eq_getElem_cons h, ownF, List.getD_eq_getElem?_getD, List.getElem?_eq_getElem h]
  rfl
theorem ret_two64 {a b c d : Int} (h : a = b) (h2 : c = d) : Ending.returned (.tuple #[.int .i64 a, .int .i64 c]) = .returned (.tuple #[.int .i64 b, .int .i64 d]) := by rw [h, h2]
set_option maxHeartbeats 2000000 in
theorem r11owner_c (l : List Int) (hz : ∀ z ∈ l, 0 ≤ z ∧ z < 18446744073709551616) (A : Option Addr) (n c : Nat) (hn : n ≤ maxLen) (t : Int) (t0 : 0 ≤ t) (t1 : t < 18446744073709551616) (w : World) (hrd : Rd .u64 w w.heap.size A n l) : Calls Tryd.prog 20 #[.slice A n c, .int .u64 t] w fun e w' => e = .returned (.tuple #[.int .i64 (ownV l t), .int .i64 (ownE l t)]) ∧ w = w' := by
  have HR := Lib.hid hrd
  have hlen := hrd.len
  have hnm : (n : Int) ≤ 9223372036854775807 := by unfold maxLen at hn; omega
  have HST := Lib.hid (fun k (h : k < n) t => ownF_step (l := l) (k := k) (by omega) t)
  have HZ := Lib.hid (fun k (h : k < n) => hz _ (getD_in (l := l) (k := k) (by omega)))
  have HE : Hid (∀ t, ownF (l.drop n) t n = none) := Lib.hid (fun t => by rw [List.drop_eq_nil_of_le (by omega)]; rfl)
  clear hrd hz hn
  go_enter Tryd.func20, Tryd.ntmps20
  go_wp2
  go_loopw [1, 6] (fun tt i wr => ∃ (k : Nat) (u : Int), k ≤ n ∧ i = .int .i64 (k : Int) ∧ tt = .int .u64 u ∧ 0 ≤ u ∧ u < 18446744073709551616 ∧ ownF (l.drop k) u k = ownF l t 0 ∧ wr = w) (fun _ i _ => n - (intOf i).toNat)
  case atStart => exact ⟨0, t, by omega, rfl, rfl, t0, t1, by rw [List.drop_zero], by first | rfl | trivial⟩
  case round =>
    obtain ⟨k, u, hk, rfl, rfl, u0, u1, hown, rfl⟩ := hrel
    by_cases hlt : k < n
    · obtain ⟨g, off, rfl, _, hc⟩ := HR.out.at_ (by omega)
      have hck := hc k hlt
      have hst := HST.out k hlt u
      have hzk := HZ.out k hlt
      obtain ⟨z, hzz⟩ : ∃ z, l.getD k 0 = z := ⟨_, rfl⟩
      rw [hzz] at hck hst hzk
      rw [hown] at hst
      obtain ⟨z0, z1⟩ := hzk
      have hk3 : (k : Int) < (n : Int) := by omega
      by_cases hu : u < z
      · rw [if_pos hu] at hst
        have HV : Hid (ownV l t = (k : Int) ∧ ownE l t = 0) := Lib.hid (by unfold ownV ownE; rw [hst]; exact ⟨rfl, rfl⟩)
        clear hc hst hzz hown
        go_wp2
        go_ret2
        exact ⟨ret_two64 HV.out.1.symm HV.out.2.symm, by first | rfl | trivial⟩
      · rw [if_neg hu] at hst
        have HO := Lib.hid hst.symm
        clear hc hst hzz hown
        go_wp2
        go_roundw
        case rel => exact ⟨k + 1, u - z, by omega, by go_num, rfl, by omega, by omega, HO.out, by first | rfl | trivial⟩
        case measure => simp [intOf]; omega
    · obtain rfl : k = n := by omega
      rw [HE.out] at hown
      have HV : Hid (ownV l t = 0 ∧ ownE l t = 3) := Lib.hid (by unfold ownV ownE; rw [← hown]; exact ⟨rfl, rfl⟩)
      clear hown
      go_wp2
      go_ret2
      exact ⟨ret_two64 HV.out.1.symm HV.out.2.symm, by first | rfl | trivial⟩
end Go.Proofs.YtdpjambejmlppaaDoor

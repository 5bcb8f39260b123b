/-
  What drawlotref11's low, sum and Owner return.
  Conditions: the number is above 0 and below 2^62; the stakes aren't below 0, their sum is below 2^63 (sum).
-/
import Derived.Test.YtilccjjagdedaaaRefP
import Derived.Test.YtilccjjagdedaaaFenP
set_option maxRecDepth 100000
set_option linter.unusedSimpArgs false
namespace Go.Proofs.Ytilccjjagdedaaa
open Go.ChangeShapes Go.WideShapes Go.ChangeAt Go.RowKit
set_option linter.unusedVariables false
theorem ret_i64 {a b : Nat} (h : a = b) : Ending.returned (.int .i64 (a : Int)) = .returned (.int .i64 (b : Int)) := by rw [h]
/-- The place whose stake holds the ticket, from a place on. -/
def ownF : List Int → Int → Nat → Option Nat
  | [], _, _ => none
  | x :: l, t, i => if t < x then some i else ownF l (t - x) (i + 1)
def ownV (l : List Int) (t : Int) : Int := match ownF l t 0 with
  | some i => (i : Int)
  | none => 0
def ownE (l : List Int) (t : Int) : Int := match ownF l t 0 with
  | some _ => 0
  | none => 3
theorem ownF_step {l : List Int} {k : Nat} (h : k < l.length) (t : Int) : ownF (l.drop k) t k = if t < l.getD k 0 then some k else ownF (l.drop (k + 1)) (t - l.getD k 0) (k + 1) := by
  rw [List.drop_eq_getElem_cons h, ownF, List.getD_eq_getElem?_getD, List.getElem?_eq_getElem h]
  rfl
theorem ret_two64 {a b c d : Int} (h : a = b) (h2 : c = d) : Ending.returned (.tuple #[.int .i64 a, .int .i64 c]) = .returned (.tuple #[.int .i64 b, .int .i64 d]) := by rw [h, h2]
set_option maxHeartbeats 2000000 in
theorem r11owner_c (l : List Int) (hz : ∀ z ∈ l, 0 ≤ z ∧ z < 18446744073709551616) (A : Option Addr) (n c : Nat) (hn : n ≤ maxLen) (t : Int) (t0 : 0 ≤ t) (t1 : t < 18446744073709551616) (w : World) (hrd : Rd .u64 w w.heap.size A n l) : Calls Try.prog 15 #[.slice A n c, .int .u64 t] w fun e w' => e = .returned (.tuple #[.int .i64 (ownV l t), .int .i64 (ownE l t)]) ∧ w = w' := by
  have HR := Lib.hid hrd
  have hlen := hrd.len
  have hnm : (n : Int) ≤ 9223372036854775807 := by unfold maxLen at hn; omega
  have HST := Lib.hid (fun k (h : k < n) t => ownF_step (l := l) (k := k) (by omega) t)
  have HZ := Lib.hid (fun k (h : k < n) => hz _ (getD_in (l := l) (k := k) (by omega)))
  have HE : Hid (∀ t, ownF (l.drop n) t n = none) := Lib.hid (fun t => by rw [List.drop_eq_nil_of_le (by omega)]; rfl)
  clear hrd hz hn
  go_enter Try.func15, Try.ntmps15
  go_wp2
  go_loopw [1, 6] (fun tt i wr => ∃ (k : Nat) (u : Int), k ≤ n ∧ i = .int .i64 (k : Int) ∧ tt = .int .u64 u ∧ 0 ≤ u ∧ u < 18446744073709551616 ∧ ownF (l.drop k) u k = ownF l t 0 ∧ wr = w) (fun _ i _ => n - (intOf i).toNat)
  case atStart => exact ⟨0, t, by omega, rfl, rfl, t0, t1, by rw [List.drop_zero], by first | rfl | trivial⟩
  case round =>
    obtain ⟨k, u, hk, rfl, rfl, u0, u1, hown, rfl⟩ := hrel
    by_cases hlt : k < n
    · obtain ⟨g, off, rfl, _, hc⟩ := HR.out.at_ (by omega)
      have hck := hc k hlt
      have hst := HST.out k hlt u
      have hzk := HZ.out k hlt
      obtain ⟨z, hzz⟩ : ∃ z, l.getD k 0 = z := ⟨_, rfl⟩
      rw [hzz] at hck hst hzk
      rw [hown] at hst
      obtain ⟨z0, z1⟩ := hzk
      have hk3 : (k : Int) < (n : Int) := by omega
      by_cases hu : u < z
      · rw [if_pos hu] at hst
        have HV : Hid (ownV l t = (k : Int) ∧ ownE l t = 0) := Lib.hid (by unfold ownV ownE; rw [hst]; exact ⟨rfl, rfl⟩)
        clear hc hst hzz hown
        go_wp2
        go_ret2
        exact ⟨ret_two64 HV.out.1.symm HV.out.2.symm, by first | rfl | trivial⟩
      · rw [if_neg hu] at hst
        have HO := Lib.hid hst.symm
        clear hc hst hzz hown
        go_wp2
        go_roundw
        case rel => exact ⟨k + 1, u - z, by omega, by go_num, rfl, by omega, by omega, HO.out, by first | rfl | trivial⟩
        case measure => simp [intOf]; omega
    · obtain rfl : k = n := by omega
      rw [HE.out] at hown
      have HV : Hid (ownV l t = 0 ∧ ownE l t = 3) := Lib.hid (by unfold ownV ownE; rw [← hown]; exact ⟨rfl, rfl⟩)
      clear hown
      go_wp2
      go_ret2
      exact ⟨ret_two64 HV.out.1.symm HV.out.2.symm, by first | rfl | trivial⟩
end Go.Proofs.Ytilccjjagdedaaa

/-
  What drawlotref09 returns: sums, differences and products below 2^63, or refused; whether two lists are the same.
  Conditions: the numbers lie in their type's range; the slices read as lists.
-/
import Derived.Test.YtilccjjagdedaaaDoorRows
import Derived.Test.YtilccjjagdedaaaDoorSafP
set_option maxRecDepth 100000
set_option linter.unusedSimpArgs false
namespace Go.Proofs.YtilccjjagdedaaaDoor
open Go.ChangeShapes Go.WideShapes Go.ChangeAt Go.RowKit
set_option linter.unusedVariables false
-- arith
-- arith end
set_option maxHeartbeats 2000000 in
theorem r9same_c (xs ys : List Int) (A B : Option Addr) (n m c d : Nat) (hn : n ≤ maxLen) (hm : m ≤ maxLen) (w : World) (hra : Rd .u64 w w.heap.size A n xs) (hrb : Rd .u64 w w.heap.size B m ys) : Calls Tryd.prog 11 #[.slice A n c, .slice B m d] w fun e w' => e = .returned (.bool (decide (xs = ys))) ∧ Below w.heap.size w w' := by
  have HA := Lib.hid hra
  have HB := Lib.hid hrb
  have hla := hra.len
  have hlb := hrb.len
  have hnm : (n : Int) ≤ 9223372036854775807 := by unfold maxLen at hn; omega
  clear hra hrb hn hm
  by_cases hl : n = m
  · subst hl
    have t0 : ((n : Int) != (n : Int)) = false := by simp
    go_enter Tryd.func11, Tryd.ntmps11
    go_wp2
    go_loopw [5] (fun i wr => ∃ k : Nat, k ≤ n ∧ i = .int .i64 (k : Int) ∧ (∀ j, j < k → xs.getD j 0 = ys.getD j 0) ∧ Below w.heap.size w wr) (fun i _ => n - (intOf i).toNat)
    case atStart => exact ⟨0, by omega, rfl, fun j h => absurd h (by omega), Below.refl _ _⟩
    case round =>
      obtain ⟨k, hk, rfl, heq, hbl⟩ := hrel
      have HEQ := Lib.hid heq
      have HBL := Lib.hid hbl
      by_cases hlt : k < n
      · obtain ⟨b1, o1, rfl, _, hc1⟩ := (HA.out.below hbl).at_ (by omega)
        obtain ⟨b2, o2, rfl, _, hc2⟩ := (HB.out.below hbl).at_ (by omega)
        have hk1 := hc1 k hlt
        have hk2 := hc2 k hlt
        obtain ⟨x, hx⟩ : ∃ x, xs.getD k 0 = x := ⟨_, rfl⟩
        obtain ⟨y, hy⟩ : ∃ y, ys.getD k 0 = y := ⟨_, rfl⟩
        rw [hx] at hk1
        rw [hy] at hk2
        have i0 : (0 : Int) ≤ (k : Int) := by omega
        have i1 : (k : Int) < (n : Int) := by omega
        clear heq hbl hc1 hc2
        by_cases hxy : x = y
        · subst hxy
          have HK : ∀ j, j < k + 1 → xs.getD j 0 = ys.getD j 0 := fun j hj => by
            by_cases h : j = k
            · rw [h, hx, hy]
            · exact HEQ.out j (by omega)
          have HKK := Lib.hid HK
          have t1 : (x != x) = false := by simp
          clear hx hy HEQ HK
          go_wp2
          go_quiet (fail)
          go_wp2
          go_roundw
          case rel => exact ⟨k + 1, by omega, by go_num, HKK.out, HBL.out.trans (below_drewN (Below.refl _ _) _)⟩
          case measure => simp [intOf]; omega
        · have hne : ¬ xs = ys := fun h => hxy (by rw [← hx, ← hy, h])
          have t1 : (x != y) = true := by simp [bne, hxy]
          have HNE := Lib.hid hne
          clear hx hy HEQ hne
          go_wp2
          go_quiet (fail)
          go_wp2
          go_ret
          exact ⟨ret_bool (decide_eq_false HNE.out).symm, below_drewN HBL.out _⟩
      · have hxy : xs = ys := ext_getD (by omega) fun j hj => heq j (by omega)
        obtain rfl : k = n := by omega
        have HXY := Lib.hid hxy
        clear heq hbl hxy
        go_wp2
        go_ret
        exact ⟨ret_bool (decide_eq_true HXY.out).symm, HBL.out⟩
  · have t0 : ((n : Int) != (m : Int)) = true := by simp [bne]; omega
    have hne : ¬ xs = ys := fun h => hl (by rw [← hla, ← hlb, h])
    have HNE := Lib.hid hne
    clear hne
    go_enter Tryd.func11, Tryd.ntmps11
    go_wp2
    go_ret
    exact ⟨ret_bool (decide_eq_false HNE.out).symm, Below.refl _ _⟩
end Go.Proofs.YtilccjjagdedaaaDoor

/-
  What drawlotref14 returns: whether two tables are the same.
  Conditions: the numbers lie in their types' ranges; the cells read as pairs.
-/
import Derived.Test.YtkgajcifanobnaaRefP
import Derived.Test.YtkgajcifanobnaaTabM
import Derived.BigQuiet
import Derived.Laws.StructEq
set_option maxRecDepth 100000
set_option linter.unusedVariables false
set_option linter.unusedSimpArgs false
namespace Go.Proofs.Ytkgajcifanobnaa
open Go.ChangeShapes Go.WideShapes Go.ChangeAt Go.RowKit
theorem eq_cell (a b c d : Int) (W : World) : (Op.equalIn 10000 44 (.agg #[.int .u64 a, .int .i64 b]) (.agg #[.int .u64 c, .int .i64 d])).run Try.prog W = .ok (decide (a = c ∧ b = d)) W := by
  by_cases h : a = c
  · by_cases h2 : b = d
    · subst h h2
      go_simp
    · subst h
      have h3 : (b == d) = false := by rw [beq_eq_false_iff_ne]; exact h2
      go_simp
  · have h3 : (a == c) = false := by rw [beq_eq_false_iff_ne]; exact h
    go_simp
theorem size_cell : (Try.prog.info? 44).map (·.size) = some 2 := by kernel_rfl
theorem range_cell {w : World} {b off : Nat} {u v : Value} (h : w.cell? ⟨b, off, none⟩ = some u) (h2 : w.cell? ⟨b, off + 1, none⟩ = some v) : w.rangeAt b off [u, v] := by
  intro j z hz
  match j, hz with
  | 0, hz => injection hz with hz; subst hz; exact h
  | 1, hz => injection hz with hz; subst hz; exact h2
  | j + 2, hz => simp at hz
theorem ext_cell {xs ys : List (Int × Int)} (h : xs.length = ys.length) (h2 : ∀ j, j < xs.length → cellL xs j = cellL ys j) : xs = ys := by
  apply List.ext_getElem h
  intro j h3 h4
  have h5 := h2 j h3
  simpa [cellL, List.getD_eq_getElem?_getD, List.getElem?_eq_getElem h3, List.getElem?_eq_getElem h4] using h5
set_option maxHeartbeats 2000000 in
theorem r14same_c (T U : Int) (T0 : 0 ≤ T) (U0 : 0 ≤ U) (T1 : T < 18446744073709551616) (U1 : U < 18446744073709551616) (xs ys : List (Int × Int)) (A B : Option Addr) (n m c d : Nat) (hn : n ≤ maxLen) (hm : m ≤ maxLen) (w : World) (hra : RdPr .u64 .i64 w w.heap.size A n xs) (hrb : RdPr .u64 .i64 w w.heap.size B m ys) :
    Calls Try.prog 11 #[.agg #[.int .u64 T, .slice A n c], .agg #[.int .u64 U, .slice B m d]] w fun e w' => e = .returned (.bool (sameT T U xs ys)) ∧ Below w.heap.size w w' := by
  have HA := Lib.hid hra
  have HB := Lib.hid hrb
  have hla := hra.len
  have hlb := hrb.len
  have hnm : (n : Int) ≤ 9223372036854775807 := by unfold maxLen at hn; omega
  have hmm : (m : Int) ≤ 9223372036854775807 := by unfold maxLen at hm; omega
  have HS := Lib.hid (TbS.new w T A n c)
  have HS2 := Lib.hid (HS.out.two (U := U) (B := B) (m := m) (d := d))
  have HSA := Lib.hid (HS.out.alloc (.cells #[.int .u64 U, .slice B m d] 27))
  clear hra hrb hn hm
  by_cases hT : T = U
  · subst hT
    by_cases hl : n = m
    · subst hl
      have t0 : ((n : Int) != (n : Int)) = false := by simp
      have t1 : (T != T) = false := by simp
      go_enter Try.func11, Try.ntmps11
      go_wp2
      obtain ⟨g2, hg2⟩ : ∃ g, w.heap.size = g := ⟨_, rfl⟩
      have hg3 : (w.alloc (.cells #[.int .u64 T, .slice A n c] 27)).heap.size = g2 + 1 := by rw [← hg2]; exact Array.size_push _
      have HG2 := Lib.hid hg2
      rw [hg2] at HSA
      rw [hg3] at HS2
      rw [hg2]
      go_loopw [5] (fun i wr => ∃ k : Nat, k ≤ n ∧ i = .int .i64 (k : Int) ∧ (∀ j, j < k → cellL xs j = cellL ys j) ∧ TbS w g2 T A n c wr ∧ TbS w (g2 + 1) T B n d wr) (fun i _ => n - (intOf i).toNat)
      case atStart => exact ⟨0, by omega, rfl, fun j h => absurd h (by omega), HSA.out, HS2.out⟩
      case round =>
        obtain ⟨k, hk, rfl, heq, hS1, hS2⟩ := hrel
        have HEQ := Lib.hid heq
        have HW1 := Lib.hid hS1
        have HW2 := Lib.hid hS2
        have p0 := hS1.c0
        have p1 := hS1.c1
        have p2 := hS2.c0
        have p3 := hS2.c1
        by_cases hlt : k < n
        · obtain ⟨b1, o1, rfl, _, hc1⟩ := (HW1.out.pr HA.out).cells (by omega)
          obtain ⟨b2, o2, rfl, _, hc2⟩ := (HW2.out.pr HB.out).cells (by omega)
          have e1 := (hc1 k hlt).1
          have e2 := (hc1 k hlt).2
          have e3 := (hc2 k hlt).1
          have e4 := (hc2 k hlt).2
          obtain ⟨⟨x1, x2⟩, hx⟩ : ∃ x, cellL xs k = x := ⟨_, rfl⟩
          obtain ⟨⟨y1, y2⟩, hy⟩ : ∃ y, cellL ys k = y := ⟨_, rfl⟩
          rw [hx] at e1 e2
          rw [hy] at e3 e4
          dsimp only at e1 e2 e3 e4
          have r1 := range_cell e1 e2
          have r2 := range_cell e3 e4
          have hu := Try.underlying44
          have i0 : (0 : Int) ≤ (k : Int) := by omega
          have i1 : (k : Int) < (n : Int) := by omega
          clear heq hc1 hc2 hS1 hS2
          by_cases hxy : x1 = y1 ∧ x2 = y2
          · obtain ⟨rfl, rfl⟩ := hxy
            have HKK : Hid (∀ j, j < k + 1 → cellL xs j = cellL ys j) := Lib.hid (fun j hj => by
              by_cases h : j = k
              · rw [h, hx, hy]
              · exact HEQ.out j (by omega))
            clear hx hy HEQ
            have HEE : ∀ W, (Op.equalIn 10000 44 (.agg #[.int .u64 x1, .int .i64 x2]) (.agg #[.int .u64 x1, .int .i64 x2])).run Try.prog W = .ok true W := fun W => by rw [eq_cell, decide_eq_true ⟨rfl, rfl⟩]
            go_wp2
            refine wp_region_quiet_lit (by kernel_rfl) (by kernel_rfl) ?_
            repeat (first
              | (with_reducible refine wpQuiet_load_mid rfl 44 (.tmp 30) rfl b1 (o1 + k * 2) rfl _ _ r1 hu rfl size_cell ?_)
              | (with_reducible refine wpQuiet_load_mid rfl 44 (.tmp 35) rfl b2 (o2 + k * 2) rfl _ _ r2 hu rfl size_cell ?_)
              | quiet_step (fail))
            refine wpQuiet_nil ?_
            intro _ hw'
            obtain ⟨nq, hw''⟩ := hw'
            subst hw''
            go_wp2
            go_roundw
            case rel => exact ⟨k + 1, by omega, by go_num, HKK.out, HW1.out.drewN _, HW2.out.drewN _⟩
            case measure => simp [intOf]; omega
          · have HNE : Hid (sameT T T xs ys = false) := Lib.hid (decide_eq_false (fun h => hxy (by
              have := h.2
              subst this
              rw [hx] at hy
              injection hy with h1 h2
              exact ⟨h1, h2⟩)))
            have HXY := Lib.hid hxy
            clear hx hy HEQ hxy
            have HEE : ∀ W, (Op.equalIn 10000 44 (.agg #[.int .u64 x1, .int .i64 x2]) (.agg #[.int .u64 y1, .int .i64 y2])).run Try.prog W = .ok false W := fun W => by rw [eq_cell, decide_eq_false HXY.out]
            go_wp2
            refine wp_region_quiet_lit (by kernel_rfl) (by kernel_rfl) ?_
            repeat (first
              | (with_reducible refine wpQuiet_load_mid rfl 44 (.tmp 30) rfl b1 (o1 + k * 2) rfl _ _ r1 hu rfl size_cell ?_)
              | (with_reducible refine wpQuiet_load_mid rfl 44 (.tmp 35) rfl b2 (o2 + k * 2) rfl _ _ r2 hu rfl size_cell ?_)
              | quiet_step (fail))
            refine wpQuiet_nil ?_
            intro _ hw'
            obtain ⟨nq, hw''⟩ := hw'
            subst hw''
            go_wp2
            go_ret
            exact ⟨ret_bool HNE.out.symm, (HW1.out.drewN _).bel⟩
        · obtain rfl : k = n := by omega
          have HXY : Hid (sameT T T xs ys = true) := Lib.hid (decide_eq_true ⟨rfl, ext_cell (by omega) fun j hj => heq j (by omega)⟩)
          clear heq
          go_wp2
          go_ret
          exact ⟨ret_bool HXY.out.symm, (by first | exact HW1.out.bel | (rw [← hg2]; exact HW1.out.bel))⟩
    · have t0 : ((n : Int) != (m : Int)) = true := by simp [bne]; omega
      have t1 : (T != T) = false := by simp
      have HNE : Hid (sameT T T xs ys = false) := Lib.hid (decide_eq_false (fun h => hl (by rw [← hla, ← hlb, h.2])))
      go_enter Try.func11, Try.ntmps11
      go_wp2
      go_ret
      exact ⟨ret_bool HNE.out.symm, HSA.out.bel⟩
  · have t0 : (T != U) = true := by simp [bne, hT]
    have HNE : Hid (sameT T U xs ys = false) := Lib.hid (decide_eq_false (fun h => hT h.1))
    go_enter Try.func11, Try.ntmps11
    go_wp2
    go_ret
    exact ⟨ret_bool HNE.out.symm, HSA.out.bel⟩
end Go.Proofs.Ytkgajcifanobnaa

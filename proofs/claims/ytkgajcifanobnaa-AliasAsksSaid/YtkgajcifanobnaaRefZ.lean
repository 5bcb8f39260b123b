/-
  What drawlotref14 returns of a table: whether it may be.
  Conditions: the numbers lie in their types' ranges; the cells read as pairs.
-/
import Derived.Test.YtkgajcifanobnaaRefP
import Derived.Test.YtkgajcifanobnaaTabM
set_option maxRecDepth 100000
set_option linter.unusedVariables false
set_option linter.unusedSimpArgs false
namespace Go.Proofs.Ytkgajcifanobnaa
open Go.ChangeShapes Go.WideShapes Go.ChangeAt Go.RowKit
theorem ret_iiT {a b c d : Int} (h : a = b) (h2 : c = d) : Ending.returned (.tuple #[.int .i64 a, .int .i64 c]) = .returned (.tuple #[.int .i64 b, .int .i64 d]) := by rw [h, h2]
set_option maxHeartbeats 2000000 in
theorem r14right_c (T : Int) (T0 : 0 ≤ T) (T1 : T < 18446744073709551616) (ts : List (Int × Int)) (hts : PrOk ts) (A : Option Addr) (n c : Nat) (hn : n ≤ maxLen) (w : World) (hrd : RdPr .u64 .i64 w w.heap.size A n ts) :
    Calls Try.prog 20 #[.agg #[.int .u64 T, .slice A n c]] w fun e w' => e = .returned (.bool (tabR T ts)) ∧ Below w.heap.size w w' := by
  have hnm : (n : Int) ≤ 9223372036854775807 := by unfold maxLen at hn; omega
  have HM := Lib.hid (fun W => r9mul_c (n : Int) T (by omega) (by omega) T0 T1 W)
  have hlen := hrd.len
  by_cases hok : 0 < n ∧ 0 < T ∧ (n : Int) * T < 9223372036854775808
  · obtain ⟨hn0, hT0, hmul⟩ := hok
    have HOK : Hid (0 < ts.length ∧ 0 < T ∧ (ts.length : Int) * T < 9223372036854775808) := Lib.hid (by rw [hlen]; exact ⟨hn0, hT0, hmul⟩)
    rw [(mulV_ok hmul).1, (mulV_ok hmul).2] at HM
    obtain ⟨m, hm⟩ : ∃ m, (n : Int) * T = m := ⟨_, rfl⟩
    rw [hm] at HM
    obtain ⟨b, off, rfl, hb, -⟩ := hrd.cells hn0
    have HR := Lib.hid hrd
    have HTS := Lib.hid hts
    have tn : ((n : Int) == 0) = false := by rw [beq_eq_false_iff_ne]; omega
    have tT : (T == 0) = false := by rw [beq_eq_false_iff_ne]; omega
    have HS := Lib.hid (TbS.new w T (some ⟨b, off, none⟩) n c)
    clear hrd hts hmul hm hn
    go_enter Try.func20, Try.ntmps20
    go_wp2_with (first
      | (go_at_call 29; (with_reducible refine (HM.out _).mono ?_); rintro e _ ⟨rfl, rfl⟩))
    obtain ⟨g, hg⟩ : ∃ g, w.heap.size = g := ⟨_, rfl⟩
    rw [hg] at HS ⊢
    go_loopw [6] (fun i wr => ∃ k : Nat, k ≤ n ∧ i = .int .i64 (k : Int) ∧ (∀ j, j < k → (cellL ts j).1 ≤ T ∧ 0 ≤ (cellL ts j).2 ∧ (cellL ts j).2 < ts.length) ∧ TbS w g T (some ⟨b, off, none⟩) n c wr) (fun i _ => n - (intOf i).toNat)
    case atStart => exact ⟨0, by omega, rfl, fun j h => absurd h (by omega), HS.out⟩
    case round =>
      obtain ⟨k, hk, rfl, hall, hS⟩ := hrel
      have h0 := hS.c0
      have h1 := hS.c1
      have HSS := Lib.hid hS
      have HAL := Lib.hid hall
      by_cases hlt : k < n
      · obtain ⟨b', off', e, hb', hcc⟩ := (HSS.out.pr HR.out).cells (by omega)
        cases e
        have hc := hcc k hlt
        have hz := HTS.out.at_ (k := k) (by omega)
        have hc0 := hc.1
        have hc1 := hc.2
        have g0 := hS.c0
        have g1 := hS.c1
        have g2 := fun o => (hS.alloc o).c0
        have g3 := fun o => (hS.alloc o).c1
        clear hc hcc hb' hall hS h0 h1
        have hE : Hid (¬ ((cellL ts k).1 ≤ T ∧ 0 ≤ (cellL ts k).2 ∧ (cellL ts k).2 < (n : Int)) → tabR T ts = false) := Lib.hid (fun h => tabR_cell (k := k) (by omega) (by rw [hlen]; exact h))
        have hN : Hid (((cellL ts k).1 ≤ T ∧ 0 ≤ (cellL ts k).2 ∧ (cellL ts k).2 < (n : Int)) → ∀ j, j < k + 1 → (cellL ts j).1 ≤ T ∧ 0 ≤ (cellL ts j).2 ∧ (cellL ts j).2 < ts.length) := Lib.hid (fun h j hj => by
          by_cases e : j = k
          · rw [e, hlen]; exact h
          · exact HAL.out j (by omega))
        obtain ⟨x, hx⟩ : ∃ x, (cellL ts k).1 = x := ⟨_, rfl⟩
        obtain ⟨y, hy⟩ : ∃ x, (cellL ts k).2 = x := ⟨_, rfl⟩
        rw [hx, hy] at hz hE hN
        rw [hx] at hc0
        rw [hy] at hc1
        clear hx hy HAL
        have i0 : (0 : Int) ≤ (k : Int) := by omega
        have i1 : (k : Int) < (n : Int) := by omega
        by_cases c1 : x ≤ T
        · by_cases c2 : 0 ≤ y
          · by_cases c3 : y < (n : Int)
            · have HNN := Lib.hid (hN.out ⟨c1, c2, c3⟩)
              clear hE hN
              go_wp2
              go_roundw
              case rel => exact ⟨k + 1, by omega, by go_num, HNN.out, HSS.out.alloc _⟩
              case measure => simp [intOf]; omega
            · (have HF := Lib.hid (hE.out (fun h => by omega)); clear hE hN; go_wp2; go_ret; exact ⟨ret_bool HF.out.symm, (by first | exact (HSS.out.alloc _).bel | (rw [← hg]; exact (HSS.out.alloc _).bel))⟩)
          · (have HF := Lib.hid (hE.out (fun h => by omega)); clear hE hN; go_wp2; go_ret; exact ⟨ret_bool HF.out.symm, (by first | exact (HSS.out.alloc _).bel | (rw [← hg]; exact (HSS.out.alloc _).bel))⟩)
        · (have HF := Lib.hid (hE.out (fun h => by omega)); clear hE hN; go_wp2; go_ret; exact ⟨ret_bool HF.out.symm, (by first | exact (HSS.out.alloc _).bel | (rw [← hg]; exact (HSS.out.alloc _).bel))⟩)
      · obtain rfl : k = n := by omega
        have HT : Hid (tabR T ts = true) := Lib.hid (tabR_all HOK.out (fun j hj => hall j (by omega)))
        clear hall
        go_wp2
        go_ret
        exact ⟨ret_bool HT.out.symm, HSS.out.bel⟩
  · have HT := Lib.hid (tabR_no (T := T) (ts := ts) (by rw [hlen]; exact hok))
    have HS := Lib.hid (TbS.new w T A n c)
    by_cases h1 : (n : Int) * T < 9223372036854775808
    · rw [(mulV_ok h1).1, (mulV_ok h1).2] at HM
      obtain ⟨m, hm⟩ : ∃ m, (n : Int) * T = m := ⟨_, rfl⟩
      rw [hm] at HM h1 hok
      clear hm hts hrd
      by_cases h2 : n = 0
      · subst h2
        rw [show ((0 : Nat) : Int) = 0 from rfl] at HM
        go_enter Try.func20, Try.ntmps20
        go_wp2_with (first
          | (go_at_call 29; (with_reducible refine (HM.out _).mono ?_); rintro e _ ⟨rfl, rfl⟩))
        go_ret
        exact ⟨ret_bool HT.out.symm, HS.out.bel⟩
      · have h3 : T = 0 := by omega
        subst h3
        have tn : ((n : Int) == 0) = false := by rw [beq_eq_false_iff_ne]; omega
        clear hok
        go_enter Try.func20, Try.ntmps20
        go_wp2_with (first
          | (go_at_call 29; (with_reducible refine (HM.out _).mono ?_); rintro e _ ⟨rfl, rfl⟩))
        go_ret
        exact ⟨ret_bool HT.out.symm, HS.out.bel⟩
    · rw [(mulV_no h1).1, (mulV_no h1).2] at HM
      have hn0 : n ≠ 0 := by rintro rfl; simp at h1
      have hT0 : T ≠ 0 := by rintro rfl; simp at h1
      have tn : ((n : Int) == 0) = false := by rw [beq_eq_false_iff_ne]; omega
      have tT : (T == 0) = false := by rw [beq_eq_false_iff_ne]; exact hT0
      clear h1 hok hts hrd
      go_enter Try.func20, Try.ntmps20
      go_wp2_with (first
        | (go_at_call 29; (with_reducible refine (HM.out _).mono ?_); rintro e _ ⟨rfl, rfl⟩))
      go_ret
      exact ⟨ret_bool HT.out.symm, HS.out.bel⟩
end Go.Proofs.Ytkgajcifanobnaa

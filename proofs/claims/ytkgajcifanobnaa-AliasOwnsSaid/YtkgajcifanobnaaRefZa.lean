/-
  What drawlotref14 returns of a table: its size, a lookup, an owner, how many, whether two are the same.
  Conditions: the numbers lie in their types' ranges; the cells read as pairs.
-/
import Derived.Test.YtkgajcifanobnaaRefZ
import Derived.BigQuiet
set_option maxRecDepth 100000
set_option linter.unusedVariables false
set_option linter.unusedSimpArgs false
namespace Go.Proofs.Ytkgajcifanobnaa
open Go.ChangeShapes Go.WideShapes Go.ChangeAt Go.RowKit
section
variable (T : Int) (T0 : 0 ≤ T) (T1 : T < 18446744073709551616) (ts : List (Int × Int)) (hts : PrOk ts) (A : Option Addr) (n c : Nat) (hn : n ≤ maxLen) (w : World) (hrd : RdPr .u64 .i64 w w.heap.size A n ts)
include T0 T1 hts hn hrd
set_option maxHeartbeats 2000000 in
theorem r14size_c : Calls Try.prog 22 #[.agg #[.int .u64 T, .slice A n c]] w fun e w' => e = .returned (.int .u64 (tabZ T ts)) ∧ Below w.heap.size w w' := by
  have hlen := hrd.len
  have HC := Lib.hid (fun W h => r14right_c T T0 T1 ts hts A n c hn W h)
  have HR := Lib.hid hrd
  have HS := Lib.hid (TbS.new w T A n c)
  cases hr : tabR T ts
  · rw [hr] at HC
    have HZ : Hid (tabZ T ts = 0) := Lib.hid (if_neg (by rw [hr]; simp))
    clear hrd hts hr
    go_enter Try.func22, Try.ntmps22
    go_wp2_with (first
      | (go_at_call 20; (with_reducible refine (HC.out _ (HS.out.pr HR.out)).mono ?_); rintro e w1 ⟨rfl, hb1⟩; have HS1 := Lib.hid (HS.out.below hb1)))
    go_ret
    exact ⟨ret_u64v HZ.out.symm, HS1.out.bel⟩
  · rw [hr] at HC
    have HZ : Hid (tabZ T ts = (n : Int) * T) := Lib.hid (by unfold tabZ; rw [if_pos hr, hlen])
    have hm := (tabR_iff.1 hr).2.2.1
    have hm0 := Int.mul_nonneg (show 0 ≤ (n : Int) by omega) T0
    rw [hlen] at hm
    clear hrd hts hr
    have hnm : (n : Int) ≤ 9223372036854775807 := by unfold maxLen at hn; omega
    have hw : IntKind.u64.wrap ((n : Int) * T) = (n : Int) * T := by rw [IntKind.wrap_u64]; omega
    clear hm hm0
    go_enter Try.func22, Try.ntmps22
    go_wp2_with (first
      | (go_at_call 20; (with_reducible refine (HC.out _ (HS.out.pr HR.out)).mono ?_); rintro e w1 ⟨rfl, hb1⟩; have HS1 := Lib.hid (HS.out.below hb1); have c0 := HS1.out.c0; have c1 := HS1.out.c1))
    go_ret
    exact ⟨ret_u64v HZ.out.symm, HS1.out.bel⟩
set_option maxHeartbeats 2000000 in
theorem r14lookup_c (i u : Int) (i0 : -9223372036854775808 ≤ i) (i1 : i < 9223372036854775808) (u0 : 0 ≤ u) (u1 : u < 18446744073709551616) : Calls Try.prog 14 #[.agg #[.int .u64 T, .slice A n c], .int .i64 i, .int .u64 u] w fun e w' => e = .returned (.tuple #[.int .i64 (lkV T ts i u), .int .i64 (lkE T ts i u)]) ∧ Below w.heap.size w w' := by
  have hlen := hrd.len
  have HC := Lib.hid (fun W h => r14right_c T T0 T1 ts hts A n c hn W h)
  have HR := Lib.hid hrd
  have HS := Lib.hid (TbS.new w T A n c)
  cases hr : tabR T ts
  · rw [hr] at HC
    have HE : Hid (lkE T ts i u = 1 ∧ lkV T ts i u = 0) := Lib.hid (by
      have h : lkE T ts i u = 1 := if_neg (by rw [hr]; simp)
      exact ⟨h, if_neg (by rw [h]; decide)⟩)
    clear hrd hts hr
    go_enter Try.func14, Try.ntmps14
    go_wp2_with (first
      | (go_at_call 20; (with_reducible refine (HC.out _ (HS.out.pr HR.out)).mono ?_); rintro e w1 ⟨rfl, hb1⟩; have HS1 := Lib.hid (HS.out.below hb1)))
    go_ret2
    exact ⟨ret_iiT HE.out.2.symm HE.out.1.symm, HS1.out.bel⟩
  · rw [hr] at HC
    have hin := (tabR_iff.1 hr).2.2.2
    by_cases ho : 0 ≤ i ∧ i < (n : Int) ∧ u < T
    · have HE : Hid (lkE T ts i u = 0) := Lib.hid (by unfold lkE; rw [if_pos hr, if_pos (by rw [hlen]; exact ho)])
      obtain ⟨o0, o1, o2⟩ := ho
      obtain ⟨k, rfl⟩ := Int.eq_ofNat_of_zero_le o0
      have HV : Hid (lkV T ts (k : Int) u = if u < (cellL ts k).1 then (k : Int) else (cellL ts k).2) := Lib.hid (by unfold lkV; rw [if_pos HE.out]; rfl)
      obtain ⟨b, off, rfl, hb, -⟩ := hrd.cells (by omega)
      have HCL := Lib.hid (fun (W : World) (h : RdPr .u64 .i64 W W.heap.size (some ⟨b, off, none⟩) n ts) => h.cellAt (k := k) (by omega))
      have hz := hts.at_ (k := k) (by omega)
      obtain ⟨x, hx⟩ : ∃ x, (cellL ts k).1 = x := ⟨_, rfl⟩
      obtain ⟨y, hy⟩ : ∃ x, (cellL ts k).2 = x := ⟨_, rfl⟩
      rw [hx, hy] at hz HCL HV
      clear hrd hts hr hin hx hy i0 o0 i1
      by_cases hu : u < x
      · rw [if_pos hu] at HV
        go_enter Try.func14, Try.ntmps14
        go_wp2_with (first
          | (go_at_call 20; (with_reducible refine (HC.out _ (HS.out.pr HR.out)).mono ?_); rintro e w1 ⟨rfl, hb1⟩; have HS1 := Lib.hid (HS.out.below hb1); have c0 := HS1.out.c0; have c1 := HS1.out.c1; have c2 := (HCL.out _ (HS1.out.pr HR.out)).1; have c3 := (HCL.out _ (HS1.out.pr HR.out)).2))
        go_ret2
        exact ⟨ret_iiT HV.out.symm HE.out.symm, HS1.out.bel⟩
      · rw [if_neg hu] at HV
        go_enter Try.func14, Try.ntmps14
        go_wp2_with (first
          | (go_at_call 20; (with_reducible refine (HC.out _ (HS.out.pr HR.out)).mono ?_); rintro e w1 ⟨rfl, hb1⟩; have HS1 := Lib.hid (HS.out.below hb1); have c0 := HS1.out.c0; have c1 := HS1.out.c1; have c2 := (HCL.out _ (HS1.out.pr HR.out)).1; have c3 := (HCL.out _ (HS1.out.pr HR.out)).2))
        go_ret2
        exact ⟨ret_iiT HV.out.symm HE.out.symm, HS1.out.bel⟩
    · have HE : Hid (lkE T ts i u = 3 ∧ lkV T ts i u = 0) := Lib.hid (by
        have h : lkE T ts i u = 3 := by unfold lkE; rw [if_pos hr, if_neg (by rw [hlen]; exact ho)]
        exact ⟨h, if_neg (by rw [h]; decide)⟩)
      clear hrd hts hr hin
      have hnm : (n : Int) ≤ 9223372036854775807 := by unfold maxLen at hn; omega
      have HNO := Lib.hid ho
      clear ho
      go_enter Try.func14, Try.ntmps14
      by_cases d1 : i < 0
      · go_wp2_with (first
          | (go_at_call 20; (with_reducible refine (HC.out _ (HS.out.pr HR.out)).mono ?_); rintro e w1 ⟨rfl, hb1⟩; have HS1 := Lib.hid (HS.out.below hb1); have c0 := HS1.out.c0; have c1 := HS1.out.c1))
        go_ret2
        exact ⟨ret_iiT HE.out.2.symm HE.out.1.symm, HS1.out.bel⟩
      · by_cases d2 : (n : Int) ≤ i
        · go_wp2_with (first
            | (go_at_call 20; (with_reducible refine (HC.out _ (HS.out.pr HR.out)).mono ?_); rintro e w1 ⟨rfl, hb1⟩; have HS1 := Lib.hid (HS.out.below hb1); have c0 := HS1.out.c0; have c1 := HS1.out.c1))
          go_ret2
          exact ⟨ret_iiT HE.out.2.symm HE.out.1.symm, HS1.out.bel⟩
        · have d3 : T ≤ u := by have := HNO.out; omega
          go_wp2_with (first
            | (go_at_call 20; (with_reducible refine (HC.out _ (HS.out.pr HR.out)).mono ?_); rintro e w1 ⟨rfl, hb1⟩; have HS1 := Lib.hid (HS.out.below hb1); have c0 := HS1.out.c0; have c1 := HS1.out.c1))
          go_ret2
          exact ⟨ret_iiT HE.out.2.symm HE.out.1.symm, HS1.out.bel⟩
end
end Go.Proofs.Ytkgajcifanobnaa

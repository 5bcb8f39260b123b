/-
  What the landed alias tells of a column, and of a cell: whether there is such a column, who owns an offset in it, whether a cell may not be.
  Conditions: the numbers lie in their types' ranges; the cells read as pairs.
-/
import Derived.Test.YtkgajcifanobnaaRefZc
import Derived.Test.YtkgajcifanobnaaRefZa
import Derived.Test.YtkgajcifanobnaaSafA
set_option maxRecDepth 100000
set_option linter.unusedVariables false
set_option linter.unusedSimpArgs false
namespace Go.Proofs.Ytkgajcifanobnaa
open Go.ChangeShapes Go.WideShapes Go.ChangeAt Go.RowKit
theorem ret_intv {a b : Int} (h : a = b) : Ending.returned (.int .i64 a) = .returned (.int .i64 b) := by rw [h]
theorem q14col_c (T : Int) (A : Option Addr) (n c : Nat) (hn : n ≤ maxLen) (i : Int) (i0 : -9223372036854775808 ≤ i) (i1 : i < 9223372036854775808) (w : World) : Calls Try.prog 30 #[.agg #[.int .u64 T, .slice A n c], .int .i64 i] w fun e w' => e = .returned (.bool (decide (0 ≤ i ∧ i < (n : Int)))) ∧ Below w.heap.size w w' := by
  have hnm : (n : Int) ≤ 9223372036854775807 := by unfold maxLen at hn; omega
  have HS := Lib.hid (TbS.new w T A n c)
  by_cases h1 : 0 ≤ i
  · by_cases h2 : i < (n : Int)
    · have HV := Lib.hid (decide_eq_true (And.intro h1 h2))
      go_enter Try.func30, Try.ntmps30
      go_wp2
      go_ret
      exact ⟨ret_bool (by first | exact HV.out.symm | (rw [HV.out]; simp; omega) | (simp; omega)), HS.out.bel⟩
    · have HV := Lib.hid (decide_eq_false (fun h : 0 ≤ i ∧ i < (n : Int) => h2 h.2))
      go_enter Try.func30, Try.ntmps30
      go_wp2
      go_ret
      exact ⟨ret_bool (by first | exact HV.out.symm | (rw [HV.out]; simp; omega) | (simp; omega)), HS.out.bel⟩
  · have HV := Lib.hid (decide_eq_false (fun h : 0 ≤ i ∧ i < (n : Int) => h1 h.1))
    go_enter Try.func30, Try.ntmps30
    go_wp2
    go_ret
    exact ⟨ret_bool (by first | exact HV.out.symm | (rw [HV.out]; simp; omega) | (simp; omega)), HS.out.bel⟩
def lkC (ts : List (Int × Int)) (k : Nat) (u : Int) : Int := if u < (cellL ts k).1 then (k : Int) else (cellL ts k).2
set_option maxHeartbeats 2000000 in
theorem q14of_c (T : Int) (ts : List (Int × Int)) (hts : PrOk ts) (A : Option Addr) (n c : Nat) (hn : n ≤ maxLen) (w : World) (hrd : RdPr .u64 .i64 w w.heap.size A n ts) (k : Nat) (hk : k < n) (u : Int) (u0 : 0 ≤ u) (u1 : u < 18446744073709551616) :
    Calls Try.prog 31 #[.agg #[.int .u64 T, .slice A n c], .int .i64 (k : Int), .int .u64 u] w fun e w' => e = .returned (.int .i64 (lkC ts k u)) ∧ Below w.heap.size w w' := by
  have hlen := hrd.len
  have hnm : (n : Int) ≤ 9223372036854775807 := by unfold maxLen at hn; omega
  obtain ⟨b, off, rfl, hb, -⟩ := hrd.cells (by omega)
  have HS := Lib.hid (TbS.new w T (some ⟨b, off, none⟩) n c)
  have c0 := HS.out.c0
  have c1 := HS.out.c1
  obtain ⟨c2, c3⟩ := (HS.out.pr hrd).cellAt hk
  have hz := hts.at_ (k := k) (by omega)
  have HV : Hid (lkC ts k u = if u < (cellL ts k).1 then (k : Int) else (cellL ts k).2) := Lib.hid rfl
  obtain ⟨x, hx⟩ : ∃ x, (cellL ts k).1 = x := ⟨_, rfl⟩
  obtain ⟨y, hy⟩ : ∃ x, (cellL ts k).2 = x := ⟨_, rfl⟩
  rw [hx, hy] at hz HV
  rw [hx] at c2
  rw [hy] at c3
  have i0 : (0 : Int) ≤ (k : Int) := by omega
  have i1 : (k : Int) < (n : Int) := by omega
  clear hrd hts hx hy
  by_cases hu : u < x
  · rw [if_pos hu] at HV
    go_enter Try.func31, Try.ntmps31
    go_wp2
    go_ret
    exact ⟨ret_intv HV.out.symm, (HS.out.alloc _).bel⟩
  · rw [if_neg hu] at HV
    go_enter Try.func31, Try.ntmps31
    go_wp2
    go_ret
    exact ⟨ret_intv HV.out.symm, (HS.out.alloc _).bel⟩
/-- A cell that may not be, in a table of n cells. -/
def badC (T : Int) (n : Nat) (p : Int × Int) : Bool := decide (¬ (p.1 ≤ T ∧ 0 ≤ p.2 ∧ p.2 < (n : Int)))
set_option maxHeartbeats 2000000 in
theorem q14bad_c (T : Int) (T0 : 0 ≤ T) (T1 : T < 18446744073709551616) (A : Option Addr) (n c : Nat) (hn : n ≤ maxLen) (x y : Int) (x0 : 0 ≤ x) (x1 : x < 18446744073709551616) (y0 : -9223372036854775808 ≤ y) (y1 : y < 9223372036854775808) (w0 : World) (g : Nat) (w : World) (hS : TbS w0 g T A n c w) :
    Calls Try.prog 33 #[.agg #[.int .u64 x, .int .i64 y], .pointer (some ⟨g, 0, none⟩)] w fun e w' => e = .returned (.bool (badC T n (x, y))) ∧ Below w.heap.size w w' := by
  have HS := Lib.hid (hS.alloc (.cells #[.int .u64 x, .int .i64 y] 44))
  have c0 := HS.out.c0
  have c1 := HS.out.c1
  have HB := Lib.hid ((Below.refl w.heap.size w).alloc (Nat.le_refl _) (.cells #[.int .u64 x, .int .i64 y] 44))
  have hcl := fun W => q14col_c T A n c hn y y0 y1 W
  clear hS
  by_cases h1 : x ≤ T
  · by_cases h2 : 0 ≤ y ∧ y < (n : Int)
    · have HV : Hid (badC T n (x, y) = false) := Lib.hid (decide_eq_false (fun h => h ⟨h1, h2⟩))
      rw [decide_eq_true h2] at hcl
      have HCL := Lib.hid hcl
      clear hcl h2
      go_enter Try.func33, Try.ntmps33
      go_wp2_with (first
        | (go_at_call 30; (with_reducible refine (HCL.out _).mono ?_); rintro e w1 ⟨rfl, hb1⟩; have HB1 := Lib.hid (HB.out.trans (hb1.mono HB.out.size))))
      go_ret
      exact ⟨ret_bool (by first | exact HV.out.symm | (rw [HV.out]; simp; omega) | (simp; omega)), HB1.out⟩
    · have HV : Hid (badC T n (x, y) = true) := Lib.hid (decide_eq_true (fun h => h2 h.2))
      rw [decide_eq_false h2] at hcl
      have HCL := Lib.hid hcl
      clear hcl h2
      go_enter Try.func33, Try.ntmps33
      go_wp2_with (first
        | (go_at_call 30; (with_reducible refine (HCL.out _).mono ?_); rintro e w1 ⟨rfl, hb1⟩; have HB1 := Lib.hid (HB.out.trans (hb1.mono HB.out.size))))
      go_ret
      exact ⟨ret_bool (by first | exact HV.out.symm | (rw [HV.out]; simp; omega) | (simp; omega)), HB1.out⟩
  · have HV : Hid (badC T n (x, y) = true) := Lib.hid (decide_eq_true (fun h => h1 h.1))
    clear hcl
    go_enter Try.func33, Try.ntmps33
    go_wp2
    go_ret
    exact ⟨ret_bool (by first | exact HV.out.symm | (rw [HV.out]; simp; omega) | (simp; omega)), HB.out⟩
end Go.Proofs.Ytkgajcifanobnaa

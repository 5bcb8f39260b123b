/-
  What the landed alias's calls return, and that memory is left as it was.
  Conditions: the arguments lie in their types' ranges; there are at most 1000 stakes or cells.
-/
import Derived.Test.YtkgajcifanobnaaAlsE
import Derived.Test.YtkgajcifanobnaaAlsI
set_option maxRecDepth 100000
set_option linter.unusedVariables false
set_option linter.unusedSimpArgs false
set_option linter.unusedSectionVars false
namespace Go.Proofs.Ytkgajcifanobnaa
open Go.ChangeShapes Go.WideShapes Go.ChangeAt Go.RowKit
section
variable (T : Int) (T0 : 0 ≤ T) (T1 : T < 18446744073709551616) (ts : List (Int × Int)) (hts : PrOk ts) (A : Option Addr) (n c : Nat) (hn : n ≤ 1000) (hc : n ≤ c) (hcm : c ≤ maxLen) (w : World) (hrd : RdPr .u64 .i64 w w.heap.size A n ts)
include T0 T1 hts hn hc hcm hrd
theorem q14right_c : Calls Try.prog 19 #[.agg #[.int .u64 T, .slice A n c]] w fun e w' => e = .returned (.bool (tabR T ts)) ∧ Below w.heap.size w w' := q14rightB_c T T0 T1 ts hts A n c hn w hrd
theorem q14size_c : Calls Try.prog 21 #[.agg #[.int .u64 T, .slice A n c]] w fun e w' => e = .returned (.int .u64 (tabZ T ts)) ∧ Below w.heap.size w w' := q14sizeB_c T T0 T1 ts hts A n c hn w hrd
theorem q14lookup_c (i u : Int) (i0 : -9223372036854775808 ≤ i) (i1 : i < 9223372036854775808) (u0 : 0 ≤ u) (u1 : u < 18446744073709551616) : Calls Try.prog 13 #[.agg #[.int .u64 T, .slice A n c], .int .i64 i, .int .u64 u] w fun e w' => e = .returned (.tuple #[.int .i64 (lkV T ts i u), .int .i64 (lkE T ts i u)]) ∧ Below w.heap.size w w' := q14lookupB_c T T0 T1 ts hts A n c hn w hrd i u i0 i1 u0 u1
theorem q14owner_c (u : Int) (u0 : 0 ≤ u) (u1 : u < 18446744073709551616) : Calls Try.prog 15 #[.agg #[.int .u64 T, .slice A n c], .int .u64 u] w fun e w' => e = .returned (.tuple #[.int .i64 (owV T ts u), .int .i64 (owE T ts u)]) ∧ Below w.heap.size w w' := q14ownerB_c T T0 T1 ts hts A n c hn w hrd u u0 u1
theorem q14owns_c (i : Int) (i0 : -9223372036854775808 ≤ i) (i1 : i < 9223372036854775808) : Calls Try.prog 17 #[.agg #[.int .u64 T, .slice A n c], .int .i64 i] w fun e w' => e = .returned (.tuple #[.int .u64 (osV T ts i), .int .i64 (osE T ts i)]) ∧ Below w.heap.size w w' := q14ownsB_c T T0 T1 ts hts A n c hn w hrd i i0 i1
end
end Go.Proofs.Ytkgajcifanobnaa

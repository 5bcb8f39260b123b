/-
  What the laws of stage 11 need of memory: slices of literal numbers, a tree's own field, answers with their lengths said apart.
  Conditions: those that each theorem names.
-/
import Derived.Test.YtilccjjagdedaaaDoorFenM
import Derived.Test.YtilccjjagdedaaaDoorLitL
set_option maxRecDepth 100000
set_option linter.unusedVariables false
set_option linter.unusedSimpArgs false
namespace Go.Proofs.YtilccjjagdedaaaDoor
open Go.ChangeShapes Go.WideShapes Go.ChangeAt Go.RowKit
section
variable {ops : Array Oper} {rest : List Oper} {o : Oper} {a : Act} {w : World} {Q : Exit → Act → World → Prop}
/-- A tree's numbers, loaded. -/
theorem wpList_load_fld (hw : Region.wanted o (yielded ops a.tmps) = true) (x : Operand) (ho : o.op = .load 23 x) (g : Nat) (hx : a.eval x = .pointer (some ⟨g, 0, none⟩)) (t : TypeId) (v : Value) (hb : Blk w g t #[v])
    (h : wpList Tryd.prog ops Q rest (a.put o.dst v) w) : wpList Tryd.prog ops Q (o :: rest) a w := by
  refine wpList_run_gd hw v w ?_ h
  have p : w.cell? ⟨g, 0, none⟩ = some v := by rw [hb.cell]; rfl
  unfold execOp
  simp only [ho, hx]
  go_simp
/-- A whole tree, loaded. -/
theorem wpList_load_fen (hw : Region.wanted o (yielded ops a.tmps) = true) (x : Operand) (ho : o.op = .load 26 x) (g : Nat) (hx : a.eval x = .pointer (some ⟨g, 0, none⟩)) (t : TypeId) (v : Value) (hb : Blk w g t #[v])
    (h : wpList Tryd.prog ops Q rest (a.put o.dst (.agg #[v])) w) : wpList Tryd.prog ops Q (o :: rest) a w := by
  refine wpList_run_gd hw (.agg #[v]) w ?_ h
  have p : w.cell? ⟨g, 0, none⟩ = some v := by rw [hb.cell]; rfl
  unfold execOp
  simp only [ho, hx]
  go_simp
end
/-- A block that was apart is stored, and named. -/
theorem Fx.storeN {l : List Fact} {w w' : World} {g : Nat} {t : TypeId} {cs ys : Array Value} (h : Fx l w) (hk : Blk w g t cs) (ha : Fx.off g cs l) (hk2 : Blk w' g t ys) (hs : w'.heap.size = w.heap.size) (hb : ∀ B, B ≤ g → Below B w w') (ho : ∀ j, j ≠ g → w'.heap[j]? = w.heap[j]?) : Fx (.blk g t ys :: l) w' := ⟨hk2, Fx.store h hk ha hs hb ho⟩
theorem noint_slice (k : IntKind) (A : Option Addr) (n c : Nat) : NoInt k #[.slice A n c] := noint_fen _ (fun _ _ h => by cases h) k
/-! ### answers whose lengths are said apart -/
def RetFenN (w : World) (n : Nat) (ts : List Int) (er : Int) (e : Ending) (w' : World) : Prop := ∃ A c, e = .returned (.tuple #[.agg #[.slice A n c], .int .i64 er]) ∧ Rd .u64 w' w'.heap.size A n ts ∧ n ≤ c ∧ c ≤ maxLen ∧ Below w.heap.size w w'
def RetLstN (w : World) (n : Nat) (ts : List Int) (er : Int) (e : Ending) (w' : World) : Prop := ∃ A c, e = .returned (.tuple #[.slice A n c, .int .i64 er]) ∧ Rd .u64 w' w'.heap.size A n ts ∧ n ≤ c ∧ c ≤ maxLen ∧ Below w.heap.size w w'
def RetLN (w : World) (n : Nat) (ts : List Int) (e : Ending) (w' : World) : Prop := ∃ A c, e = .returned (.slice A n c) ∧ Rd .u64 w' w'.heap.size A n ts ∧ n ≤ c ∧ c ≤ maxLen ∧ Below w.heap.size w w'
def RetTreeN (w : World) (n : Nat) (ts : List Int) (e : Ending) (w' : World) : Prop := ∃ A c, e = .returned (.agg #[.slice A n c]) ∧ Rd .u64 w' w'.heap.size A n ts ∧ n ≤ c ∧ c ≤ maxLen ∧ Below w.heap.size w w'
section
variable {P : Program} {f : FuncId} {args : Array Value} {w : World} {n : Nat} {ts ts' l : List Int} {er er' : Int}
theorem calls_fen (h : Calls P f args w (RetFen w ts er)) (h1 : ts = ts') (h2 : er = er') (hn : ts'.length = n) : Calls P f args w (RetFenN w n ts' er') := by
  subst h1 h2 hn
  exact h
theorem calls_lst (h : Calls P f args w (RetLst w ts er)) (h1 : ts = ts') (h2 : er = er') (hn : ts'.length = n) : Calls P f args w (RetLstN w n ts' er') := by
  subst h1 h2 hn
  exact h
theorem calls_l (h : Calls P f args w (RetL w ts)) (hn : ts.length = n) : Calls P f args w (RetLN w n ts) := by
  subst hn
  exact h
theorem calls_tree (h : Calls P f args w (RetTree w l)) (hn : l.length = n) : Calls P f args w (RetTreeN w n (treeL l)) := by
  subst hn
  exact h
end
/-! ### the document's example -/
theorem low1 : lowN 1 = 1 := lowN_odd rfl
theorem low2 : lowN 2 = 2 := by rw [lowN_even (by omega) rfl]; show 2 * lowN 1 = 2; rw [low1]
theorem low3 : lowN 3 = 1 := lowN_odd rfl
theorem low4 : lowN 4 = 4 := by rw [lowN_even (by omega) rfl]; show 2 * lowN 2 = 4; rw [low2]
theorem low5 : lowN 5 = 1 := lowN_odd rfl
theorem tree4 (a b c d : Int) : treeL [a, b, c, d] = [a, a + b, c, a + b + c + d] := by
  simp only [treeL, List.length_cons, List.length_nil, List.range_succ, List.range_zero, List.nil_append, List.cons_append, List.map_cons, List.map_nil, Nat.zero_add, Nat.reduceAdd, low1, low2, low3, low4, Nat.reduceSub, Nat.sub_self]
  simp [preL, sumL]
  omega
theorem tree5 (a b c d e : Int) : treeL [a, b, c, d, e] = [a, a + b, c, a + b + c + d, e] := by
  simp only [treeL, List.length_cons, List.length_nil, List.range_succ, List.range_zero, List.nil_append, List.cons_append, List.map_cons, List.map_nil, Nat.zero_add, Nat.reduceAdd, low1, low2, low3, low4, low5, Nat.reduceSub, Nat.sub_self]
  simp [preL, sumL]
  omega
end Go.Proofs.YtilccjjagdedaaaDoor

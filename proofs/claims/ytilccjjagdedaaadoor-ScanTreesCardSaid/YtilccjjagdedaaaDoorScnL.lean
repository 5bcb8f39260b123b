/-
  What the laws of stage 12 need of memory: slices of one and of three literal numbers.
  Conditions: those that each theorem names.
-/
import Derived.Test.YtilccjjagdedaaaDoorFenL
import Derived.Test.YtilccjjagdedaaaDoorScnM
set_option maxRecDepth 100000
set_option linter.unusedVariables false
set_option linter.unusedSimpArgs false
namespace Go.Proofs.YtilccjjagdedaaaDoor
open Go.ChangeShapes Go.WideShapes Go.ChangeAt Go.RowKit
section
variable {ops : Array Oper} {rest : List Oper} {o : Oper} {a : Act} {w : World} {Q : Exit → Act → World → Prop}
theorem run_build_u64_3 (x y z : Int) (w : World) : (Instr.buildSlice 23 3 #[(0, .int .u64 x), (1, .int .u64 y), (2, .int .u64 z)]).run Tryd.prog w = .ok (.slice (some ⟨w.heap.size, 0, none⟩) 3 3) (w.alloc (.cells #[.int .u64 x, .int .u64 y, .int .u64 z] 22)) := by
  go_simp
theorem wpList_build3 (hw : Region.wanted o (yielded ops a.tmps) = true) (p q r : Operand) (ho : o.op = .buildSlice 23 3 #[(0, p), (1, q), (2, r)]) (x y z : Int) (hp : a.eval p = .int .u64 x) (hq : a.eval q = .int .u64 y) (hr : a.eval r = .int .u64 z)
    (h : ∀ g w', Rd .u64 w' w'.heap.size (some ⟨g, 0, none⟩) 3 [x, y, z] → Below w.heap.size w w' → wpList Tryd.prog ops Q rest (a.put o.dst (.slice (some ⟨g, 0, none⟩) 3 3)) w') : wpList Tryd.prog ops Q (o :: rest) a w := by
  refine wpList_run_gd hw (.slice (some ⟨w.heap.size, 0, none⟩) 3 3) (w.alloc (.cells #[.int .u64 x, .int .u64 y, .int .u64 z] 22)) ?_ (h _ _ (rd_alloc w _ .u64 [x, y, z]) ((Below.refl _ _).alloc (Nat.le_refl _) _))
  have hr1 := run_build_u64_3 x y z w
  unfold execOp
  simp only [ho, List.map_toArray, List.map_cons, List.map_nil, hp, hq, hr]
  change ((Instr.buildSlice 23 3 #[(0, .int .u64 x), (1, .int .u64 y), (2, .int .u64 z)]) >>= fun v => pure (Next.value v)).run Tryd.prog w = _
  simp only [Sem.run_bind, hr1, Result.andThen_ok, Sem.run_pure]
theorem wpList_build1 (hw : Region.wanted o (yielded ops a.tmps) = true) (p : Operand) (ho : o.op = .buildSlice 23 1 #[(0, p)]) (x : Int) (hp : a.eval p = .int .u64 x)
    (h : ∀ g w', Rd .u64 w' w'.heap.size (some ⟨g, 0, none⟩) 1 [x] → Below w.heap.size w w' → wpList Tryd.prog ops Q rest (a.put o.dst (.slice (some ⟨g, 0, none⟩) 1 1)) w') : wpList Tryd.prog ops Q (o :: rest) a w :=
  wpList_run_gd hw (.slice (some ⟨w.heap.size, 0, none⟩) 1 1) (w.alloc (.cells #[.int .u64 x] 22)) (exec_build_u64 p x ho hp) (h _ _ (rd_one1 w _ .u64 x) ((Below.refl _ _).alloc (Nat.le_refl _) _))
end
theorem Fx.lit3 {l : List Fact} {w : World} (h : Fx l w) (x y z : Int) : Fx (.rdb .u64 (w.alloc (.cells #[.int .u64 x, .int .u64 y, .int .u64 z] 22)).heap.size (some ⟨w.heap.size, 0, none⟩) 3 [x, y, z] :: l) (w.alloc (.cells #[.int .u64 x, .int .u64 y, .int .u64 z] 22)) :=
  Fx.addR h ((Below.refl _ _).alloc (Nat.le_refl _) _) (rd_alloc w _ .u64 [x, y, z])
end Go.Proofs.YtilccjjagdedaaaDoor

/-
  What laws need of memory: slices of literal numbers, a cell of a block stored, answers said by what they are.
  Conditions: those that each theorem names.
-/
import Derived.Test.YtkgajcifanobnaaRegA
import Derived.Test.YtkgajcifanobnaaFxP
import Derived.Test.YtkgajcifanobnaaOwnD
set_option maxRecDepth 100000
set_option linter.unusedVariables false
set_option linter.unusedSimpArgs false
namespace Go.Proofs.Ytkgajcifanobnaa
open Go.ChangeShapes Go.WideShapes Go.ChangeAt Go.RowKit
section
variable {ops : Array Oper} {rest : List Oper} {o : Oper} {a : Act} {w : World} {Q : Exit → Act → World → Prop}
theorem wpList_run_gd {P : Program} (hw : Region.wanted o (yielded ops a.tmps) = true) (v : Value) (w' : World) (hv : (execOp a.eval o).run P w = .ok (.value v) w')
    (h : wpList P ops Q rest (a.put o.dst v) w') : wpList P ops Q (o :: rest) a w :=
  wpList_step fun K hK => by
    rw [if_pos hw]
    unfold Oper.wp
    simp only [hv]
    exact hK _ _ h
theorem run_build_u64_4 (x y z v : Int) (w : World) : (Instr.buildSlice 22 4 #[(0, .int .u64 x), (1, .int .u64 y), (2, .int .u64 z), (3, .int .u64 v)]).run Try.prog w = .ok (.slice (some ⟨w.heap.size, 0, none⟩) 4 4) (w.alloc (.cells #[.int .u64 x, .int .u64 y, .int .u64 z, .int .u64 v] 24)) := by
  go_simp
theorem run_build_u64_2 (x y : Int) (w : World) : (Instr.buildSlice 22 2 #[(0, .int .u64 x), (1, .int .u64 y)]).run Try.prog w = .ok (.slice (some ⟨w.heap.size, 0, none⟩) 2 2) (w.alloc (.cells #[.int .u64 x, .int .u64 y] 24)) := by
  go_simp
theorem rd_alloc (w : World) (e : TypeId) (k : IntKind) (zs : List Int) : Rd k (w.alloc (.cells (intsA k zs) e)) (w.alloc (.cells (intsA k zs) e)).heap.size (some ⟨w.heap.size, 0, none⟩) zs.length zs := by
  refine ⟨rfl, fun _ => ⟨w.heap.size, 0, rfl, (Blk.new w e (intsA k zs)).lt, fun j hj => ?_⟩⟩
  rw [(Blk.new w e (intsA k zs)).cell, Nat.zero_add]
  simp [intsA, hj]
theorem wpList_build4 (hw : Region.wanted o (yielded ops a.tmps) = true) (p q r s : Operand) (ho : o.op = .buildSlice 22 4 #[(0, p), (1, q), (2, r), (3, s)]) (x y z v : Int) (hp : a.eval p = .int .u64 x) (hq : a.eval q = .int .u64 y) (hr : a.eval r = .int .u64 z) (hs : a.eval s = .int .u64 v)
    (h : ∀ g w', Rd .u64 w' w'.heap.size (some ⟨g, 0, none⟩) 4 [x, y, z, v] → Below w.heap.size w w' → wpList Try.prog ops Q rest (a.put o.dst (.slice (some ⟨g, 0, none⟩) 4 4)) w') : wpList Try.prog ops Q (o :: rest) a w := by
  refine wpList_run_gd hw (.slice (some ⟨w.heap.size, 0, none⟩) 4 4) (w.alloc (.cells #[.int .u64 x, .int .u64 y, .int .u64 z, .int .u64 v] 24)) ?_ (h _ _ (rd_alloc w _ .u64 [x, y, z, v]) ((Below.refl _ _).alloc (Nat.le_refl _) _))
  have hr1 := run_build_u64_4 x y z v w
  unfold execOp
  simp only [ho, List.map_toArray, List.map_cons, List.map_nil, hp, hq, hr, hs]
  change ((Instr.buildSlice 22 4 #[(0, .int .u64 x), (1, .int .u64 y), (2, .int .u64 z), (3, .int .u64 v)]) >>= fun v => pure (Next.value v)).run Try.prog w = _
  simp only [Sem.run_bind, hr1, Result.andThen_ok, Sem.run_pure]
theorem wpList_build2 (hw : Region.wanted o (yielded ops a.tmps) = true) (p q : Operand) (ho : o.op = .buildSlice 22 2 #[(0, p), (1, q)]) (x y : Int) (hp : a.eval p = .int .u64 x) (hq : a.eval q = .int .u64 y)
    (h : ∀ g w', Rd .u64 w' w'.heap.size (some ⟨g, 0, none⟩) 2 [x, y] → Below w.heap.size w w' → wpList Try.prog ops Q rest (a.put o.dst (.slice (some ⟨g, 0, none⟩) 2 2)) w') : wpList Try.prog ops Q (o :: rest) a w := by
  refine wpList_run_gd hw (.slice (some ⟨w.heap.size, 0, none⟩) 2 2) (w.alloc (.cells #[.int .u64 x, .int .u64 y] 24)) ?_ (h _ _ (rd_alloc w _ .u64 [x, y]) ((Below.refl _ _).alloc (Nat.le_refl _) _))
  have hr1 := run_build_u64_2 x y w
  unfold execOp
  simp only [ho, List.map_toArray, List.map_cons, List.map_nil, hp, hq]
  change ((Instr.buildSlice 22 2 #[(0, .int .u64 x), (1, .int .u64 y)]) >>= fun v => pure (Next.value v)).run Try.prog w = _
  simp only [Sem.run_bind, hr1, Result.andThen_ok, Sem.run_pure]
end
theorem Fx.addS {l : List Fact} {w w' : World} {k : IntKind} {A : Option Addr} {n : Nat} {zs : List Int} (h : Fx l w) (hb : Below w.heap.size w w') (hr : Rd k w' w'.heap.size A n zs) : Fx (.rd k A n zs :: l) w' := ⟨hr, h.below hb⟩
theorem Fx.lit4 {l : List Fact} {w : World} (h : Fx l w) (x y z v : Int) : Fx (.rdb .u64 (w.alloc (.cells #[.int .u64 x, .int .u64 y, .int .u64 z, .int .u64 v] 24)).heap.size (some ⟨w.heap.size, 0, none⟩) 4 [x, y, z, v] :: l) (w.alloc (.cells #[.int .u64 x, .int .u64 y, .int .u64 z, .int .u64 v] 24)) :=
  Fx.addR h ((Below.refl _ _).alloc (Nat.le_refl _) _) (rd_alloc w _ .u64 [x, y, z, v])
section
variable {P : Program} {ops : Array Oper} {rest : List Oper} {o : Oper} {a : Act} {w : World} {Q : Exit → Act → World → Prop}
/-- A cell of a block is stored; what else stays, said as of a whole row. -/
theorem wpList_store_cell_any (hgd : o.guard = none) (ty : TypeId) (x y : Operand) (ho : o.op = .store ty x y) (g off : Nat) (hx : a.eval x = .pointer (some ⟨g, off, none⟩)) (t : TypeId) (cs : Array Value) (hb : Blk w g t cs)
    (v : Value) (hy : a.eval y = v) (hl : off < cs.size) (hz : (P.info? ty).map (·.size) = some 1) (h1 : v.cells = #[v]) (h2 : v.oneCell' = true)
    (h : ∀ w', Hid (Blk w' g t (cs.setIfInBounds off v)) → Hid (w'.heap.size = w.heap.size) → (∀ B, B ≤ g → Below B w w') → (∀ j, j ≠ g → w'.heap[j]? = w.heap[j]?) → wpList P ops Q rest (a.put o.dst undef) w') : wpList P ops Q (o :: rest) a w := by
  refine wpList_plain hgd fun K hK => ?_
  have hrun := run_storeVar_cell (P := P) (w := w) g off ty v (hb.there off 1 (by omega)) hz h1 h2
  unfold Oper.wp execOp
  simp only [ho, hx, hy, Instr.storeAt, Instr.sureAddr, Sem.run_bind, Sem.run_pure, Result.andThen_ok, hrun]
  exact hK _ _ (h _ (hb.set_ off v) (show _ = _ by simp [World.setCell]) (fun B hB => (Only.setCell g off w v).below hB (Nat.le_of_lt (Nat.lt_of_le_of_lt hB hb.lt))) (fun j hj => Below.heap_setCell w ⟨g, off, none⟩ v j hj))
end
theorem intsA_put (k : IntKind) (l : List Int) (j : Nat) (z : Int) : (intsA k l).setIfInBounds j (.int k z) = intsA k (l.set j z) := by
  apply Array.ext'
  simp [intsA, List.map_set]
theorem Fx.own {l : List Fact} {w : World} {k : IntKind} {g n : Nat} {t : TypeId} {zs : List Int} (h : Fx (.blk g t (intsA k zs) :: l) w) (hn : zs.length = n) : Rd k w w.heap.size (some ⟨g, 0, none⟩) n zs := by
  subst hn
  have hb : Blk w g t (intsA k zs) := h.1
  exact ⟨rfl, fun _ => ⟨g, 0, rfl, hb.lt, fun j hj => by rw [hb.cell, Nat.zero_add]; simp [intsA, hj]⟩⟩
theorem Fx.at0 {l : List Fact} {w : World} {k : IntKind} {g : Nat} {t : TypeId} {zs : List Int} (h : Fx (.blk g t (intsA k zs) :: l) w) (j : Nat) (x : Int) (hj : j < zs.length) (hx : zs.getD j 0 = x) : w.cell? ⟨g, j, none⟩ = some (.int k x) := by
  have hb : Blk w g t (intsA k zs) := h.1
  rw [hb.cell, ← hx]
  simp [intsA, hj]
section
variable {P : Program} {f : FuncId} {args : Array Value} {w : World}
theorem calls_val {v v' : Value} (h : Calls P f args w fun e w' => e = .returned v ∧ Below w.heap.size w w') (hv : v = v') : Calls P f args w fun e w' => e = .returned v' ∧ Below w.heap.size w w' := by
  subst hv
  exact h
theorem calls_pure {v v' : Value} (h : Calls P f args w fun e w' => e = .returned v ∧ w = w') (hv : v = v') : Calls P f args w fun e w' => e = .returned v' ∧ w = w' := by
  subst hv
  exact h
end
theorem tup_ub {a b : Int} {p q : Bool} (h : a = b) (h2 : p = q) : Value.tuple #[.int .u64 a, .bool p] = .tuple #[.int .u64 b, .bool q] := by rw [h, h2]
theorem tup_ui {a b c d : Int} (h : a = b) (h2 : c = d) : Value.tuple #[.int .u64 a, .int .i64 c] = .tuple #[.int .u64 b, .int .i64 d] := by rw [h, h2]
theorem tup_ii {a b c d : Int} (h : a = b) (h2 : c = d) : Value.tuple #[.int .i64 a, .int .i64 c] = .tuple #[.int .i64 b, .int .i64 d] := by rw [h, h2]
end Go.Proofs.Ytkgajcifanobnaa

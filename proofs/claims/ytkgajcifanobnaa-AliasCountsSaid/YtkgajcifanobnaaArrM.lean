/-
  Arrays of integers in blocks of their own: boxed, allocated, loaded and stored whole, handed back as a result that lies in memory.
  Conditions: those that each theorem names.
-/
import Derived.Test.YtkgajcifanobnaaCopyA
import Derived.Deep.MidRow
import Derived.Deep.WholeRow
set_option maxRecDepth 100000
namespace Go.Proofs.Ytkgajcifanobnaa
open Go.ChangeShapes Go.WideShapes Go.ChangeAt Go.RowKit

section
variable {P : Program} {w : World} {ops : Array Oper} {rest : List Oper} {o : Oper} {a : Act} {Q : Exit → Act → World → Prop}
/-- A value boxed. -/
theorem wpList_box_ints (hgd : o.guard = none) (ty : TypeId) (x : Operand) (ho : o.op = .box ty x) (k : IntKind) (zs : List Int) (hx : a.eval x = .agg (intsA k zs))
    (h : ∀ w', Hid (BlkI w' w.heap.size ty k zs) → Hid (w'.heap.size = w.heap.size + 1) → Below w.heap.size w w' → wpList P ops Q rest (a.put o.dst (.pointer (some ⟨w.heap.size, 0, none⟩))) w') : wpList P ops Q (o :: rest) a w := by
  refine wpList_plain hgd fun K hK => ?_
  unfold Oper.wp execOp
  simp only [ho, hx, Instr.box, newVar, newRow, Value.cells]
  exact hK _ _ (h _ (BlkI.new w ty k zs) (show _ = _ by simp) ((Below.refl _ _).alloc (Nat.le_refl _) _))
/-- A new array. -/
theorem wpList_alloc_ints (hgd : o.guard = none) (ty : TypeId) (ho : o.op = .alloc ty) (k : IntKind) (zs : List Int) (hz : ∀ W, (zeroValue ty).run P W = .ok (.agg (intsA k zs)) W)
    (h : ∀ w', Hid (BlkI w' w.heap.size ty k zs) → Hid (w'.heap.size = w.heap.size + 1) → Below w.heap.size w w' → wpList P ops Q rest (a.put o.dst (.pointer (some ⟨w.heap.size, 0, none⟩))) w') : wpList P ops Q (o :: rest) a w := by
  refine wpList_plain hgd fun K hK => ?_
  unfold Oper.wp execOp
  simp only [ho, Instr.alloc, Sem.run_bind, hz, Result.andThen_ok, newVar, newRow, Value.cells]
  exact hK _ _ (h _ (BlkI.new w ty k _) (show _ = _ by simp) ((Below.refl _ _).alloc (Nat.le_refl _) _))
theorem blk_range {g : Nat} {t : TypeId} {k : IntKind} {zs : List Int} (h : BlkI w g t k zs) : w.rangeAt g 0 (zs.map (Value.int k)) := Blk.range h
/-- The whole array loaded. -/
theorem wpList_load_ints (hgd : o.guard = none) (ty : TypeId) (x : Operand) (ho : o.op = .load ty x) (g : Nat) (hx : a.eval x = .pointer (some ⟨g, 0, none⟩)) (t : TypeId) (k : IntKind) (zs : List Int) (hb : BlkI w g t k zs)
    (d : TypeDesc) (hu : P.underlying ty = some d) (hd : d.isRow = true) (hi : (P.info? ty).map (·.size) = some zs.length)
    (h : wpList P ops Q rest (a.put o.dst (.agg (intsA k zs))) w) : wpList P ops Q (o :: rest) a w :=
  wpList_load_mid hgd ty x ho g 0 hx (zs.map (Value.int k)) d (blk_range hb) hu hd (by rw [List.length_map]; exact hi) h
/-- The same behind a guard that holds. -/
theorem wpList_load_gd (hw : Region.wanted o (yielded ops a.tmps) = true) (ty : TypeId) (x : Operand) (ho : o.op = .load ty x) (g : Nat) (hx : a.eval x = .pointer (some ⟨g, 0, none⟩)) (t : TypeId) (k : IntKind) (zs : List Int) (hb : BlkI w g t k zs)
    (d : TypeDesc) (hu : P.underlying ty = some d) (hd : d.isRow = true) (hi : (P.info? ty).map (·.size) = some zs.length)
    (h : wpList P ops Q rest (a.put o.dst (.agg (intsA k zs))) w) : wpList P ops Q (o :: rest) a w :=
  wpList_step fun K hK => by
    rw [if_pos hw]
    exact wp_load_mid ty x ho g 0 hx (zs.map (Value.int k)) d (blk_range hb) hu hd (by rw [List.length_map]; exact hi) (hK _ _ h)
/-- The whole array stored. -/
theorem wpList_store_ints (hgd : o.guard = none) (ty : TypeId) (x y : Operand) (ho : o.op = .store ty x y) (g : Nat) (hx : a.eval x = .pointer (some ⟨g, 0, none⟩)) (t : TypeId) (k : IntKind) (zs ys : List Int) (hb : BlkI w g t k zs)
    (hy : a.eval y = .agg (intsA k ys)) (hl : zs.length = ys.length) (hi : (P.info? ty).map (·.size) = some ys.length)
    (h : ∀ w', Hid (BlkI w' g t k ys) → Hid (w'.heap.size = w.heap.size) → (∀ B, B ≤ g → Below B w w') → (∀ j, j ≠ g → w'.heap[j]? = w.heap[j]?) → wpList P ops Q rest (a.put o.dst undef) w') : wpList P ops Q (o :: rest) a w := by
  refine wpList_plain hgd fun K hK => ?_
  have hrun := run_storeVar_row (P := P) w g t ty (intsA k zs) (intsA k ys) hb (by rw [intsA_size]; exact hi) (by rw [intsA_size, intsA_size]; exact hl) (all_oneCell_toArray (ints_one k ys))
  unfold Oper.wp execOp
  simp only [ho, hx, hy, Instr.storeAt, Instr.sureAddr, Sem.run_bind, Sem.run_pure, Result.andThen_ok, hrun]
  exact hK _ _ (h _ (setRow_heap w g _ _ t _ hb) (show _ = _ by simp) (fun B hB => below_setRow (Below.refl _ _) hB _) (fun j hj => setRow_other w g j _ hj))
/-- What is handed back out of memory. -/
theorem bodyPost_cell {fn : Func} {R : Ending → World → Prop} (p : Tmp) (ty : TypeId) (h : fn.results = #[.cell p ty]) (g : Nat) (ht : a.tmps.getD p undef = .pointer (some ⟨g, 0, none⟩)) (t : TypeId) (k : IntKind) (zs : List Int) (hb : BlkI w g t k zs)
    (d : TypeDesc) (hu : P.underlying ty = some d) (hd : d.isRow = true) (hi : (P.info? ty).map (·.size) = some zs.length) (hdf : a.defers = []) (hR : R (.returned (.agg (intsA k zs))) w) : bodyPost P fn R .ret a w := by
  refine bodyPost_ret (v := .agg (intsA k zs)) ?_ hdf hR
  have hl := run_loadVar_mid (P := P) w g 0 ty (zs.map (Value.int k)) d (blk_range hb) hu hd (by rw [List.length_map]; exact hi)
  have ht' : a.tmps[p]?.getD undef = .pointer (some ⟨g, 0, none⟩) := by rw [← ht, Array.getD_eq_getD_getElem?]
  simp only [results, h]
  simp [ht', asAddr, hl, intsA]
end

/-! ### three blocks at a time -/
/-- The blocks g1, g2 and g3 hold these numbers; what lay there when the call came is as it was. -/
def In3 (w : World) (g1 g2 g3 : Nat) (t1 t2 t3 : TypeId) (k1 k2 k3 : IntKind) (l1 l2 l3 : List Int) (w' : World) : Prop :=
  BlkI w' g1 t1 k1 l1 ∧ BlkI w' g2 t2 k2 l2 ∧ BlkI w' g3 t3 k3 l3 ∧ Below w.heap.size w w' ∧ w.heap.size ≤ g3 ∧ g1 ≠ g3 ∧ g2 ≠ g3
section
variable {w w' w'' : World} {g1 g2 g3 : Nat} {t1 t2 t3 : TypeId} {k1 k2 k3 : IntKind} {l1 l2 l3 : List Int}
theorem In3.below (h : In3 w g1 g2 g3 t1 t2 t3 k1 k2 k3 l1 l2 l3 w') (hb : Below w'.heap.size w' w'') : In3 w g1 g2 g3 t1 t2 t3 k1 k2 k3 l1 l2 l3 w'' := by
  obtain ⟨h1, h2, h3, h4, h5, h6, h7⟩ := h
  exact ⟨h1.below hb h1.lt, h2.below hb h2.lt, h3.below hb h3.lt, h4.trans (hb.mono h4.size), h5, h6, h7⟩
theorem In3.set_ (h : In3 w g1 g2 g3 t1 t2 t3 k1 k2 k3 l1 l2 l3 w') (i : Nat) (z : Int) : In3 w g1 g2 g3 t1 t2 t3 k1 k2 k3 l1 l2 (l3.set i z) (w'.setCell ⟨g3, i, none⟩ (.int k3 z)) := by
  obtain ⟨h1, h2, h3, h4, h5, h6, h7⟩ := h
  exact ⟨h1.far h6 _, h2.far h7 _, h3.set_ i z, h4.setCell (p := ⟨g3, i, none⟩) h5 _, h5, h6, h7⟩
theorem In3.drew (h : In3 w g1 g2 g3 t1 t2 t3 k1 k2 k3 l1 l2 l3 w') : In3 w g1 g2 g3 t1 t2 t3 k1 k2 k3 l1 l2 l3 w'.drew := by
  obtain ⟨h1, h2, h3, h4, h5, h6, h7⟩ := h
  exact ⟨h1, h2, h3, h4.drew, h5, h6, h7⟩
theorem In3.fst (h : In3 w g1 g2 g3 t1 t2 t3 k1 k2 k3 l1 l2 l3 w') : BlkI w' g1 t1 k1 l1 := h.1
theorem In3.snd (h : In3 w g1 g2 g3 t1 t2 t3 k1 k2 k3 l1 l2 l3 w') : BlkI w' g2 t2 k2 l2 := h.2.1
theorem In3.trd (h : In3 w g1 g2 g3 t1 t2 t3 k1 k2 k3 l1 l2 l3 w') : BlkI w' g3 t3 k3 l3 := h.2.2.1
theorem In3.bel (h : In3 w g1 g2 g3 t1 t2 t3 k1 k2 k3 l1 l2 l3 w') : Below w.heap.size w w' := h.2.2.2.1
/-- With place i of the third written or not. -/
def In3W (w : World) (g1 g2 g3 : Nat) (t1 t2 t3 : TypeId) (k1 k2 k3 : IntKind) (l1 l2 l3 : List Int) (i : Nat) (w' : World) : Prop := ∃ u, In3 w g1 g2 g3 t1 t2 t3 k1 k2 k3 l1 l2 (l3.set i u) w'
theorem In3.open_ (h : In3 w g1 g2 g3 t1 t2 t3 k1 k2 k3 l1 l2 l3 w') {i : Nat} (hi : i < l3.length) : In3W w g1 g2 g3 t1 t2 t3 k1 k2 k3 l1 l2 l3 i w' := ⟨l3.getD i 0, by
  have e : l3.set i (l3.getD i 0) = l3 := by
    apply List.ext_getElem?
    intro j
    rw [List.getElem?_set]
    by_cases hj : i = j
    · subst hj; simp [hi]
    · simp [hj]
  rw [e]; exact h⟩
theorem In3W.below {i : Nat} (h : In3W w g1 g2 g3 t1 t2 t3 k1 k2 k3 l1 l2 l3 i w') (hb : Below w'.heap.size w' w'') : In3W w g1 g2 g3 t1 t2 t3 k1 k2 k3 l1 l2 l3 i w'' := by
  obtain ⟨u, hu⟩ := h
  exact ⟨u, hu.below hb⟩
theorem In3W.set_ {i : Nat} (h : In3W w g1 g2 g3 t1 t2 t3 k1 k2 k3 l1 l2 l3 i w') (z : Int) : In3 w g1 g2 g3 t1 t2 t3 k1 k2 k3 l1 l2 (l3.set i z) (w'.setCell ⟨g3, i, none⟩ (.int k3 z)) := by
  obtain ⟨u, hu⟩ := h
  have h1 := hu.set_ i z
  rwa [List.set_set] at h1
theorem In3W.again {i : Nat} (h : In3W w g1 g2 g3 t1 t2 t3 k1 k2 k3 l1 l2 l3 i w') (z : Int) : In3W w g1 g2 g3 t1 t2 t3 k1 k2 k3 l1 l2 l3 i (w'.setCell ⟨g3, i, none⟩ (.int k3 z)) := ⟨z, h.set_ z⟩
theorem In3W.cell1 {i j : Nat} (h : In3W w g1 g2 g3 t1 t2 t3 k1 k2 k3 l1 l2 l3 i w') (hj : j < l1.length) : w'.cell? ⟨g1, j, none⟩ = some (.int k1 (l1.getD j 0)) := by
  obtain ⟨u, hu⟩ := h
  exact hu.1.cell hj
theorem In3W.cell3 {i j : Nat} (h : In3W w g1 g2 g3 t1 t2 t3 k1 k2 k3 l1 l2 l3 i w') (hj : j < l3.length) (hij : j ≠ i) : w'.cell? ⟨g3, j, none⟩ = some (.int k3 (l3.getD j 0)) := by
  obtain ⟨u, hu⟩ := h
  have h1 := hu.2.2.1.cell (j := j) (by rw [List.length_set]; exact hj)
  rw [h1]
  congr 2
  simp [List.getD_eq_getElem?_getD, Ne.symm hij]
theorem In3W.at_ {i : Nat} (h : In3W w g1 g2 g3 t1 t2 t3 k1 k2 k3 l1 l2 l3 i w') (hi : i < l3.length) : (∃ u, w'.cell? ⟨g3, i, none⟩ = some (.int k3 u)) ∧ w'.frozen? ⟨g3, i, none⟩ = false := by
  obtain ⟨u, hu⟩ := h
  exact ⟨⟨_, hu.2.2.1.cell (j := i) (by rw [List.length_set]; exact hi)⟩, hu.2.2.1.frozen i⟩
end
end Go.Proofs.Ytkgajcifanobnaa

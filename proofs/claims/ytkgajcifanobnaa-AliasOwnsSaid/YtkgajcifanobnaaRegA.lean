/-
  Steps by hand inside a region that draws its order; cells of a block set one by one; worlds that differ in one block alone.
  Conditions: those that each theorem names.
-/
import Derived.Test.YtkgajcifanobnaaHeldB
set_option maxRecDepth 100000
set_option linter.unusedVariables false
set_option linter.unusedSimpArgs false
namespace Go.Proofs.Ytkgajcifanobnaa
open Go.ChangeShapes Go.WideShapes Go.ChangeAt Go.RowKit
section
variable {P : Program} {ops : Array Oper} {Q : Exit → Act → World → Prop} {md : Region.Mode} {S : World → Prop} {fuel : Nat} {listed : Array Bool} {a : Act} {w : World}
/-- A row is loaded whole: taken first. -/
theorem held_row {oi : Oper} (i : Nat) (d : Option Tmp) (hi : ops[i]? = some oi) (hd : oi.dst = d) (hs : Region.noSelect ops = true) (hf : Region.free md ops listed i = true) (hr : (Region.ready md ops listed).contains i = true)
    (hQ2 : ∀ c a v w, Q (.panic c) (a.put oi.dst v) w → Q (.panic c) a w) (hw : Region.wanted oi (yielded ops a.tmps) = true)
    (ty : TypeId) (x : Operand) (ho : oi.op = .load ty x) (g : Nat) (hx : a.eval x = .pointer (some ⟨g, 0, none⟩)) (t : TypeId) (cs : Array Value) (hS : ∀ w, S w → Blk w g t cs)
    (ds : TypeDesc) (hu : P.underlying ty = some ds) (hdr : ds.isRow = true) (hz : (P.info? ty).map (·.size) = some cs.size) (hSw : S w)
    (h : wpAnyH P md ops Q S fuel (listed.setIfInBounds i true) (a.put d (.agg cs)) w) : wpAnyH P md ops Q S (fuel + 1) listed a w :=
  held_load_mid i hi hs hf hr hQ2 hw ty x ho g 0 hx cs.toList (fun w h => (hS w h).range) ds hu hdr (by rw [Array.length_toList]; exact hz) hSw (by rw [Array.toArray_toList, hd]; exact h)
/-- An operation that is not wanted: taken first. -/
theorem held_not {oi : Oper} (i : Nat) (d : Option Tmp) (hi : ops[i]? = some oi) (hd : oi.dst = d) (hs : Region.noSelect ops = true) (hf : Region.free md ops listed i = true) (hr : (Region.ready md ops listed).contains i = true)
    (hQ2 : ∀ c a v w, Q (.panic c) (a.put oi.dst v) w → Q (.panic c) a w) (hw : Region.wanted oi (yielded ops a.tmps) = false) (hSw : S w)
    (h : wpAnyH P md ops Q S fuel (listed.setIfInBounds i true) (a.put d undef) w) : wpAnyH P md ops Q S (fuel + 1) listed a w :=
  wpAnyH_take hi hs hf hr (fun c a w => hQ2 c a _ w) (.inr ⟨hw, rfl⟩) hSw (by rw [hd]; exact h)
/-- A value that is the same in every world that meets S: taken first. -/
theorem held_v {oi : Oper} (i : Nat) (d : Option Tmp) (hi : ops[i]? = some oi) (hd : oi.dst = d) (hs : Region.noSelect ops = true) (hf : Region.free md ops listed i = true) (hr : (Region.ready md ops listed).contains i = true)
    (hQ2 : ∀ c a v w, Q (.panic c) (a.put oi.dst v) w → Q (.panic c) a w) (hw : Region.wanted oi (yielded ops a.tmps) = true) (v : Value) (hv : ∀ w, S w → (execOp a.eval oi).run P w = .ok (.value v) w) (hSw : S w)
    (h : wpAnyH P md ops Q S fuel (listed.setIfInBounds i true) (a.put d v) w) : wpAnyH P md ops Q S (fuel + 1) listed a w :=
  wpAnyH_take hi hs hf hr (fun c a w => hQ2 c a _ w) (.inl ⟨hw, hv⟩) hSw (by rw [hd]; exact h)
/-- A new row, where it comes up. -/
theorem step_alloc {o : Oper} {K : Act → World → Prop} {E : Prop} (d : Option Tmp) (hd : o.dst = d) (hw : Region.wanted o (yielded ops a.tmps) = true) (ty : TypeId) (ho : o.op = .alloc ty) (cs : Array Value) (hz : ∀ W, (zeroValue ty).run P W = .ok (.agg cs) W)
    (h : ∀ w', Hid (Blk w' w.heap.size ty cs) → Hid (w'.heap.size = w.heap.size + 1) → Below w.heap.size w w' → K (a.put d (.pointer (some ⟨w.heap.size, 0, none⟩))) w') :
    if Region.wanted o (yielded ops a.tmps) = true then Oper.wp P o a w K Q else E := by
  subst hd
  rw [if_pos hw]
  unfold Oper.wp execOp
  simp only [ho, Instr.alloc, Sem.run_bind, hz, Result.andThen_ok, newVar, newRow, Value.cells]
  exact h _ (Blk.new w ty _) (show _ = _ by simp) ((Below.refl _ _).alloc (Nat.le_refl _) _)
/-- A row is stored whole, where it comes up. -/
theorem step_store {o : Oper} {K : Act → World → Prop} {E : Prop} (d : Option Tmp) (hd : o.dst = d) (hw : Region.wanted o (yielded ops a.tmps) = true) (ty : TypeId) (x y : Operand) (ho : o.op = .store ty x y) (g : Nat) (hx : a.eval x = .pointer (some ⟨g, 0, none⟩)) (t : TypeId) (zs ys : Array Value) (hb : Blk w g t zs)
    (hy : a.eval y = .agg ys) (hl : zs.size = ys.size) (hz : (P.info? ty).map (·.size) = some ys.size) (h1 : ys.all (·.oneCell') = true)
    (h : ∀ w', Hid (Blk w' g t ys) → Hid (w'.heap.size = w.heap.size) → (∀ B, B ≤ g → Below B w w') → (∀ j, j ≠ g → w'.heap[j]? = w.heap[j]?) → K (a.put d undef) w') :
    if Region.wanted o (yielded ops a.tmps) = true then Oper.wp P o a w K Q else E := by
  subst hd
  rw [if_pos hw]
  have hrun := run_storeVar_row (P := P) w g t ty zs ys hb hz hl h1
  unfold Oper.wp execOp
  simp only [ho, hx, hy, Instr.storeAt, Instr.sureAddr, Sem.run_bind, Sem.run_pure, Result.andThen_ok, hrun]
  exact h _ (setRow_heap w g _ _ t _ hb) (show _ = _ by simp) (fun B hB => below_setRow (Below.refl _ _) hB _) (fun j hj => setRow_other w g j _ hj)
/-- A call, where it comes up. -/
theorem step_call {o : Oper} {K : Act → World → Prop} {E : Prop} (d : Option Tmp) (hd : o.dst = d) (hw : Region.wanted o (yielded ops a.tmps) = true) (f : FuncId) (vs : Array Value) (he : (execOp a.eval o).run P w = .ok (.enter f vs) w) (R : Ending → World → Prop) (hc : Calls P f vs w R)
    (h : ∀ e w', R e w' → ∃ v, e = .returned v ∧ K (a.put d v) w') : if Region.wanted o (yielded ops a.tmps) = true then Oper.wp P o a w K Q else E := by
  subst hd
  rw [if_pos hw]
  unfold Oper.wp
  rw [he, Oper.upon_enter]
  exact hc.mono fun e w' hr => by
    obtain ⟨v, rfl, hk⟩ := h e w' hr
    exact hk
/-- An operation that is not wanted, where it comes up. -/
theorem step_not {o : Oper} {K : Act → World → Prop} {W : Prop} (d : Option Tmp) (hd : o.dst = d) (hw : Region.wanted o (yielded ops a.tmps) = false) (h : K (a.put d undef) w) : if Region.wanted o (yielded ops a.tmps) = true then W else K (a.put o.dst undef) w := by
  subst hd
  rw [if_neg (by rw [hw]; decide)]
  exact h
end
/-! ### cells set one by one -/
def putAll (cs : Array Value) (o : Nat) : List Value → Array Value
  | [] => cs
  | v :: vs => putAll (cs.setIfInBounds o v) (o + 1) vs
theorem Blk.setCells {g : Nat} {t : TypeId} : ∀ (vs : List Value) (o : Nat) {w : World} {cs : Array Value}, Blk w g t cs → Blk (w.setCells g o vs) g t (putAll cs o vs)
  | [], _, _, _, h => h
  | v :: vs, o, w, cs, h => by
    rw [World.setCells]
    exact Blk.setCells vs (o + 1) (h.set_ o v)
/-- Nothing but the block g has changed; more may have come. -/
structure Only (g : Nat) (w w' : World) : Prop where
  os : w'.os = w.os
  tape : w'.tape = w.tape
  output : w'.output = w.output
  size : w.heap.size ≤ w'.heap.size
  block : ∀ j, j < w.heap.size → j ≠ g → w'.heap[j]? = w.heap[j]?
theorem Only.refl (g : Nat) (w : World) : Only g w w := ⟨rfl, rfl, rfl, Nat.le_refl _, fun _ _ _ => rfl⟩
theorem Only.trans {g : Nat} {a b c : World} (h : Only g a b) (h' : Only g b c) : Only g a c :=
  ⟨h'.os.trans h.os, h'.tape.trans h.tape, h'.output.trans h.output, Nat.le_trans h.size h'.size, fun j hj hne => (h'.block j (Nat.lt_of_lt_of_le hj h.size) hne).trans (h.block j hj hne)⟩
theorem Only.of_below {g : Nat} {w w' : World} (h : Below w.heap.size w w') : Only g w w' := ⟨h.os, h.tape, h.output, h.size, fun j hj _ => h.block j hj⟩
theorem Only.below {g B : Nat} {w w' : World} (h : Only g w w') (hg : B ≤ g) (hB : B ≤ w.heap.size) : Below B w w' := ⟨h.os, h.tape, h.output, h.size, fun j hj => h.block j (by omega) (by omega)⟩
theorem Only.drew {g : Nat} {w w' : World} (h : Only g w w') : Only g w w'.drew := ⟨h.os, h.tape, h.output, h.size, h.block⟩
theorem Only.of_drew {g : Nat} {w w' : World} (h : Only g w.drew w') : Only g w w' := ⟨h.os, h.tape, h.output, h.size, h.block⟩
theorem Only.setCell (g o : Nat) (w : World) (v : Value) : Only g w (w.setCell ⟨g, o, none⟩ v) :=
  ⟨rfl, rfl, rfl, by simp [World.setCell], fun j _ hne => Below.heap_setCell w ⟨g, o, none⟩ v j hne⟩
theorem Only.setCells (g : Nat) : ∀ (vs : List Value) (o : Nat) (w : World), Only g w (w.setCells g o vs)
  | [], _, w => Only.refl g w
  | v :: vs, o, w => by
    rw [World.setCells]
    exact (Only.setCell g o w v).trans (Only.setCells g vs (o + 1) _)
theorem Blk.there {w : World} {g : Nat} {t : TypeId} {cs : Array Value} (h : Blk w g t cs) (o n : Nat) (hn : o + n ≤ cs.size) : w.there g o n := fun j hj => ⟨by
  rw [h.cell, Array.getElem?_eq_getElem (by omega)]; rfl, h.frozen _⟩
theorem Blk.only {w w' : World} {g r : Nat} {t : TypeId} {cs : Array Value} (h : Blk w r t cs) (ho : Only g w w') (hne : r ≠ g) : Blk w' r t cs := (ho.block r h.lt hne).trans h
/-- A row of the call's own lies apart from a block of other things. -/
theorem OwnI.only {w w' : World} {base g : Nat} {e t : TypeId} {k : IntKind} {v : Value} {zs : List Int} {cs : Array Value} (h : OwnI w base e k v zs) (hb : Blk w g t cs) (hne : e ≠ t) (ho : Only g w w') : OwnI w' base e k v zs := by
  refine ⟨h.1, ?_⟩
  rcases h.2 with h1 | ⟨g', cap, cur, h1, h2, h3, h4⟩
  · exact .inl h1
  · have hlt : g' < w.heap.size := by
      rcases Nat.lt_or_ge g' w.heap.size with h5 | h5
      · exact h5
      · rw [Array.getElem?_eq_none h5] at h3; cases h3
    have hg : g' ≠ g := by
      rintro rfl
      unfold Blk at hb
      rw [h3] at hb
      injection hb with hb
      injection hb with _ h5
      exact hne h5
    exact .inr ⟨g', cap, cur, h1, h2, (ho.block g' hlt hg).trans h3, h4⟩
/-- A part of a block that is not of the same kind, read as numbers, stays. -/
theorem RdA.only {w w' : World} {k : IntKind} {s n g : Nat} {A : Option Addr} {bs : List (List Int)} (h : RdA k s w g A n bs) (hg : g ≤ w.heap.size) (ho : Only g w w') : RdA k s w' g A n bs := h.below (ho.below (Nat.le_refl _) hg)
section
variable {P : Program} {w w' : World} {ops : Array Oper} {rest : List Oper} {o : Oper} {a : Act} {Q : Exit → Act → World → Prop}
/-- A part of a block is stored, where it comes up. -/
theorem step_store_at {K : Act → World → Prop} {E : Prop} (d : Option Tmp) (hd : o.dst = d) (hw : Region.wanted o (yielded ops a.tmps) = true) (ty : TypeId) (x y : Operand) (ho : o.op = .store ty x y) (g : Nat) (hx : a.eval x = .pointer (some ⟨g, 0, none⟩)) (t : TypeId) (cs ys : Array Value) (hb : Blk w g t cs)
    (hy : a.eval y = .agg ys) (hl : ys.size ≤ cs.size) (hz : (P.info? ty).map (·.size) = some ys.size) (h1 : ys.all (·.oneCell') = true)
    (h : ∀ w', Hid (Blk w' g t (putAll cs 0 ys.toList)) → Only g w w' → K (a.put d undef) w') :
    if Region.wanted o (yielded ops a.tmps) = true then Oper.wp P o a w K Q else E := by
  subst hd
  rw [if_pos hw]
  exact wp_store_mid ty x y ho g 0 ys hx hy (hb.there 0 ys.size (by omega)) hz h1 (h _ (Blk.setCells _ _ hb) (Only.setCells g _ _ _))
/-- A row is loaded, wherever it lies, where it comes up. -/
theorem step_load_at {K : Act → World → Prop} {E : Prop} (d : Option Tmp) (hd : o.dst = d) (hw : Region.wanted o (yielded ops a.tmps) = true) (ty : TypeId) (x : Operand) (ho : o.op = .load ty x) (g off : Nat) (hx : a.eval x = .pointer (some ⟨g, off, none⟩)) (cs : List Value) (hb : w.rangeAt g off cs)
    (ds : TypeDesc) (hu : P.underlying ty = some ds) (hdr : ds.isRow = true) (hz : (P.info? ty).map (·.size) = some cs.length) (h : K (a.put d (.agg cs.toArray)) w) :
    if Region.wanted o (yielded ops a.tmps) = true then Oper.wp P o a w K Q else E := by
  subst hd
  rw [if_pos hw]
  exact wp_load_mid ty x ho g off hx cs ds hb hu hdr hz h
/-- A cell is loaded, where it comes up. -/
theorem step_v {K : Act → World → Prop} {E : Prop} (d : Option Tmp) (hd : o.dst = d) (hw : Region.wanted o (yielded ops a.tmps) = true) (v : Value) (hv : (execOp a.eval o).run P w = .ok (.value v) w) (h : K (a.put d v) w) :
    if Region.wanted o (yielded ops a.tmps) = true then Oper.wp P o a w K Q else E := by
  subst hd
  rw [if_pos hw]
  unfold Oper.wp
  simp only [hv]
  exact h
theorem run_storeVar_cell (b off : Nat) (ty : TypeId) (v : Value) (ht : w.there b off 1) (hi : (P.info? ty).map (·.size) = some 1) (h1 : v.cells = #[v]) (h2 : v.oneCell' = true) : (storeVar ty ⟨b, off, none⟩ v).run P w = .ok () (w.setCell ⟨b, off, none⟩ v) := by
  have := run_storeCells_cells (P := P) b off [v] 0 w (fun j hj => by simpa using (ht j (by simpa using hj)).1) (fun j hj => by simpa using (ht j (by simpa using hj)).2)
    (fun u hu => by rw [List.mem_singleton.1 hu]; exact h2)
  cases hq : P.info? ty with
  | none => simp [hq] at hi
  | some i =>
    have hs : i.size = 1 := by simpa [hq] using hi
    simp only [Nat.add_zero, World.setCells] at this
    simp [storeVar, sizeOf, typeInfo, hq, h1, hs, this]
/-- One cell of a block is stored, where it comes up. -/
theorem step_store_cell {K : Act → World → Prop} {E : Prop} (d : Option Tmp) (hd : o.dst = d) (hw : Region.wanted o (yielded ops a.tmps) = true) (ty : TypeId) (x y : Operand) (ho : o.op = .store ty x y) (g off : Nat) (hx : a.eval x = .pointer (some ⟨g, off, none⟩)) (t : TypeId) (cs : Array Value) (hb : Blk w g t cs)
    (v : Value) (hy : a.eval y = v) (hl : off < cs.size) (hz : (P.info? ty).map (·.size) = some 1) (h1 : v.cells = #[v]) (h2 : v.oneCell' = true)
    (h : ∀ w', Hid (Blk w' g t (cs.setIfInBounds off v)) → Only g w w' → K (a.put d undef) w') :
    if Region.wanted o (yielded ops a.tmps) = true then Oper.wp P o a w K Q else E := by
  subst hd
  rw [if_pos hw]
  have hrun := run_storeVar_cell (P := P) (w := w) g off ty v (hb.there off 1 (by omega)) hz h1 h2
  unfold Oper.wp execOp
  simp only [ho, hx, hy, Instr.storeAt, Instr.sureAddr, Sem.run_bind, Sem.run_pure, Result.andThen_ok, hrun]
  exact h _ (hb.set_ off v) (Only.setCell g off w v)
/-- The same, in a plain region. -/
theorem wpList_store_cell (hgd : o.guard = none) (ty : TypeId) (x y : Operand) (ho : o.op = .store ty x y) (g off : Nat) (hx : a.eval x = .pointer (some ⟨g, off, none⟩)) (t : TypeId) (cs : Array Value) (hb : Blk w g t cs)
    (v : Value) (hy : a.eval y = v) (hl : off < cs.size) (hz : (P.info? ty).map (·.size) = some 1) (h1 : v.cells = #[v]) (h2 : v.oneCell' = true)
    (h : ∀ w', Hid (Blk w' g t (cs.setIfInBounds off v)) → Only g w w' → wpList P ops Q rest (a.put o.dst undef) w') : wpList P ops Q (o :: rest) a w := by
  refine wpList_plain hgd fun K hK => ?_
  have hrun := run_storeVar_cell (P := P) (w := w) g off ty v (hb.there off 1 (by omega)) hz h1 h2
  unfold Oper.wp execOp
  simp only [ho, hx, hy, Instr.storeAt, Instr.sureAddr, Sem.run_bind, Sem.run_pure, Result.andThen_ok, hrun]
  exact hK _ _ (h _ (hb.set_ off v) (Only.setCell g off w v))
end
/-! ### rows of the call's own, out of blocks that are known whole -/
theorem OwnI.of_blk {w : World} {g base c : Nat} {e : TypeId} {k : IntKind} {zs cs : List Int} (h : BlkI w g e k cs) (hb : base ≤ g) (hn : zs.length ≤ c) (hc : c ≤ maxLen) (hs : cs.length = c) (hp : cs.take zs.length = zs) : OwnI w base e k (.slice (some ⟨g, 0, none⟩) zs.length c) zs :=
  ⟨by simp, .inr ⟨g, c, intsA k cs, rfl, hb, h, hn, hc, by rw [intsA_size, hs]; simp, by simp [intsA, ← List.map_take, hp]⟩⟩
theorem OwnI.zero {w : World} {base n c : Nat} {e : TypeId} {k : IntKind} {A : Option Addr} {zs : List Int} (h : OwnI w base e k (.slice A n c) zs) (hn : 0 < zs.length) : OwnI w base e k (.slice A 0 c) [] := by
  rcases h.2 with ⟨h1, h2⟩ | ⟨g, cap, cur, h1, h2, h3, h4, h5, h6, h7⟩
  · omega
  · injection h1 with e1 e2 e3
    subst e1 e3
    exact ⟨rfl, .inr ⟨g, c, cur, rfl, h2, h3, Nat.zero_le _, h5, h6, by simp⟩⟩
theorem run_make_cap {P : Program} (t e : TypeId) (i : TypeInfo) (k : IntKind) (ht : P.underlying t = some (.slice e)) (hi : P.info? e = some i) (hz : i.zero = some (.int k 0)) (hs : i.size = 1) (hby : i.bytes = 1) (n m : Nat) (hnm : n ≤ m) (hm : m ≤ 1000000) (w : World) :
    (Instr.makeSlice t (.int .i64 (n : Int)) (.int .i64 (m : Int))).run P w = .ok (.slice (some ⟨w.heap.size, 0, none⟩) n m) (w.alloc (.cells (intsA k (List.replicate m 0)) e)) := by
  have hr := run_make (P := P) w t e i _ ht hi hz .i64 .i64 n m (by omega) (by omega) (by rw [hby]; omega) (by omega)
  simp only [Int.toNat_natCast, hs, Nat.mul_one] at hr
  rw [hr, show madeCells (Value.int k 0).cells m = intsA k (List.replicate m 0) from ?_]
  have h1 := madeCells_same (.int k 0) 1 m (by omega)
  simpa [intsA, Value.cells] using h1
section
variable {P : Program} {ops : Array Oper} {Q : Exit → Act → World → Prop} {md : Region.Mode} {S : World → Prop} {fuel : Nat} {listed : Array Bool} {a : Act} {w : World}
/-- A row is loaded, wherever it lies: taken first. -/
theorem held_load_at {oi : Oper} (i : Nat) (d : Option Tmp) (hi : ops[i]? = some oi) (hd : oi.dst = d) (hs : Region.noSelect ops = true) (hf : Region.free md ops listed i = true) (hr : (Region.ready md ops listed).contains i = true)
    (hQ2 : ∀ c a v w, Q (.panic c) (a.put oi.dst v) w → Q (.panic c) a w) (hw : Region.wanted oi (yielded ops a.tmps) = true)
    (ty : TypeId) (x : Operand) (ho : oi.op = .load ty x) (g off : Nat) (hx : a.eval x = .pointer (some ⟨g, off, none⟩)) (cs : List Value) (hS : ∀ w, S w → w.rangeAt g off cs)
    (ds : TypeDesc) (hu : P.underlying ty = some ds) (hdr : ds.isRow = true) (hz : (P.info? ty).map (·.size) = some cs.length) (hSw : S w)
    (h : wpAnyH P md ops Q S fuel (listed.setIfInBounds i true) (a.put d (.agg cs.toArray)) w) : wpAnyH P md ops Q S (fuel + 1) listed a w :=
  held_load_mid i hi hs hf hr hQ2 hw ty x ho g off hx cs hS ds hu hdr hz hSw (by rw [hd]; exact h)
end
theorem step_append_d {P : Program} (w : World) {ops : Array Oper} {o : Oper} {a : Act} {K : Act → World → Prop} {Q : Exit → Act → World → Prop} {E : Prop} (d : Option Tmp) (hd : o.dst = d) (hgd : o.guard = none) (s x : Operand) (t : TypeId)
    (ho : o.op = .call { callee := .builtin .append, args := #[s, x], argTypes := #[t, t] })
    (base : Nat) (e : TypeId) (i : TypeInfo) (z : Value) (bytes : Nat) (k : IntKind) (ht : P.underlying t = some (.slice e)) (hi : P.info? e = some i) (hz : i.zero = some z)
    (hsize : i.size = 1) (hby : i.bytes = bytes) (hzs : z.cells.size = 1) (v : Value) (zs : List Int) (hs : a.eval s = v) (hown : OwnI w base e k v zs)
    (B : Nat) (A : Option Addr) (m c : Nat) (ys : List Int) (hx : a.eval x = .slice A m c) (hr : Rd k w B A m ys)
    (h63 : zs.length + m ≤ maxLen) (hbytes : (zs.length + m) * bytes ≤ 140737488355328) (hbase : base ≤ w.heap.size)
    (h : ∀ v' w', OwnI w' base e k v' (zs ++ ys) → w.grownBy w' v.ownBlock → (v'.ownBlock = v.ownBlock ∨ v'.ownBlock = some w.heap.size) → K (a.put d v') w') :
    if Region.wanted o (yielded ops a.tmps) = true then Oper.wp P o a w K Q else E := by
  subst hd
  exact step_append_ints w hgd s x t ho base e i z bytes k ht hi hz hsize hby hzs v zs hs hown B A m c ys hx hr h63 hbytes hbase h
section
variable {P : Program} {ops : Array Oper} {Q : Exit → Act → World → Prop} {md : Region.Mode} {S : World → Prop} {fuel : Nat} {listed : Array Bool} {a : Act} {w : World}
/-- What comes behind the region is kept under a letter meanwhile. -/
theorem wpAnyH_letter (L : Array Bool) (hL : listed = L) (hQ : ∀ c a d v w, Q (.panic c) (Act.put a d v) w → Q (.panic c) a w)
    (h : ∀ Q' : Exit → Act → World → Prop, Hid (∀ a w, Q .normal a w → Q' .normal a w) → Hid (∀ c a d v w, Q' (.panic c) (Act.put a d v) w → Q' (.panic c) a w) → wpAnyH P md ops Q' S fuel L a w) : wpAnyH P md ops Q S fuel listed a w := by
  subst hL
  exact h Q (fun _ _ h => h) hQ
end
/-- A cell of a row of the call's own is stored. -/
theorem OwnI.put {w w' : World} {base g c n j : Nat} {e : TypeId} {k : IntKind} {z : Int} {zs : List Int} {cur : Array Value} (h : OwnI w base e k (.slice (some ⟨g, 0, none⟩) n c) zs) (hb : Blk w g e cur) (hj : j < zs.length) (hk : Blk w' g e (cur.setIfInBounds j (.int k z))) : OwnI w' base e k (.slice (some ⟨g, 0, none⟩) n c) (zs.set j z) := by
  refine ⟨by simp, ?_⟩
  rcases h.2 with ⟨h1, _⟩ | ⟨g', cap, cur', h1, h2, h3, h4, h5, h6, h7⟩
  · cases h1
  · injection h1 with e1 e2 e3
    injection e1 with e1
    injection e1 with e1 e4
    subst e1 e2 e3
    unfold Blk at hb
    rw [h3] at hb
    injection hb with hb
    injection hb with hb _
    subst hb
    refine .inr ⟨g, c, _, by rw [List.length_set], h2, hk, by rw [List.length_set]; exact h4, h5, by rw [Array.size_setIfInBounds]; exact h6, ?_⟩
    rw [Nat.mul_one] at h7 ⊢
    rw [Array.toList_setIfInBounds, List.length_set, List.take_set, h7, List.map_set]
/-- Its block, known whole. -/
theorem OwnI.whole {w : World} {base n c : Nat} {e : TypeId} {k : IntKind} {A : Option Addr} {zs : List Int} (h : OwnI w base e k (.slice A n c) zs) (hn : 0 < zs.length) : ∃ g cur, A = some ⟨g, 0, none⟩ ∧ base ≤ g ∧ Blk w g e cur ∧ zs.length ≤ cur.size ∧ ∀ j, j < zs.length → cur[j]? = some (.int k (zs.getD j 0)) := by
  rcases h.2 with ⟨h1, h2⟩ | ⟨g, cap, cur, h1, h2, h3, h4, h5, h6, h7⟩
  · omega
  · injection h1 with e1 e2 e3
    rw [Nat.mul_one] at h7
    refine ⟨g, cur, e1, h2, h3, by rw [h6]; omega, fun j hj => ?_⟩
    have h8 : (cur.toList.take zs.length)[j]? = (zs.map (Value.int k))[j]? := by rw [h7]
    rw [List.getElem?_take, if_pos hj, List.getElem?_map, List.getElem?_eq_getElem hj] at h8
    rw [← Array.getElem?_toList, h8, List.getD_eq_getElem?_getD, List.getElem?_eq_getElem hj]
    rfl
end Go.Proofs.Ytkgajcifanobnaa

/-
  What is known of memory, as a list: blocks known whole, slices that read as lists, rows of slices; it stays while calls leave old memory as it was. Steps by hand inside a region that draws its order.
  Conditions: those that each theorem names.
-/
import Derived.Test.YtdnjnbeoioicfaaDoorHeldB
import Derived.Test.YtdnjnbeoioicfaaDoorRefF
set_option linter.unusedVariables false
set_option linter.unusedSimpArgs false
namespace Go.Proofs.YtdnjnbeoioicfaaDoor
open Go.ChangeShapes Go.WideShapes Go.ChangeAt Go.RowKit
inductive Fact where
  | blk (g : Nat) (t : TypeId) (cs : Array Value)
  | rd (k : IntKind) (A : Option Addr) (n : Nat) (zs : List Int)
  | rows (A : Option Addr) (n : Nat) (rs : List Row)
  | bel (w : World)
def Fact.on : Fact → World → Prop
  | .blk g t cs, w => Blk w g t cs
  | .rd k A n zs, w => Rd k w w.heap.size A n zs
  | .rows A n rs, w => RdRows w w.heap.size A n rs
  | .bel w0, w => Below w0.heap.size w0 w
def Fx : List Fact → World → Prop
  | [], _ => True
  | f :: l, w => f.on w ∧ Fx l w
theorem RdRows.monoB {w : World} {B B' n : Nat} {A : Option Addr} {rs : List Row} (h : RdRows w B A n rs) (hB : B ≤ B') : RdRows w B' A n rs :=
  ⟨h.1, fun hn => by
    obtain ⟨b, off, e, hlt, hc⟩ := h.2.1 hn
    exact ⟨b, off, e, by omega, hc⟩, fun r hr => ⟨(h.2.2 r hr).1.mono hB, (h.2.2 r hr).2⟩⟩
theorem Fact.below {f : Fact} {w w' : World} (h : f.on w) (hb : Below w.heap.size w w') : f.on w' := by
  cases f with
  | blk g t cs => exact Blk.below h hb (Blk.lt h)
  | rd k A n zs => exact (Rd.below h hb).fit
  | rows A n rs => exact (RdRows.below h hb).monoB hb.size
  | bel w0 => exact Below.trans h (hb.mono (Below.size h))
theorem Fx.below {l : List Fact} {w w' : World} (h : Fx l w) (hb : Below w.heap.size w w') : Fx l w' := by
  induction l with
  | nil => exact trivial
  | cons f l ih => exact ⟨Fact.below h.1 hb, ih h.2⟩
theorem Fx.drew {l : List Fact} {w : World} (h : Fx l w) : Fx l w.drew := h.below (Below.refl _ _).drew
theorem Fx.alloc {l : List Fact} {w : World} (h : Fx l w) (o : Obj) : Fx l (w.alloc o) := h.below ((Below.refl _ _).alloc (Nat.le_refl _) o)
theorem Fx.app {l l' : List Fact} {w : World} (h : Fx l w) (h' : Fx l' w) : Fx (l ++ l') w := by
  induction l with
  | nil => exact h'
  | cons f l ih => exact ⟨h.1, ih h.2⟩
/-- No integer of this kind among the cells. -/
def NoInt (k : IntKind) (cs : Array Value) : Prop := ∀ (j : Nat) (z : Int), cs[j]? ≠ some (.int k z)
/-- A slice of integers lies apart from a block that holds none of their kind. -/
theorem Rd.apartB {k : IntKind} {w w' : World} {A : Option Addr} {n g : Nat} {t : TypeId} {cs : Array Value} {zs : List Int} (h : Rd k w w.heap.size A n zs) (hb : Blk w g t cs) (hno : NoInt k cs) (hs : w.heap.size ≤ w'.heap.size) (ho : ∀ j, j ≠ g → w'.heap[j]? = w.heap[j]?) : Rd k w' w'.heap.size A n zs := by
  refine ⟨h.1, fun hn => ?_⟩
  obtain ⟨b, off, e, hlt, hc⟩ := h.2 hn
  have hne : b ≠ g := by
    rintro rfl
    have h0 := hc 0 hn
    rw [hb.cell] at h0
    exact hno _ _ h0
  refine ⟨b, off, e, by omega, fun j hj => ?_⟩
  rw [World.cell?_of_block (w := w) (w' := w') (a := ⟨b, off + j, none⟩) (ho b hne)]
  exact hc j hj
/-- What is known lies apart from the block g, whose cells are cs. -/
def Fact.off (g : Nat) (cs : Array Value) : Fact → Prop
  | .blk g' _ _ => g' ≠ g
  | .rd k _ _ _ => NoInt k cs
  | .rows _ n _ => n = 0
  | .bel w0 => w0.heap.size ≤ g
def Fx.off (g : Nat) (cs : Array Value) : List Fact → Prop
  | [] => True
  | f :: l => f.off g cs ∧ Fx.off g cs l
theorem Fx.store {l : List Fact} {w w' : World} {g : Nat} {t : TypeId} {cs : Array Value} (h : Fx l w) (hk : Blk w g t cs) (ha : Fx.off g cs l) (hs : w'.heap.size = w.heap.size) (hb : ∀ B, B ≤ g → Below B w w') (ho : ∀ j, j ≠ g → w'.heap[j]? = w.heap[j]?) : Fx l w' := by
  induction l with
  | nil => exact trivial
  | cons f l ih =>
    refine ⟨?_, ih h.2 ha.2⟩
    have h1 := h.1
    have h2 := ha.1
    cases f with
    | blk g' t' cs' => exact Blk.other h1 ho h2
    | rd k A n zs => exact Rd.apartB h1 hk h2 (by omega) ho
    | rows A n rs =>
      have h3 : n = 0 := h2
      subst h3
      have h4 : rs.length = 0 := h1.1
      exact ⟨h4, fun hn => absurd hn (by omega), fun r hr => by rw [List.eq_nil_of_length_eq_zero h4] at hr; cases hr⟩
    | bel w0 => exact Below.trans h1 (hb _ h2)
section
variable {P : Program} {ops : Array Oper} {Q : Exit → Act → World → Prop} {md : Region.Mode} {S : World → Prop} {fuel : Nat} {listed : Array Bool} {a : Act} {w : World}
/-- A row is loaded whole: taken first. -/
theorem held_row {oi : Oper} (i : Nat) (d : Option Tmp) (hi : ops[i]? = some oi) (hd : oi.dst = d) (hs : Region.noSelect ops = true) (hf : Region.free md ops listed i = true) (hr : (Region.ready md ops listed).contains i = true)
    (hQ2 : ∀ c a v w, Q (.panic c) (a.put oi.dst v) w → Q (.panic c) a w) (hw : Region.wanted oi (yielded ops a.tmps) = true)
    (ty : TypeId) (x : Operand) (ho : oi.op = .load ty x) (g : Nat) (hx : a.eval x = .pointer (some ⟨g, 0, none⟩)) (t : TypeId) (cs : Array Value) (hS : ∀ w, S w → Blk w g t cs)
    (ds : TypeDesc) (hu : P.underlying ty = some ds) (hdr : ds.isRow = true) (hz : (P.info? ty).map (·.size) = some cs.size) (hSw : S w)
    (h : wpAnyH P md ops Q S fuel (listed.setIfInBounds i true) (a.put d (.agg cs)) w) : wpAnyH P md ops Q S (fuel + 1) listed a w :=
  held_load_mid i hi hs hf hr hQ2 hw ty x ho g 0 hx cs.toList (fun w h => (hS w h).range) ds hu hdr (by rw [Array.length_toList]; exact hz) hSw (by rw [Array.toArray_toList, hd]; exact h)
/-- An operation that is not wanted: taken first. -/
theorem held_not {oi : Oper} (i : Nat) (d : Option Tmp) (hi : ops[i]? = some oi) (hd : oi.dst = d) (hs : Region.noSelect ops = true) (hf : Region.free md ops listed i = true) (hr : (Region.ready md ops listed).contains i = true)
    (hQ2 : ∀ c a v w, Q (.panic c) (a.put oi.dst v) w → Q (.panic c) a w) (hw : Region.wanted oi (yielded ops a.tmps) = false) (hSw : S w)
    (h : wpAnyH P md ops Q S fuel (listed.setIfInBounds i true) (a.put d undef) w) : wpAnyH P md ops Q S (fuel + 1) listed a w :=
  wpAnyH_take hi hs hf hr (fun c a w => hQ2 c a _ w) (.inr ⟨hw, rfl⟩) hSw (by rw [hd]; exact h)
/-- A value that is the same in every world that meets S: taken first. -/
theorem held_v {oi : Oper} (i : Nat) (d : Option Tmp) (hi : ops[i]? = some oi) (hd : oi.dst = d) (hs : Region.noSelect ops = true) (hf : Region.free md ops listed i = true) (hr : (Region.ready md ops listed).contains i = true)
    (hQ2 : ∀ c a v w, Q (.panic c) (a.put oi.dst v) w → Q (.panic c) a w) (hw : Region.wanted oi (yielded ops a.tmps) = true) (v : Value) (hv : ∀ w, S w → (execOp a.eval oi).run P w = .ok (.value v) w) (hSw : S w)
    (h : wpAnyH P md ops Q S fuel (listed.setIfInBounds i true) (a.put d v) w) : wpAnyH P md ops Q S (fuel + 1) listed a w :=
  wpAnyH_take hi hs hf hr (fun c a w => hQ2 c a _ w) (.inl ⟨hw, hv⟩) hSw (by rw [hd]; exact h)
/-- A new row, where it comes up. -/
theorem step_alloc {o : Oper} {K : Act → World → Prop} {E : Prop} (d : Option Tmp) (hd : o.dst = d) (hw : Region.wanted o (yielded ops a.tmps) = true) (ty : TypeId) (ho : o.op = .alloc ty) (cs : Array Value) (hz : ∀ W, (zeroValue ty).run P W = .ok (.agg cs) W)
    (h : ∀ w', Hid (Blk w' w.heap.size ty cs) → Hid (w'.heap.size = w.heap.size + 1) → Below w.heap.size w w' → K (a.put d (.pointer (some ⟨w.heap.size, 0, none⟩))) w') :
    if Region.wanted o (yielded ops a.tmps) = true then Oper.wp P o a w K Q else E := by
  subst hd
  rw [if_pos hw]
  unfold Oper.wp execOp
  simp only [ho, Instr.alloc, Sem.run_bind, hz, Result.andThen_ok, newVar, newRow, Value.cells]
  exact h _ (Blk.new w ty _) (show _ = _ by simp) ((Below.refl _ _).alloc (Nat.le_refl _) _)
/-- A row is stored whole, where it comes up. -/
theorem step_store {o : Oper} {K : Act → World → Prop} {E : Prop} (d : Option Tmp) (hd : o.dst = d) (hw : Region.wanted o (yielded ops a.tmps) = true) (ty : TypeId) (x y : Operand) (ho : o.op = .store ty x y) (g : Nat) (hx : a.eval x = .pointer (some ⟨g, 0, none⟩)) (t : TypeId) (zs ys : Array Value) (hb : Blk w g t zs)
    (hy : a.eval y = .agg ys) (hl : zs.size = ys.size) (hz : (P.info? ty).map (·.size) = some ys.size) (h1 : ys.all (·.oneCell') = true)
    (h : ∀ w', Hid (Blk w' g t ys) → Hid (w'.heap.size = w.heap.size) → (∀ B, B ≤ g → Below B w w') → (∀ j, j ≠ g → w'.heap[j]? = w.heap[j]?) → K (a.put d undef) w') :
    if Region.wanted o (yielded ops a.tmps) = true then Oper.wp P o a w K Q else E := by
  subst hd
  rw [if_pos hw]
  have hrun := run_storeVar_row (P := P) w g t ty zs ys hb hz hl h1
  unfold Oper.wp execOp
  simp only [ho, hx, hy, Instr.storeAt, Instr.sureAddr, Sem.run_bind, Sem.run_pure, Result.andThen_ok, hrun]
  exact h _ (setRow_heap w g _ _ t _ hb) (show _ = _ by simp) (fun B hB => below_setRow (Below.refl _ _) hB _) (fun j hj => setRow_other w g j _ hj)
/-- A call, where it comes up. -/
theorem step_call {o : Oper} {K : Act → World → Prop} {E : Prop} (d : Option Tmp) (hd : o.dst = d) (hw : Region.wanted o (yielded ops a.tmps) = true) (f : FuncId) (vs : Array Value) (he : (execOp a.eval o).run P w = .ok (.enter f vs) w) (R : Ending → World → Prop) (hc : Calls P f vs w R)
    (h : ∀ e w', R e w' → ∃ v, e = .returned v ∧ K (a.put d v) w') : if Region.wanted o (yielded ops a.tmps) = true then Oper.wp P o a w K Q else E := by
  subst hd
  rw [if_pos hw]
  unfold Oper.wp
  rw [he, Oper.upon_enter]
  exact hc.mono fun e w' hr => by
    obtain ⟨v, rfl, hk⟩ := h e w' hr
    exact hk
/-- An operation that is not wanted, where it comes up. -/
theorem step_not {o : Oper} {K : Act → World → Prop} {W : Prop} (d : Option Tmp) (hd : o.dst = d) (hw : Region.wanted o (yielded ops a.tmps) = false) (h : K (a.put d undef) w) : if Region.wanted o (yielded ops a.tmps) = true then W else K (a.put o.dst undef) w := by
  subst hd
  rw [if_neg (by rw [hw]; decide)]
  exact h
end
end Go.Proofs.YtdnjnbeoioicfaaDoor

/-
  Facts of memory kept where a row of the call's own grows; rows of three slices; an operation taken where it comes up.
  Conditions: those that each theorem names.
-/
import Derived.Test.YtdnjnbeoioicfaaDoorFact
import Derived.Test.YtdnjnbeoioicfaaDoorShaM
set_option linter.unusedVariables false
set_option linter.unusedSimpArgs false
namespace Go.Proofs.YtdnjnbeoioicfaaDoor
open Go.ChangeShapes Go.WideShapes Go.ChangeAt Go.RowKit
/-- Kept where a row of elements e grows that lies at base or above. -/
def Fact.free (e : TypeId) (base : Nat) : Fact → Prop
  | .blk _ t _ => e ≠ t
  | .bel w0 => w0.heap.size = base
  | _ => False
def Fx.free (e : TypeId) (base : Nat) : List Fact → Prop
  | [] => True
  | f :: l => f.free e base ∧ Fx.free e base l
theorem Fx.grown {l : List Fact} {w w' : World} {base : Nat} {e : TypeId} {k : IntKind} {v : Value} {zs : List Int} (h : Fx l w) (ho : OwnI w base e k v zs) (hf : Fx.free e base l) (hbase : base ≤ w.heap.size) (hg : w.grownBy w' v.ownBlock) : Fx l w' := by
  induction l with
  | nil => exact trivial
  | cons f l ih =>
    refine ⟨?_, ih h.2 hf.2⟩
    have h1 := h.1
    have h2 := hf.1
    cases f with
    | blk g t cs => exact Blk.grown h1 ho h2 hg
    | rd k A n zs => exact h2.elim
    | rows A n rs => exact h2.elim
    | bel w0 =>
      have h3 : w0.heap.size = base := h2
      subst h3
      exact ho.below_ h1 hbase hg
/-! ### lists of blocks, the newest first -/
def Fact.plain : Fact → Bool
  | .blk _ _ _ => true
  | .bel _ => true
  | _ => false
def Fact.under (g : Nat) : Fact → Prop
  | .blk g' _ _ => g' < g
  | .bel w0 => w0.heap.size ≤ g
  | _ => False
def Fx.under (g : Nat) : List Fact → Prop
  | [] => True
  | f :: l => f.under g ∧ Fx.under g l
section
variable {l : List Fact} {f : Fact} {w w' w0 : World} {g g' : Nat} {t : TypeId} {k : IntKind} {zs ys : List Int} {cs : Array Value}
theorem Fx.box (h : BlkI w' w.heap.size t k zs) (hb : Below w.heap.size w w') : Fx [.blk w.heap.size t (intsA k zs), .bel w] w' := ⟨h, hb, trivial⟩
theorem Fx.new (h : Fx l w) (hk : BlkI w' w.heap.size t k zs) (hb : Below w.heap.size w w') : Fx (.blk w.heap.size t (intsA k zs) :: l) w' := ⟨hk, h.below hb⟩
theorem Fx.bel0 (w : World) : Fx [.bel w] w := ⟨Below.refl _ _, trivial⟩
theorem Fx.fst (h : Fx (.blk g t (intsA k zs) :: l) w) : BlkI w g t k zs := h.1
theorem Fx.fstB (h : Fx (.blk g t cs :: l) w) : Blk w g t cs := h.1
theorem Fx.tl (h : Fx (f :: l) w) : Fx l w := h.2
theorem Fx.snd (h : Fx (f :: .blk g t (intsA k zs) :: l) w) : BlkI w g t k zs := h.2.1
theorem Fx.bel1 (h : Fx [.bel w0] w) : Below w0.heap.size w0 w := h.1
theorem Fx.bel2 (h : Fx [f, .bel w0] w) : Below w0.heap.size w0 w := h.2.1
theorem Fx.bel3 {f2 : Fact} (h : Fx [f, f2, .bel w0] w) : Below w0.heap.size w0 w := h.2.2.1
theorem Fx.bel4 {f2 f3 : Fact} (h : Fx [f, f2, f3, .bel w0] w) : Below w0.heap.size w0 w := h.2.2.2.1
theorem Fx.under_new (h : Fx l w) (hp : l.all Fact.plain = true) : Fx.under w.heap.size l := by
  induction l with
  | nil => exact trivial
  | cons f l ih =>
    rw [List.all_cons, Bool.and_eq_true] at hp
    refine ⟨?_, ih h.2 hp.2⟩
    have h1 := h.1
    cases f with
    | blk g t cs => exact Blk.lt h1
    | bel w0 => exact Below.size h1
    | rd k A n zs => cases hp.1
    | rows A n rs => cases hp.1
theorem Fx.off_under (h : Fx.under g l) (cs : Array Value) : Fx.off g cs l := by
  induction l with
  | nil => exact trivial
  | cons f l ih =>
    refine ⟨?_, ih h.2⟩
    have h1 := h.1
    cases f with
    | blk g' t cs => exact Nat.ne_of_lt h1
    | bel w0 => exact h1
    | rd k A n zs => exact h1.elim
    | rows A n rs => exact h1.elim
/-- The newest block is written. -/
theorem Fx.put1 (h : Fx (.blk g t cs :: l) w) (hu : Fx.under g l) (hk : BlkI w' g t k ys) (hs : w'.heap.size = w.heap.size) (hb : ∀ B, B ≤ g → Below B w w') (ho : ∀ j, j ≠ g → w'.heap[j]? = w.heap[j]?) : Fx (.blk g t (intsA k ys) :: l) w' :=
  ⟨hk, h.2.store h.1 (Fx.off_under hu _) hs hb ho⟩
/-- The one below it is written. -/
theorem Fx.put2 {t' : TypeId} {cs' : Array Value} (h : Fx (.blk g' t' cs' :: .blk g t cs :: l) w) (hu : Fx.under g' (.blk g t cs :: l)) (hu2 : Fx.under g l) (hk : BlkI w' g t k ys) (hs : w'.heap.size = w.heap.size) (hb : ∀ B, B ≤ g → Below B w w') (ho : ∀ j, j ≠ g → w'.heap[j]? = w.heap[j]?) : Fx (.blk g' t' cs' :: .blk g t (intsA k ys) :: l) w' :=
  ⟨Blk.other h.1 ho (Nat.ne_of_gt hu.1), Fx.put1 h.2 hu2 hk hs hb ho⟩
theorem Fx.under_put (h : Fx.under g' (.blk g t cs :: l)) (cs' : Array Value) : Fx.under g' (.blk g t cs' :: l) := h
end
theorem Fx.free2 {e t : TypeId} {g : Nat} {cs : Array Value} {w : World} (h : e ≠ t) : Fx.free e w.heap.size [.blk g t cs, .bel w] := ⟨h, rfl, trivial⟩
theorem Fx.free3 {e t t2 : TypeId} {g g2 : Nat} {cs cs2 : Array Value} {w : World} (h : e ≠ t) (h2 : e ≠ t2) : Fx.free e w.heap.size [.blk g t cs, .blk g2 t2 cs2, .bel w] := ⟨h, h2, rfl, trivial⟩
section
variable {P : Program} {ops : Array Oper} {Q : Exit → Act → World → Prop} {a : Act} {w w1 : World}
/-- An operation whose value and world are known, where it comes up. -/
theorem step_run {o : Oper} {K : Act → World → Prop} {E : Prop} (d : Option Tmp) (hd : o.dst = d) (hw : Region.wanted o (yielded ops a.tmps) = true) (v : Value) (he : (execOp a.eval o).run P w = .ok (.value v) w1) (h : K (a.put d v) w1) :
    if Region.wanted o (yielded ops a.tmps) = true then Oper.wp P o a w K Q else E := by
  subst hd
  rw [if_pos hw]
  unfold Oper.wp
  rw [he]
  exact h
end
/-- Four blocks of the call's own: 8 cells, 8 cells, 32 and 32. -/
def Blk4 (w : World) (g8 g7 g6 g3 : Nat) (Y X Z s : List Int) : World → Prop := Fx [.blk g8 42 (intsA .u8 Y), .blk g7 42 (intsA .u8 X), .blk g6 23 (intsA .u8 Z), .blk g3 23 (intsA .u8 s), .bel w]
section
variable {w w1 w2 : World} {g8 g7 g6 g3 : Nat} {Y X Z s R : List Int}
theorem Blk4.below (h : Blk4 w g8 g7 g6 g3 Y X Z s w1) (hb : Below w1.heap.size w1 w2) : Blk4 w g8 g7 g6 g3 Y X Z s w2 := Fx.below h hb
theorem Blk4.drew (h : Blk4 w g8 g7 g6 g3 Y X Z s w1) : Blk4 w g8 g7 g6 g3 Y X Z s w1.drew := Fx.drew h
theorem Blk4.alloc (h : Blk4 w g8 g7 g6 g3 Y X Z s w1) (o : Obj) : Blk4 w g8 g7 g6 g3 Y X Z s (w1.alloc o) := Fx.alloc h o
theorem Blk4.grown {k : IntKind} {v : Value} {zs : List Int} (h : Blk4 w g8 g7 g6 g3 Y X Z s w1) (ho : OwnI w1 w.heap.size 5 k v zs) (hs : w.heap.size ≤ w1.heap.size) (hg : w1.grownBy w2 v.ownBlock) : Blk4 w g8 g7 g6 g3 Y X Z s w2 :=
  Fx.grown h ho ⟨show _ ≠ _ by decide, show _ ≠ _ by decide, show _ ≠ _ by decide, show _ ≠ _ by decide, rfl, trivial⟩ hs hg
theorem Blk4.c8 (h : Blk4 w g8 g7 g6 g3 Y X Z s w1) : BlkI w1 g8 42 .u8 Y := h.1
theorem Blk4.c7 (h : Blk4 w g8 g7 g6 g3 Y X Z s w1) : BlkI w1 g7 42 .u8 X := h.2.1
theorem Blk4.c6 (h : Blk4 w g8 g7 g6 g3 Y X Z s w1) : BlkI w1 g6 23 .u8 Z := h.2.2.1
theorem Blk4.c3 (h : Blk4 w g8 g7 g6 g3 Y X Z s w1) : BlkI w1 g3 23 .u8 s := h.2.2.2.1
theorem Blk4.bel (h : Blk4 w g8 g7 g6 g3 Y X Z s w1) : Below w.heap.size w w1 := h.2.2.2.2.1
/-- With whatever in the third. -/
def Blk4W (w : World) (g8 g7 g6 g3 : Nat) (Y X s : List Int) (w1 : World) : Prop := ∃ Z, Blk4 w g8 g7 g6 g3 Y X Z s w1
theorem Blk4.any (h : Blk4 w g8 g7 g6 g3 Y X Z s w1) : Blk4W w g8 g7 g6 g3 Y X s w1 := ⟨Z, h⟩
/-- The third is written. -/
theorem Blk4.put6 (h : Blk4 w g8 g7 g6 g3 Y X Z s w1) (h6 : g6 < g7) (h7 : g7 < g8) (h3 : g3 < g6) (h0 : w.heap.size ≤ g3) (hk : BlkI w2 g6 23 .u8 R) (hs : w2.heap.size = w1.heap.size) (hb : ∀ B, B ≤ g6 → Below B w1 w2) (ho : ∀ j, j ≠ g6 → w2.heap[j]? = w1.heap[j]?) : Blk4 w g8 g7 g6 g3 Y X R s w2 :=
  ⟨Blk.other h.1 ho (by omega), Blk.other h.2.1 ho (by omega), hk, Blk.other h.2.2.2.1 ho (by omega), Below.trans h.bel (hb _ (by omega)), trivial⟩
end
theorem zero_b8s : ∀ W, (zeroValue 42).run Tryd.prog W = .ok (.agg (intsA .u8 (List.replicate 8 0))) W := (zero_of_info (n := 8) (by kernel_rfl)).1
theorem size_b8s : (Tryd.prog.info? 42).map (·.size) = some 8 := by kernel_rfl
/-- Three slices in a row of their own. -/
def row3 (g1 g2 g3 n1 n2 n3 : Nat) : Array Value := #[.slice (some ⟨g1, 0, none⟩) n1 n1, .slice (some ⟨g2, 0, none⟩) n2 n2, .slice (some ⟨g3, 0, none⟩) n3 n3]
theorem rows3 {W : World} {g1 g2 g3 n1 n2 n3 : Nat} {t1 t2 t3 : TypeId} {x y z : List Int} (h1 : BlkI W g1 t1 .u8 x) (h2 : BlkI W g2 t2 .u8 y) (h3 : BlkI W g3 t3 .u8 z) (l1 : x.length = n1) (l2 : y.length = n2) (l3 : z.length = n3) :
    RdRows (W.alloc (.cells (row3 g1 g2 g3 n1 n2 n3) 29)) (W.alloc (.cells (row3 g1 g2 g3 n1 n2 n3) 29)).heap.size (some ⟨W.heap.size, 0, none⟩) 3 [⟨some ⟨g1, 0, none⟩, n1, n1, x⟩, ⟨some ⟨g2, 0, none⟩, n2, n2, y⟩, ⟨some ⟨g3, 0, none⟩, n3, n3, z⟩] := by
  subst l1 l2 l3
  have hk := Blk.new W 29 (row3 g1 g2 g3 x.length y.length z.length)
  have hb : Below W.heap.size W (W.alloc (.cells (row3 g1 g2 g3 x.length y.length z.length) 29)) := (Below.refl _ _).alloc (Nat.le_refl _) _
  have r1 := (h1.below hb h1.lt).rd
  have r2 := (h2.below hb h2.lt).rd
  have r3 := (h3.below hb h3.lt).rd
  refine ⟨rfl, fun _ => ⟨_, 0, rfl, hk.lt, fun j r hj => ?_⟩, fun r hr => ?_⟩
  · match j, hj with
    | 0, hj => injection hj with hj; subst hj; rw [hk.cell]; rfl
    | 1, hj => injection hj with hj; subst hj; rw [hk.cell]; rfl
    | 2, hj => injection hj with hj; subst hj; rw [hk.cell]; rfl
  · simp only [List.mem_cons, List.not_mem_nil, or_false] at hr
    rcases hr with rfl | rfl | rfl
    · exact ⟨r1, Nat.le_refl _⟩
    · exact ⟨r2, Nat.le_refl _⟩
    · exact ⟨r3, Nat.le_refl _⟩
theorem run_build3 (g1 g2 g3 n1 n2 n3 : Nat) (w : World) : (Instr.buildSlice 56 3 #[(0, .slice (some ⟨g1, 0, none⟩) n1 n1), (1, .slice (some ⟨g2, 0, none⟩) n2 n2), (2, .slice (some ⟨g3, 0, none⟩) n3 n3)]).run Tryd.prog w = .ok (.slice (some ⟨w.heap.size, 0, none⟩) 3 3) (w.alloc (.cells (row3 g1 g2 g3 n1 n2 n3) 29)) := by
  unfold row3
  go_simp
theorem exec_build3 {o : Oper} {a : Act} {w : World} (p q r : Operand) (g1 g2 g3 n1 n2 n3 : Nat) (ho : o.op = .buildSlice 56 3 #[(0, p), (1, q), (2, r)]) (hp : a.eval p = .slice (some ⟨g1, 0, none⟩) n1 n1) (hq : a.eval q = .slice (some ⟨g2, 0, none⟩) n2 n2) (hr : a.eval r = .slice (some ⟨g3, 0, none⟩) n3 n3) :
    (execOp a.eval o).run Tryd.prog w = .ok (.value (.slice (some ⟨w.heap.size, 0, none⟩) 3 3)) (w.alloc (.cells (row3 g1 g2 g3 n1 n2 n3) 29)) := by
  unfold execOp
  simp only [ho, List.map_toArray, List.map_cons, List.map_nil, hp, hq, hr]
  change ((Instr.buildSlice 56 3 #[(0, .slice (some ⟨g1, 0, none⟩) n1 n1), (1, .slice (some ⟨g2, 0, none⟩) n2 n2), (2, .slice (some ⟨g3, 0, none⟩) n3 n3)]) >>= fun v => pure (Next.value v)).run Tryd.prog w = _
  simp only [Sem.run_bind, run_build3, Result.andThen_ok, Sem.run_pure]
end Go.Proofs.YtdnjnbeoioicfaaDoor

/-
  What is known of memory, as a list: blocks known whole, slices that read as lists, rows of slices; it stays while calls leave old memory as it was. Steps by hand inside a region that draws its order.
  Conditions: those that each theorem names.
-/
import Derived.Test.YtkgajcifanobnaaHeldB
import Derived.Test.YtkgajcifanobnaaRegA
import Derived.Test.YtkgajcifanobnaaRowP
set_option maxRecDepth 100000
set_option linter.unusedVariables false
set_option linter.unusedSimpArgs false
namespace Go.Proofs.Ytkgajcifanobnaa
open Go.ChangeShapes Go.WideShapes Go.ChangeAt Go.RowKit
inductive Fact where
  | blk (g : Nat) (t : TypeId) (cs : Array Value)
  | rd (k : IntKind) (A : Option Addr) (n : Nat) (zs : List Int)
  | rows (A : Option Addr) (n : Nat) (rs : List Row)
  | bel (w : World)
  | rdb (k : IntKind) (B : Nat) (A : Option Addr) (n : Nat) (zs : List Int)
  | kept (B : Nat) (R : World → Prop)
def Fact.on : Fact → World → Prop
  | .blk g t cs, w => Blk w g t cs
  | .rd k A n zs, w => Rd k w w.heap.size A n zs
  | .rows A n rs, w => RdRows w w.heap.size A n rs
  | .bel w0, w => Below w0.heap.size w0 w
  | .rdb k B A n zs, w => Rd k w B A n zs ∧ B ≤ w.heap.size
  | .kept B R, w => (∀ w', Below B w w' → R w') ∧ B ≤ w.heap.size
def Fx : List Fact → World → Prop
  | [], _ => True
  | f :: l, w => f.on w ∧ Fx l w
theorem RdRows.monoB {w : World} {B B' n : Nat} {A : Option Addr} {rs : List Row} (h : RdRows w B A n rs) (hB : B ≤ B') : RdRows w B' A n rs :=
  ⟨h.1, fun hn => by
    obtain ⟨b, off, e, hlt, hc⟩ := h.2.1 hn
    exact ⟨b, off, e, by omega, hc⟩, fun r hr => ⟨(h.2.2 r hr).1.mono hB, (h.2.2 r hr).2⟩⟩
theorem Fact.below {f : Fact} {w w' : World} (h : f.on w) (hb : Below w.heap.size w w') : f.on w' := by
  cases f with
  | blk g t cs => exact Blk.below h hb (Blk.lt h)
  | rd k A n zs => exact (Rd.below h hb).fit
  | rows A n rs => exact (RdRows.below h hb).monoB hb.size
  | bel w0 => exact Below.trans h (hb.mono (Below.size h))
  | rdb k B A n zs => exact ⟨Rd.below h.1 (hb.mono h.2), Nat.le_trans h.2 hb.size⟩
  | kept B R => exact ⟨fun w2 h2 => h.1 w2 ((hb.mono h.2).trans h2), Nat.le_trans h.2 hb.size⟩
theorem Fx.below {l : List Fact} {w w' : World} (h : Fx l w) (hb : Below w.heap.size w w') : Fx l w' := by
  induction l with
  | nil => exact trivial
  | cons f l ih => exact ⟨Fact.below h.1 hb, ih h.2⟩
theorem Fx.drew {l : List Fact} {w : World} (h : Fx l w) : Fx l w.drew := h.below (Below.refl _ _).drew
theorem Fx.alloc {l : List Fact} {w : World} (h : Fx l w) (o : Obj) : Fx l (w.alloc o) := h.below ((Below.refl _ _).alloc (Nat.le_refl _) o)
theorem Fx.app {l l' : List Fact} {w : World} (h : Fx l w) (h' : Fx l' w) : Fx (l ++ l') w := by
  induction l with
  | nil => exact h'
  | cons f l ih => exact ⟨h.1, ih h.2⟩
/-- No integer of this kind among the cells. -/
def NoInt (k : IntKind) (cs : Array Value) : Prop := ∀ (j : Nat) (z : Int), cs[j]? ≠ some (.int k z)
/-- A slice of integers lies apart from a block that holds none of their kind. -/
theorem Rd.apartB {k : IntKind} {w w' : World} {A : Option Addr} {n g : Nat} {t : TypeId} {cs : Array Value} {zs : List Int} (h : Rd k w w.heap.size A n zs) (hb : Blk w g t cs) (hno : NoInt k cs) (hs : w.heap.size ≤ w'.heap.size) (ho : ∀ j, j ≠ g → w'.heap[j]? = w.heap[j]?) : Rd k w' w'.heap.size A n zs := by
  refine ⟨h.1, fun hn => ?_⟩
  obtain ⟨b, off, e, hlt, hc⟩ := h.2 hn
  have hne : b ≠ g := by
    rintro rfl
    have h0 := hc 0 hn
    rw [hb.cell] at h0
    exact hno _ _ h0
  refine ⟨b, off, e, by omega, fun j hj => ?_⟩
  rw [World.cell?_of_block (w := w) (w' := w') (a := ⟨b, off + j, none⟩) (ho b hne)]
  exact hc j hj
/-- What is known lies apart from the block g, whose cells are cs. -/
def Fact.off (g : Nat) (cs : Array Value) : Fact → Prop
  | .blk g' _ _ => g' ≠ g
  | .rd k _ _ _ => NoInt k cs
  | .rows _ n _ => n = 0
  | .bel w0 => w0.heap.size ≤ g
  | .rdb _ B _ _ _ => B ≤ g
  | .kept B _ => B ≤ g
def Fx.off (g : Nat) (cs : Array Value) : List Fact → Prop
  | [] => True
  | f :: l => f.off g cs ∧ Fx.off g cs l
theorem Fx.store {l : List Fact} {w w' : World} {g : Nat} {t : TypeId} {cs : Array Value} (h : Fx l w) (hk : Blk w g t cs) (ha : Fx.off g cs l) (hs : w'.heap.size = w.heap.size) (hb : ∀ B, B ≤ g → Below B w w') (ho : ∀ j, j ≠ g → w'.heap[j]? = w.heap[j]?) : Fx l w' := by
  induction l with
  | nil => exact trivial
  | cons f l ih =>
    refine ⟨?_, ih h.2 ha.2⟩
    have h1 := h.1
    have h2 := ha.1
    cases f with
    | blk g' t' cs' => exact Blk.other h1 ho h2
    | rd k A n zs => exact Rd.apartB h1 hk h2 (by omega) ho
    | rows A n rs =>
      have h3 : n = 0 := h2
      subst h3
      have h4 : rs.length = 0 := h1.1
      exact ⟨h4, fun hn => absurd hn (by omega), fun r hr => by rw [List.eq_nil_of_length_eq_zero h4] at hr; cases hr⟩
    | bel w0 => exact Below.trans h1 (hb _ h2)
    | rdb k B A n zs => exact ⟨Rd.below h1.1 (hb _ h2), by rw [hs]; exact h1.2⟩
    | kept B R => exact ⟨fun w2 h3 => h1.1 w2 ((hb _ h2).trans h3), by rw [hs]; exact h1.2⟩
end Go.Proofs.Ytkgajcifanobnaa

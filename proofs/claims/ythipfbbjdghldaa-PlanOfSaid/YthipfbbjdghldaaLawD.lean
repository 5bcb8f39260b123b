/-
  What stage 3's laws share: arrays compared, and what they keep of memory.
  Conditions: those that each theorem names.
-/
import Derived.Test.YthipfbbjdghldaaLawC
import Derived.Test.YthipfbbjdghldaaHeldA
namespace Go.Proofs.Ythipfbbjdghldaa
open Go.ChangeShapes Go.WideShapes Go.ChangeAt Go.RowKit
set_option linter.unusedVariables false
theorem eq_planB (zs : List Int) (hz : zs.length = 64) (w : World) : (Op.equalIn 10000 29 (.agg (intsA .u32 zs)) (.agg (intsA .u32 zs))).run Try.prog w = .ok true w := by
  obtain ⟨i0, hi, _, hs, _⟩ := info_parts info_u32c
  have := run_equal_ints Try.underlying29 Try.underlying22 hi hs (by kernel_rfl) zs zs hz hz w
  rw [decide_eq_true rfl] at this
  exact this
theorem eq_blockB (zs : List Int) (hz : zs.length = 64) (w : World) : (Op.equalIn 10000 26 (.agg (intsA .u8 zs)) (.agg (intsA .u8 zs))).run Try.prog w = .ok true w := by
  obtain ⟨i0, hi, _, hs, _⟩ := info_parts info_u8c
  have := run_equal_ints Try.underlying26 Try.underlying5 hi hs (by kernel_rfl) zs zs hz hz w
  rw [decide_eq_true rfl] at this
  exact this
theorem size_w16 : (Try.prog.info? 27).map (·.size) = some 16 := by kernel_rfl
theorem zero_w16 : ∀ W, (zeroValue 27).run Try.prog W = .ok (.agg (intsA .u32 (List.replicate 16 0))) W := (zero_of_info (n := 16) (by kernel_rfl)).1
theorem zero_w64 : ∀ W, (zeroValue 28).run Try.prog W = .ok (.agg (intsA .u32 Z64)) W := (zero_of_info (n := 64) (by kernel_rfl)).1
def K2 (w : World) (g1 g2 : Nat) (b l : List Int) (w' : World) : Prop := BlkI w' g1 26 .u8 b ∧ BlkI w' g2 27 .u32 l ∧ Below w.heap.size w w'
theorem K2.below {w w' w'' : World} {g1 g2 : Nat} {b l : List Int} (h : K2 w g1 g2 b l w') (hb : Below w'.heap.size w' w'') : K2 w g1 g2 b l w'' :=
  ⟨h.1.below hb h.1.lt, h.2.1.below hb h.2.1.lt, h.2.2.trans (hb.mono h.2.2.size)⟩
theorem K2.keep {w w' w'' : World} {g1 g2 B : Nat} {b l : List Int} (h : K2 w g1 g2 b l w') (h1 : g1 < B) (h2 : g2 < B) (h3 : w.heap.size ≤ B) (hb : Below B w' w'') : K2 w g1 g2 b l w'' :=
  ⟨h.1.below hb h1, h.2.1.below hb h2, h.2.2.trans (hb.mono h3)⟩
theorem K2.fst {w w' : World} {g1 g2 : Nat} {b l : List Int} (h : K2 w g1 g2 b l w') : BlkI w' g1 26 .u8 b := h.1
theorem K2.snd {w w' : World} {g1 g2 : Nat} {b l : List Int} (h : K2 w g1 g2 b l w') : BlkI w' g2 27 .u32 l := h.2.1
theorem K2.bel {w w' : World} {g1 g2 : Nat} {b l : List Int} (h : K2 w g1 g2 b l w') : Below w.heap.size w w' := h.2.2
theorem K2.mk {w w' : World} {g1 g2 : Nat} {b l : List Int} (h1 : BlkI w' g1 26 .u8 b) (h2 : BlkI w' g2 27 .u32 l) (h3 : Below w.heap.size w w') : K2 w g1 g2 b l w' := ⟨h1, h2, h3⟩
theorem K2.drew {w w' : World} {g1 g2 : Nat} {b l : List Int} (h : K2 w g1 g2 b l w') : K2 w g1 g2 b l w'.drew := ⟨h.1, h.2.1, h.2.2.drew⟩
/-- The block, the words, a row of words beside them, and an array that is being filled. -/
def K4 (w : World) (g1 g2 g5 g6 : Nat) (t5 t6 : TypeId) (b l p h : List Int) (w' : World) : Prop := K2 w g1 g2 b l w' ∧ BlkI w' g5 t5 .u32 p ∧ BlkI w' g6 t6 .u32 h ∧ w.heap.size ≤ g6 ∧ g1 ≠ g6 ∧ g2 ≠ g6 ∧ g5 ≠ g6
section
variable {w w' w'' : World} {g1 g2 g5 g6 B : Nat} {t5 t6 : TypeId} {b l p h : List Int}
theorem K4.below (k : K4 w g1 g2 g5 g6 t5 t6 b l p h w') (hb : Below w'.heap.size w' w'') : K4 w g1 g2 g5 g6 t5 t6 b l p h w'' :=
  ⟨k.1.below hb, k.2.1.below hb k.2.1.lt, k.2.2.1.below hb k.2.2.1.lt, k.2.2.2⟩
theorem K4.keep (k : K4 w g1 g2 g5 g6 t5 t6 b l p h w') (h1 : g1 < B) (h2 : g2 < B) (h5 : g5 < B) (h6 : g6 < B) (hb : Below B w' w'') : K4 w g1 g2 g5 g6 t5 t6 b l p h w'' :=
  ⟨k.1.keep h1 h2 (by have := k.2.2.2.1; omega) hb, k.2.1.below hb h5, k.2.2.1.below hb h6, k.2.2.2⟩
theorem K4.drew (k : K4 w g1 g2 g5 g6 t5 t6 b l p h w') : K4 w g1 g2 g5 g6 t5 t6 b l p h w'.drew := ⟨k.1.drew, k.2.1, k.2.2.1, k.2.2.2⟩
theorem K4.set_ (k : K4 w g1 g2 g5 g6 t5 t6 b l p h w') (j : Nat) (z : Int) : K4 w g1 g2 g5 g6 t5 t6 b l p (h.set j z) (w'.setCell ⟨g6, j, none⟩ (.int .u32 z)) :=
  ⟨⟨k.1.1.far k.2.2.2.2.1 _, k.1.2.1.far k.2.2.2.2.2.1 _, k.1.2.2.setCell (p := ⟨g6, j, none⟩) k.2.2.2.1 _⟩, k.2.1.far k.2.2.2.2.2.2 _, k.2.2.1.set_ j z, k.2.2.2⟩
theorem K4.k2 (k : K4 w g1 g2 g5 g6 t5 t6 b l p h w') : K2 w g1 g2 b l w' := k.1
theorem K4.row (k : K4 w g1 g2 g5 g6 t5 t6 b l p h w') : BlkI w' g5 t5 .u32 p := k.2.1
theorem K4.fill (k : K4 w g1 g2 g5 g6 t5 t6 b l p h w') : BlkI w' g6 t6 .u32 h := k.2.2.1
end
theorem getD_set (l : List Int) (i j : Nat) (z : Int) (hi : i < l.length) : (l.set i z).getD j 0 = if i = j then z else l.getD j 0 := by
  rw [List.getD_eq_getElem?_getD, List.getElem?_set]
  by_cases h : i = j
  · subst h; simp [hi]
  · simp [h]
/-- One more place is as it should be. -/
theorem fill_more (h : List Int) (f : Nat → Int) (lo hi i : Nat) (z : Int) (hz : z = f i) (hl : i < h.length) (hat : ∀ j, lo ≤ j → j < hi → j ≠ i → h.getD j 0 = f j) : ∀ j, lo ≤ j → j < hi → (h.set i z).getD j 0 = f j := by
  intro j h1 h2
  rw [getD_set h i j _ hl]
  by_cases hij : i = j
  · subst hij; rw [if_pos rfl, hz]
  · rw [if_neg hij]; exact hat j h1 h2 (Ne.symm hij)
theorem u8_in {b : List Int} (h : ∀ z ∈ b, (Lit.int .u8 z).wf = true) : ∀ z ∈ b, 0 ≤ z ∧ z < 256 := fun z hz => by have := bounds_u8 (h z hz); omega
theorem u32_in {b : List Int} (h : ∀ z ∈ b, (Lit.int .u32 z).wf = true) : ∀ z ∈ b, 0 ≤ z ∧ z < 4294967296 := fun z hz => by have := bounds_u32 (h z hz); omega
end Go.Proofs.Ythipfbbjdghldaa

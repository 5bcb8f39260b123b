/-
  Tables in memory: a struct of a number and a slice of pairs, in a block of two cells.
  Conditions: those that each theorem names.
-/
import Derived.Test.YtkgajcifanobnaaRegA
import Derived.Test.YtkgajcifanobnaaPairM
import Derived.Test.YtkgajcifanobnaaTabP
set_option maxRecDepth 100000
set_option linter.unusedVariables false
set_option linter.unusedSimpArgs false
namespace Go.Proofs.Ytkgajcifanobnaa
open Go.ChangeShapes Go.WideShapes Go.ChangeAt Go.RowKit
/-- Numbers of pairs in their types' ranges. -/
def PrOk (ts : List (Int × Int)) : Prop := ∀ p ∈ ts, 0 ≤ p.1 ∧ p.1 < 18446744073709551616 ∧ -9223372036854775808 ≤ p.2 ∧ p.2 < 9223372036854775808
theorem PrOk.at_ {ts : List (Int × Int)} (h : PrOk ts) {k : Nat} (hk : k < ts.length) : 0 ≤ (cellL ts k).1 ∧ (cellL ts k).1 < 18446744073709551616 ∧ -9223372036854775808 ≤ (cellL ts k).2 ∧ (cellL ts k).2 < 9223372036854775808 := h _ (cellL_mem hk)
theorem RdPr.cells {w : World} {B n : Nat} {A : Option Addr} {ts : List (Int × Int)} {k0 k1 : IntKind} (h : RdPr k0 k1 w B A n ts) (hn : 0 < n) : ∃ b off, A = some ⟨b, off, none⟩ ∧ b < B ∧ ∀ j, j < n → w.cell? ⟨b, off + j * 2, none⟩ = some (.int k0 (cellL ts j).1) ∧ w.cell? ⟨b, off + j * 2 + 1, none⟩ = some (.int k1 (cellL ts j).2) := h.2 hn
theorem RdPr.cellAt {w : World} {B n k b off : Nat} {ts : List (Int × Int)} {k0 k1 : IntKind} (h : RdPr k0 k1 w B (some ⟨b, off, none⟩) n ts) (hk : k < n) : w.cell? ⟨b, off + k * 2, none⟩ = some (.int k0 (cellL ts k).1) ∧ w.cell? ⟨b, off + k * 2 + 1, none⟩ = some (.int k1 (cellL ts k).2) := by
  obtain ⟨b', off', e, _, h2⟩ := h.cells (by omega)
  cases e
  exact h2 k hk
theorem ret_u64v {a b : Int} (h : a = b) : Ending.returned (.int .u64 a) = .returned (.int .u64 b) := by rw [h]
theorem ret_ui {a b c d : Int} (h : a = b) (h2 : c = d) : Ending.returned (.tuple #[.int .u64 a, .int .i64 c]) = .returned (.tuple #[.int .u64 b, .int .i64 d]) := by rw [h, h2]
/-- A table boxed in the block g, beside older memory. -/
structure TbS (w0 : World) (g : Nat) (T : Int) (A : Option Addr) (n c : Nat) (w : World) : Prop where
  b : Blk w g 27 #[.int .u64 T, .slice A n c]
  bel : Below w0.heap.size w0 w
  le : w0.heap.size ≤ g
section
variable {w0 w w' : World} {g : Nat} {T : Int} {A : Option Addr} {n c : Nat} {ts : List (Int × Int)}
theorem TbS.new (w : World) (T : Int) (A : Option Addr) (n c : Nat) : TbS w w.heap.size T A n c (w.alloc (.cells #[.int .u64 T, .slice A n c] 27)) := ⟨Blk.new w _ _, (Below.refl _ _).alloc (Nat.le_refl _) _, Nat.le_refl _⟩
theorem TbS.two (h : TbS w0 g T A n c w) {U : Int} {B : Option Addr} {m d : Nat} : TbS w0 w.heap.size U B m d (w.alloc (.cells #[.int .u64 U, .slice B m d] 27)) := ⟨Blk.new w _ _, h.bel.trans (((Below.refl _ _).alloc (Nat.le_refl _) _).mono h.bel.size), h.bel.size⟩
theorem TbS.below (h : TbS w0 g T A n c w) (hb : Below w.heap.size w w') : TbS w0 g T A n c w' := ⟨h.b.below hb h.b.lt, h.bel.trans (hb.mono h.bel.size), h.le⟩
theorem TbS.alloc (h : TbS w0 g T A n c w) (o : Obj) : TbS w0 g T A n c (w.alloc o) := h.below ((Below.refl _ _).alloc (Nat.le_refl _) _)
theorem TbS.drew (h : TbS w0 g T A n c w) : TbS w0 g T A n c w.drew := h.below (Below.refl _ _).drew
theorem TbS.drewN (h : TbS w0 g T A n c w) (m : Nat) : TbS w0 g T A n c (w.drewN m) := h.below (below_drewN (Below.refl _ _) _)
theorem TbS.c0 (h : TbS w0 g T A n c w) : w.cell? ⟨g, 0, none⟩ = some (.int .u64 T) := by rw [h.b.cell]; rfl
theorem TbS.c1 (h : TbS w0 g T A n c w) : w.cell? ⟨g, 1, none⟩ = some (.slice A n c) := by rw [h.b.cell]; rfl
theorem TbS.pr (h : TbS w0 g T A n c w) (hr : RdPr .u64 .i64 w0 w0.heap.size A n ts) : RdPr .u64 .i64 w w.heap.size A n ts := hr.to h.bel
end
/-- Two tables are the same. -/
def sameT (T U : Int) (xs ys : List (Int × Int)) : Bool := decide (T = U ∧ xs = ys)
/-- Ways in which a table may be, or not. -/
theorem tabR_no {T : Int} {ts : List (Int × Int)} (h : ¬ (0 < ts.length ∧ 0 < T ∧ (ts.length : Int) * T < 9223372036854775808)) : tabR T ts = false := by
  rw [← Bool.not_eq_true, tabR_iff]
  exact fun g => h ⟨g.1, g.2.1, g.2.2.1⟩
theorem tabR_cell {T : Int} {ts : List (Int × Int)} {k : Nat} (hk : k < ts.length) (h : ¬ ((cellL ts k).1 ≤ T ∧ 0 ≤ (cellL ts k).2 ∧ (cellL ts k).2 < ts.length)) : tabR T ts = false := by
  rw [← Bool.not_eq_true, tabR_iff]
  exact fun g => h (g.2.2.2 k hk)
theorem tabR_all {T : Int} {ts : List (Int × Int)} (h : 0 < ts.length ∧ 0 < T ∧ (ts.length : Int) * T < 9223372036854775808) (hc : ∀ k, k < ts.length → (cellL ts k).1 ≤ T ∧ 0 ≤ (cellL ts k).2 ∧ (cellL ts k).2 < ts.length) : tabR T ts = true := tabR_iff.2 ⟨h.1, h.2.1, h.2.2, hc⟩
theorem ow_ok {T u : Int} {ts : List (Int × Int)} (hr : tabR T ts = true) (u0 : 0 ≤ u) (h : u < (ts.length : Int) * T) : owE T ts u = 0 ∧ owV T ts u = lkV T ts (u / T) (u % T) ∧ lkE T ts (u / T) (u % T) = 0 ∧ 0 ≤ u / T ∧ u / T < (ts.length : Int) ∧ 0 ≤ u % T ∧ u % T < T := by
  have hT := (tabR_iff.1 hr).2.1
  have h0 : owE T ts u = 0 := by unfold owE; rw [if_pos hr, if_pos h]
  have q0 : 0 ≤ u / T := Int.ediv_nonneg u0 (by omega)
  have q1 : u / T < (ts.length : Int) := Int.ediv_lt_of_lt_mul hT h
  have r0 := Int.emod_nonneg u (show T ≠ 0 by omega)
  have r1 := Int.emod_lt_of_pos u hT
  exact ⟨h0, by unfold owV; rw [if_pos h0], by unfold lkE; rw [if_pos hr, if_pos ⟨q0, q1, r1⟩], q0, q1, r0, r1⟩
theorem ow_no {T u : Int} {ts : List (Int × Int)} (h : tabR T ts = false) : owE T ts u = 1 ∧ owV T ts u = 0 := by
  have h0 : owE T ts u = 1 := if_neg (by rw [h]; simp)
  exact ⟨h0, if_neg (by rw [h0]; decide)⟩
theorem ow_big {T u : Int} {ts : List (Int × Int)} (hr : tabR T ts = true) (h : ¬ u < (ts.length : Int) * T) : owE T ts u = 3 ∧ owV T ts u = 0 := by
  have h0 : owE T ts u = 3 := by unfold owE; rw [if_pos hr, if_neg h]
  exact ⟨h0, if_neg (by rw [h0]; decide)⟩
theorem os_no {T i : Int} {ts : List (Int × Int)} (h : tabR T ts = false) : osE T ts i = 1 ∧ osV T ts i = 0 := by
  have h0 : osE T ts i = 1 := if_neg (by rw [h]; simp)
  exact ⟨h0, if_neg (by rw [h0]; decide)⟩
theorem os_out {T i : Int} {ts : List (Int × Int)} (hr : tabR T ts = true) (h : ¬ (0 ≤ i ∧ i < (ts.length : Int))) : osE T ts i = 3 ∧ osV T ts i = 0 := by
  have h0 : osE T ts i = 3 := by unfold osE; rw [if_pos hr, if_neg h]
  exact ⟨h0, if_neg (by rw [h0]; decide)⟩
theorem os_ok {T i : Int} {ts : List (Int × Int)} (hr : tabR T ts = true) (h : 0 ≤ i ∧ i < (ts.length : Int)) : osE T ts i = 0 ∧ osV T ts i = ownsN T ts i ts.length := by
  have h0 : osE T ts i = 0 := by unfold osE; rw [if_pos hr, if_pos h]
  exact ⟨h0, if_pos h0⟩
end Go.Proofs.Ytkgajcifanobnaa

/-
  Slices of pairs of numbers in memory: what one reads as, and that reading kept.
  Conditions: those that each theorem names.
-/
import Derived.Test.YtkgajcifanobnaaMemA
set_option maxRecDepth 100000
set_option linter.unusedVariables false
set_option linter.unusedSimpArgs false
namespace Go.Proofs.Ytkgajcifanobnaa
open Go.ChangeShapes Go.WideShapes Go.ChangeAt Go.RowKit
/-- The slice reads as pairs of numbers. -/
def RdPr (k0 k1 : IntKind) (w : World) (B : Nat) (A : Option Addr) (n : Nat) (ts : List (Int × Int)) : Prop :=
  ts.length = n ∧ (0 < n → ∃ b off, A = some ⟨b, off, none⟩ ∧ b < B ∧ ∀ j, j < n → w.cell? ⟨b, off + j * 2, none⟩ = some (.int k0 (ts.getD j (0, 0)).1) ∧ w.cell? ⟨b, off + j * 2 + 1, none⟩ = some (.int k1 (ts.getD j (0, 0)).2))
theorem RdPr.below {k0 k1 : IntKind} {w w' : World} {B n : Nat} {A : Option Addr} {ts : List (Int × Int)} (h : RdPr k0 k1 w B A n ts) (hb : Below B w w') : RdPr k0 k1 w' B A n ts :=
  ⟨h.1, fun hn => by
    obtain ⟨b, off, e, hlt, hc⟩ := h.2 hn
    exact ⟨b, off, e, hlt, fun j hj => ⟨(hb.cell (p := ⟨b, off + j * 2, none⟩) hlt).trans (hc j hj).1, (hb.cell (p := ⟨b, off + j * 2 + 1, none⟩) hlt).trans (hc j hj).2⟩⟩⟩
theorem RdPr.mono {k0 k1 : IntKind} {w : World} {B B' n : Nat} {A : Option Addr} {ts : List (Int × Int)} (h : RdPr k0 k1 w B A n ts) (hB : B ≤ B') : RdPr k0 k1 w B' A n ts :=
  ⟨h.1, fun hn => by
    obtain ⟨b, off, e, hlt, hc⟩ := h.2 hn
    exact ⟨b, off, e, Nat.lt_of_lt_of_le hlt hB, hc⟩⟩
theorem RdPr.len {k0 k1 : IntKind} {w : World} {B n : Nat} {A : Option Addr} {ts : List (Int × Int)} (h : RdPr k0 k1 w B A n ts) : ts.length = n := h.1
theorem RdPr.at_ {k0 k1 : IntKind} {w : World} {B n : Nat} {A : Option Addr} {ts : List (Int × Int)} (h : RdPr k0 k1 w B A n ts) (hn : 0 < n) : ∃ b off, A = some ⟨b, off, none⟩ ∧ b < B ∧ ∀ j, j < n → w.cell? ⟨b, off + j * 2, none⟩ = some (.int k0 (ts.getD j (0, 0)).1) ∧ w.cell? ⟨b, off + j * 2 + 1, none⟩ = some (.int k1 (ts.getD j (0, 0)).2) := h.2 hn
theorem RdPr.nil (k0 k1 : IntKind) (w : World) (B : Nat) (A : Option Addr) : RdPr k0 k1 w B A 0 [] := ⟨rfl, fun h => absurd h (by omega)⟩
theorem RdPr.to {k0 k1 : IntKind} {w w' : World} {n : Nat} {A : Option Addr} {ts : List (Int × Int)} (h : RdPr k0 k1 w w.heap.size A n ts) (hb : Below w.heap.size w w') : RdPr k0 k1 w' w'.heap.size A n ts := (h.below hb).mono hb.size
end Go.Proofs.Ytkgajcifanobnaa

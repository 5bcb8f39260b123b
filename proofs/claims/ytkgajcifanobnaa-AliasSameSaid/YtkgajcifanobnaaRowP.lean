/-
  Rows of slices of bytes, read.
  Conditions: none.
-/
import Derived.Test.YtkgajcifanobnaaHeldB
set_option maxRecDepth 100000
set_option linter.unusedVariables false
set_option linter.unusedSimpArgs false
namespace Go.Proofs.Ytkgajcifanobnaa
open Go.ChangeShapes Go.WideShapes Go.ChangeAt Go.RowKit
/-- The slice reads as rows of bytes. -/
structure Row where
  A : Option Addr
  n : Nat
  c : Nat
  zs : List Int
def RdRows (w : World) (B : Nat) (A : Option Addr) (n : Nat) (rs : List Row) : Prop :=
  rs.length = n ∧ (0 < n → ∃ b off, A = some ⟨b, off, none⟩ ∧ b < B ∧ ∀ (j : Nat) (r : Row), rs[j]? = some r → w.cell? ⟨b, off + j, none⟩ = some (.slice r.A r.n r.c)) ∧ ∀ r ∈ rs, Rd .u8 w B r.A r.n r.zs ∧ r.n ≤ r.c
theorem RdRows.below {w w' : World} {B n : Nat} {A : Option Addr} {rs : List Row} (h : RdRows w B A n rs) (hb : Below B w w') : RdRows w' B A n rs :=
  ⟨h.1, fun hn => by
    obtain ⟨b, off, e, hlt, hc⟩ := h.2.1 hn
    exact ⟨b, off, e, hlt, fun j r hj => (hb.cell (p := ⟨b, off + j, none⟩) hlt).trans (hc j r hj)⟩, fun r hr => ⟨(h.2.2 r hr).1.below hb, (h.2.2 r hr).2⟩⟩
end Go.Proofs.Ytkgajcifanobnaa

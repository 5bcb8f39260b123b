/-
  What the document's answers for layer 5 return (Same, Great), and that they leave memory as it was.
  Conditions: the arguments lie in their types' ranges.
-/
import Derived.Test.YtdnjnbeoioicfaaDoorRefI
set_option linter.unusedSimpArgs false
namespace Go.Proofs.YtdnjnbeoioicfaaDoor
open Go.ChangeShapes Go.WideShapes Go.ChangeAt Go.RowKit
set_option linter.unusedVariables false
theorem str_rd5 {w : World} {B : Nat} {A : Option Addr} {n c : Nat} {zs : List Int} (h : Rd .u8 w B A n zs) : (convert 29 9 (.slice A n c)).run Tryd.prog w = .ok (.string (strB zs)) w :=
  run_str Tryd.underlying29 Tryd.underlying5 Tryd.underlying9 h (fun hA => by
    rcases Nat.eq_zero_or_pos n with h0 | h0
    · exact h0
    · obtain ⟨b, off, e, _⟩ := h.2 h0; rw [hA] at e; cases e)
theorem eq_state5 (zs ys : List Int) (hz : zs.length = 8) (hy : ys.length = 8) (w : World) : (Op.equalIn 10000 53 (.agg (intsA .u32 zs)) (.agg (intsA .u32 ys))).run Tryd.prog w = .ok (decide (zs = ys)) w := by
  obtain ⟨i0, hi, _, hs, _⟩ := info_parts info_u32c
  exact run_equal_ints Tryd.underlying53 Tryd.underlying32 hi hs (by kernel_rfl) zs ys hz hy w
theorem toL_eq5 {a b : ByteArray} : a.toList = b.toList ↔ a = b := by
  rw [ByteArray.toList_eq, ByteArray.toList_eq]
  constructor
  · intro h
    obtain ⟨⟨x⟩⟩ := a
    obtain ⟨⟨y⟩⟩ := b
    simp at h
    rw [h]
  · intro h; rw [h]
def sameB (s1 s2 z1 z2 : List Int) (n1 n2 : Int) : Bool := decide (s1 = s2 ∧ z1 = z2 ∧ n1 = n2)
def greatAt (rs : List Row) (i : Nat) : Bool := (rs.take i).any fun r => decide (500 < r.n)
def greatB (rs : List Row) : Bool := decide (20 < rs.length) || rs.any fun r => decide (500 < r.n)
end Go.Proofs.YtdnjnbeoioicfaaDoor

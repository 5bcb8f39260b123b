/-
  append([]uint64{}, l...): a copy of its own of a slice of 64-bit numbers, behind a plain region's step.
  Conditions: the slice has at most 100,000,000 numbers.
-/
import Derived.Test.YtkgajcifanobnaaMemA
import Derived.Test.YtkgajcifanobnaaRows
import Derived.Test.YtkgajcifanobnaaCopyA
set_option maxRecDepth 100000
set_option linter.unusedVariables false
set_option linter.unusedSimpArgs false
namespace Go.Proofs.Ytkgajcifanobnaa
open Go.ChangeShapes Go.WideShapes Go.ChangeAt Go.RowKit
theorem info_u64d : (Try.prog.info? 24).map (fun i => (i.zero, i.size, i.bytes)) = some (some (.int .u64 0), 1, 8) := by kernel_rfl
theorem wpList_own_copy8 {ops : Array Oper} {rest : List Oper} {o : Oper} {a : Act} {Q : Exit → Act → World → Prop} (W0 : World) (hgd : o.guard = none) (s x : Operand)
    (ho : o.op = .call { callee := .builtin .append, args := #[s, x], argTypes := #[22, 22] })
    (hs : a.eval s = .slice (some ⟨W0.heap.size, 0, none⟩) 0 0) (A : Option Addr) (m c : Nat) (ys : List Int) (hx : a.eval x = .slice A m c) (hr : Rd .u64 W0 W0.heap.size A m ys) (hm : m ≤ 100000000)
    (h : ∀ A7 c7 w', Below W0.heap.size W0 w' → Rd .u64 w' w'.heap.size A7 ys.length ys → Hid (ys.length ≤ c7) → Hid (c7 ≤ maxLen) → wpList Try.prog ops Q rest (a.put o.dst (.slice A7 ys.length c7)) w') : wpList Try.prog ops Q (o :: rest) a (W0.alloc (.cells #[] 24)) := by
  obtain ⟨ti, hti, hz0, hz1, hzb⟩ := info_parts info_u64d
  have hw : W0.heap.size ≤ (W0.alloc (.cells #[] 24)).heap.size := ((Below.refl _ _).alloc (Nat.le_refl _) (.cells #[] 24)).size
  refine wpList_append_ints _ hgd s x 22 ho W0.heap.size 24 ti _ 8 .u64 Try.underlying22 hti hz0 hz1 hzb rfl _ [] hs (own_empty W0 24 .u64 (Nat.le_refl _)) W0.heap.size A m c ys hx (hr.alloc (Nat.le_refl _) _) (by simp [maxLen]; omega) (by simp; omega) hw ?_
  intro v w' hown hg hat
  have hb : Below W0.heap.size W0 w' := (own_empty W0 24 .u64 (Nat.le_refl _)).below_ ((Below.refl _ _).alloc (Nat.le_refl _) _) hw hg
  rw [List.nil_append] at hown
  obtain ⟨A7, c7, rfl, hc7, hm7⟩ := hown.form
  exact h A7 c7 w' hb (OwnI.rd hown rfl) hc7 hm7
end Go.Proofs.Ytkgajcifanobnaa

/-
  What the document's answers for layer 5 return (Finish), and that they leave memory as it was.
  Conditions: the arguments lie in their types' ranges; what is hashed is small.
-/
import Derived.Test.YtdnjnbeoioicfaaDoorRefH
set_option linter.unusedSimpArgs false
namespace Go.Proofs.YtdnjnbeoioicfaaDoor
open Go.ChangeShapes Go.WideShapes Go.ChangeAt Go.RowKit
set_option linter.unusedVariables false
section
variable {P : Program} {w w' : World} {ops : Array Oper} {rest : List Oper} {o : Oper} {a : Act} {Q : Exit → Act → World → Prop}
theorem wpList_load_at (hgd : o.guard = none) (ty : TypeId) (x : Operand) (ho : o.op = .load ty x) (g off : Nat) (hx : a.eval x = .pointer (some ⟨g, off, none⟩)) (k : IntKind) (zs : List Int) (hb : w.rangeAt g off (zs.map (Value.int k)))
    (d : TypeDesc) (hu : P.underlying ty = some d) (hd : d.isRow = true) (hi : (P.info? ty).map (·.size) = some zs.length)
    (h : wpList P ops Q rest (a.put o.dst (.agg (intsA k zs))) w) : wpList P ops Q (o :: rest) a w :=
  wpList_load_mid hgd ty x ho g off hx (zs.map (Value.int k)) d hb hu hd (by rw [List.length_map]; exact hi) h
end
theorem run_build_hash (w : World) : (Instr.build 23 #[]).run Tryd.prog w = .ok (.agg (intsA .u8 (List.replicate 32 0))) w := by
  obtain ⟨i0, hi0, _, hs0, _⟩ := info_parts info_u8'
  have h := Tryd.underlying23
  simp [Instr.build, zero_hash, run_underlying h, Instr.fill, sizeOf, typeInfo, hi0, go_sem, Value.cells, intsA]
theorem build_hash {a : Act} {o : Oper} (w : World) (ho : o.op = .build 23 #[]) : (execOp a.eval o).run Tryd.prog w = .ok (.value (.agg (intsA .u8 (List.replicate 32 0)))) w := by
  unfold execOp
  simp only [ho, List.map_toArray, List.map_nil]
  change ((Instr.build 23 #[]) >>= fun v => pure (Next.value v)).run Tryd.prog w = _
  simp only [Sem.run_bind, run_build_hash, Result.andThen_ok, Sem.run_pure]
theorem BlkI.blk {w : World} {g : Nat} {t : TypeId} {k : IntKind} {zs : List Int} (h : BlkI w g t k zs) : Blk w g t (intsA k zs) := h
theorem hash_size (R : List Int) (hl : R.length = 32) : (Tryd.prog.info? 23).map (·.size) = some (intsA .u8 R).size := by rw [intsA_size, hl]; exact size_hash
end Go.Proofs.YtdnjnbeoioicfaaDoor

/-
  What the document's answers for layer 5 return (Write, Finish), and that they leave memory as it was.
  Conditions: the arguments lie in their types' ranges; what is hashed is small.
-/
import Derived.Test.YtdnjnbeoioicfaaDoorRefG
set_option linter.unusedSimpArgs false
namespace Go.Proofs.YtdnjnbeoioicfaaDoor
open Go.ChangeShapes Go.WideShapes Go.ChangeAt Go.RowKit
set_option linter.unusedVariables false
section
variable {P : Program} {w w' : World} {ops : Array Oper} {rest : List Oper} {o : Oper} {a : Act} {Q : Exit → Act → World → Prop}
theorem wpList_load_blk (hgd : o.guard = none) (ty : TypeId) (x : Operand) (ho : o.op = .load ty x) (g : Nat) (hx : a.eval x = .pointer (some ⟨g, 0, none⟩)) (t : TypeId) (cs : Array Value) (hb : Blk w g t cs)
    (d : TypeDesc) (hu : P.underlying ty = some d) (hd : d.isRow = true) (hi : (P.info? ty).map (·.size) = some cs.size)
    (h : wpList P ops Q rest (a.put o.dst (.agg cs)) w) : wpList P ops Q (o :: rest) a w :=
  wpList_load_mid hgd ty x ho g 0 hx cs.toList d hb.range hu hd (by rw [Array.length_toList]; exact hi) (by rw [Array.toArray_toList]; exact h)
end
theorem Rd.other {k : IntKind} {w w' : World} {B n r : Nat} {A : Option Addr} {zs : List Int} (h : Rd k w B A n zs) (ho : ∀ j, j ≠ r → w'.heap[j]? = w.heap[j]?) (hne : ∀ b off, 0 < n → A = some ⟨b, off, none⟩ → b ≠ r) : Rd k w' B A n zs :=
  ⟨h.1, fun hn => by
    obtain ⟨b, off, e, hb, hc⟩ := h.2 hn
    refine ⟨b, off, e, hb, fun j hj => ?_⟩
    rw [← hc j hj]
    simp only [World.cell?, ho b (hne b off hn e)]⟩
theorem wrV_kind (s : List Int) (A : Option Addr) (r c : Nat) (n : Int) (j : Nat) (z : Int) : (wrV s A r c n)[j]? ≠ some (.int .u8 z) := by
  intro h
  unfold wrV at h
  rw [List.getElem?_toArray] at h
  rcases List.mem_append.1 (List.mem_of_getElem? h) with h1 | h1
  · obtain ⟨x, _, hx⟩ := List.mem_map.1 h1
    injection hx with h2 h3
    cases h2
  · simp at h1
theorem Rd.apart {w : World} {B n g : Nat} {A : Option Addr} {zs : List Int} {t : TypeId} {s : List Int} {A' : Option Addr} {r c : Nat} {m : Int} (h : Rd .u8 w B A n zs) (hk : Blk w g t (wrV s A' r c m)) : ∀ b off, 0 < n → A = some ⟨b, off, none⟩ → b ≠ g := by
  intro b off hn e hbg
  obtain ⟨b1, off1, e1, _, hc⟩ := h.2 hn
  rw [e] at e1
  injection e1 with e1
  injection e1 with e2 e3
  have h0 := hc 0 hn
  rw [← e2, ← e3, hbg, hk.cell] at h0
  exact wrV_kind _ _ _ _ _ _ _ h0
theorem run_build_zero (w : World) : (Instr.build 60 #[]).run Tryd.prog w = .ok (.agg #[.int .u32 0, .int .u32 0, .int .u32 0, .int .u32 0, .int .u32 0, .int .u32 0, .int .u32 0, .int .u32 0, .slice none 0 0, .int .u64 0]) w := by
  go_simp
theorem build_zero {a : Act} {o : Oper} (w : World) (ho : o.op = .build 60 #[]) : (execOp a.eval o).run Tryd.prog w = .ok (.value (.agg (wrV Z8 none 0 0 0))) w := by
  unfold execOp
  simp only [ho, List.map_toArray, List.map_nil]
  change ((Instr.build 60 #[]) >>= fun v => pure (Next.value v)).run Tryd.prog w = _
  simp only [Sem.run_bind, run_build_zero, Result.andThen_ok, Sem.run_pure]
  rfl
/-- Nothing, and the reason. -/
def RetWE (w : World) (k : Int) (e : Ending) (w' : World) : Prop := e = .returned (.tuple #[.agg (wrV Z8 none 0 0 0), .int .i64 k]) ∧ Below w.heap.size w w'
/-- A writer of this state and rest, that has taken n bytes. -/
def RetW (w : World) (s r : List Int) (n : Int) (e : Ending) (w' : World) : Prop :=
  ∃ A c, e = .returned (.tuple #[.agg (wrV s A r.length c n), .int .i64 0]) ∧ Rd .u8 w' w'.heap.size A r.length r ∧ r.length ≤ c ∧ Below w.heap.size w w'
end Go.Proofs.YtdnjnbeoioicfaaDoor

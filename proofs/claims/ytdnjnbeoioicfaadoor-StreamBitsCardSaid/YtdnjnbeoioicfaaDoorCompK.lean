/-
  The table of the program's constants: what it holds, and that it stays so while the calls of package comp run.
  Conditions: the table reads, when the call begins, as the program's text lays it (the card ties that).
-/
import Derived.Test.YtdnjnbeoioicfaaDoorCompP
import Derived.Test.YtdnjnbeoioicfaaDoorArrA
import Derived.Test.YtdnjnbeoioicfaaDoorMemA
import Derived.Test.YtdnjnbeoioicfaaDoorRows
import Derived.ProofKit
import Derived.LaidMore
import Derived.OpenShut
import Derived.Stop.Joined
namespace Go.Proofs.YtdnjnbeoioicfaaDoor
open Go.ChangeShapes Go.WideShapes Go.ChangeAt Go.RowKit
set_option linter.unusedVariables false
/-- The table holds the constants. -/
def Kst (w : World) : Prop := 0 < w.heap.size ∧ ∀ j, j < 64 → w.cell? ⟨0, j, none⟩ = some (.int .u32 (constL.getD j 0))
theorem Kst.below {w w' : World} (h : Kst w) (hb : Below w.heap.size w w') : Kst w' :=
  ⟨Nat.lt_of_lt_of_le h.1 hb.size, fun j hj => by rw [hb.cell (p := ⟨0, j, none⟩) h.1]; exact h.2 j hj⟩
theorem Kst.alloc {w : World} (h : Kst w) (o : Obj) : Kst (w.alloc o) := h.below ((Below.refl _ _).alloc (Nat.le_refl _) o)
theorem Kst.drew {w : World} (h : Kst w) : Kst w.drew := h
theorem Kst.of_heap {w w' : World} (h : Kst w) (e : w'.heap = w.heap) : Kst w' :=
  ⟨by rw [e]; exact h.1, fun j hj => by rw [World.cell?_of_block (w := w) (w' := w') (a := ⟨0, j, none⟩) (by rw [e])]; exact h.2 j hj⟩
abbrev laidK : List (String × DataW Unit) := [("drawlot/comp.constants", Rows.laid_drawlot_comp_constants)]
theorem gConsts : Tryd.prog.globalNamed "drawlot/comp.constants" = some 0 := by kernel_rfl
theorem tConsts : (Tryd.prog.globals[0]?).map (·.type) = some 74 := by kernel_rfl
theorem laidD : (Rows.laid_drawlot_comp_constants : DataW Unit) = .agg (constL.map fun z => .lit (.int .u32 z)) := by kernel_rfl
/-- An array of integers in memory, read: its numbers are those of the datum. -/
theorem trod_arr_ints {H : Type} {enc : TypeId × Value → H} {P : Program} {w : World} {base n fuel : Nat} {spare : TypeId → Bool} {held : Bool} {t e : TypeId} {q : IntKind} {cs : Array Value} {ys : List Int} {p : List MemPlace} (ht : P.underlying t = some (.array n e)) (he : P.underlying e = some (.int q)) (hc : P.cellsOf e = 1) (hC : P.cellsOf t = n)
    (hf : DataW.trod enc P w base spare held fuel t cs.toList = some (.agg (ys.map fun z => .lit (.int q z)), p)) : ∀ i, i < n → cs[i]? = some (.int q (ys.getD i 0)) := by
  obtain ⟨xs, m, _, hx, hl, hxl, hat⟩ := DataW.trod_array ht hf
  rw [hC] at hl
  rw [hc] at hat
  have hl' : cs.size = n := by simpa using hl
  have hd := congrArg Prod.fst hx
  simp only [DataW.agg.injEq] at hd
  intro i hi
  have h1 := hat i hi
  have e1 : List.take 1 (List.drop (i * 1) cs.toList) = [cs[i]'(by omega)] := by
    simp only [Nat.mul_one]
    rw [List.drop_eq_getElem_cons (by simpa using (show i < cs.size by omega))]
    simp
  rw [e1] at h1
  have hxi : xs[i]? = some (xs[i]'(by omega)) := List.getElem?_eq_getElem (by omega)
  rw [hxi] at h1
  obtain ⟨a, ea, ex, wa⟩ := DataW.trod_int he h1
  have h2 := congrArg (fun l => l[i]?) hd
  simp only [List.getElem?_map, hxi, Option.map_some, ex] at h2
  have h3 : ys[i]? = some a := by
    cases hy : ys[i]? with
    | none => rw [hy] at h2; cases h2
    | some y => rw [hy] at h2; simp only [Option.map_some, Option.some.injEq, DataW.lit.injEq, Lit.int.injEq, true_and] at h2; rw [h2]
  rw [Array.getElem?_eq_getElem (by omega), List.getD_eq_getElem?_getD, h3]
  simpa using ea
/-- What the condition gives the walks. -/
theorem kst_of_laid {W : World} (h : laidMetH Tryd.prog laidK W) : Kst W := by
  rw [MakeChecks.laidMetH_plain _ _ _ (by kernel_rfl)] at h
  obtain ⟨ps, ⟨g0, t0, cs0, f0, p0, q0, hg0, ht0, hv0, hd0, _⟩, _, _⟩ := h
  obtain rfl := Option.some.inj (gConsts.symm.trans hg0)
  obtain rfl := Option.some.inj (tConsts.symm.trans ht0)
  rw [laidD] at hd0
  have hz := trod_arr_ints Tryd.underlying74 Tryd.underlying32 (by kernel_rfl) (by kernel_rfl) hd0
  have hc : ∀ j, j < 64 → W.cell? ⟨0, j, none⟩ = some (.int .u32 (constL.getD j 0)) := fun j hj => (World.var?_cell hg0 hv0 j).trans (hz j hj)
  refine ⟨?_, hc⟩
  have h0 := hc 0 (by decide)
  by_cases hlt : 0 < W.heap.size
  · exact hlt
  · exfalso
    simp only [World.cell?, Array.getElem?_eq_none (Nat.le_of_not_lt hlt)] at h0
    cases h0
/-- The heap that the program's own start leaves meets the condition. -/
theorem door_met (os : Os) (args : Array Value) : laidMetH Tryd.prog laidK ((World.doorLaid Tryd.prog 400 os).forCall (fun _ _ => 0) ⟨#[], args, []⟩).memory :=
  laidMetH_of_parts3 (fuel := 8) (laidMet_of_run' 8 (by kernel_rfl) (by kernel_rfl)) (by kernel_rfl) (by kernel_rfl)
end Go.Proofs.YtdnjnbeoioicfaaDoor

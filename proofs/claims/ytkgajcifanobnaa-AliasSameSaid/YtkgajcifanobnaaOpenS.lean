/-
  A law's argument that is a table (a struct of a number and a slice of pairs), opened.
  Conditions: those that each theorem names.
-/
import Derived.Test.YtkgajcifanobnaaOpenA
import Derived.Test.YtkgajcifanobnaaPairM
import Derived.Deep.SlicePairs
import Derived.ChangeSame
set_option maxRecDepth 100000
set_option linter.unusedVariables false
set_option linter.unusedSimpArgs false
namespace Go.Proofs.Ytkgajcifanobnaa
open Go.ChangeShapes Go.WideShapes Go.ChangeAt Go.RowKit
theorem open_pairsC {H : Type} {enc : TypeId × Value → H} {P : Program} {w : World} {base fuel : Nat} {spare : Nat → Bool} {held : Bool} {t e : TypeId} {f0 f1 : Field} {k0 k1 : IntKind} {cs : List Value} {x : DataW H × List MemPlace}
    (ht : P.underlying t = some (.slice e)) (he : P.underlying e = some (.struct #[f0, f1])) (ce : P.cellsOf e = 2) (o0 : f0.offset = 0) (o1 : f1.offset = 1) (c0 : P.cellsOf f0.type = 1) (c1 : P.cellsOf f1.type = 1)
    (hk0 : P.underlying f0.type = some (.int k0)) (hk1 : P.underlying f1.type = some (.int k1)) (hf : DataW.trod enc P w base spare held fuel t cs = some x) :
    ∃ (a : Option Addr) (len cap : Nat) (ts : List (Int × Int)), cs = [.slice a len cap] ∧ RdPr k0 k1 w w.heap.size a len ts ∧ len ≤ cap ∧ cap ≤ maxLen ∧ ∀ q ∈ ts, (Lit.int k0 q.1).wf = true ∧ (Lit.int k1 q.2).wf = true := by
  rcases Go.Deep.open_slice_pairs ht he ce o0 o1 c0 c1 hf with ⟨hcs, _⟩ | ⟨x, len, cap, m, n, V0, V1, D0, D1, P0, P1, hcs, _, hl, hm, hmm, _, hr⟩
  · exact ⟨none, 0, 0, [], hcs, ⟨rfl, fun h => absurd h (by omega)⟩, Nat.le_refl _, by simp [maxLen], fun _ h => by cases h⟩
  · have hlm : len ≤ m := by rw [hmm]; split <;> omega
    have each : ∀ i, i < m → ∃ q : Int × Int, V0 i = .int k0 q.1 ∧ V1 i = .int k1 q.2 ∧ (Lit.int k0 q.1).wf = true ∧ (Lit.int k1 q.2).wf = true := fun i hi => by
      obtain ⟨_, _, g0, g1⟩ := hr i hi
      obtain ⟨z0, e0, _, w0⟩ := DataW.trod_int hk0 g0
      obtain ⟨z1, e1, _, w1⟩ := DataW.trod_int hk1 g1
      injection e0 with e0 _
      injection e1 with e1 _
      exact ⟨(z0, z1), e0, e1, w0, w1⟩
    obtain ⟨q, hq⟩ := Go.Deep.choose_lt each
    refine ⟨some x, len, cap, (List.range len).map q, hcs, ⟨by simp, fun hn => ?_⟩, hl, hm, fun y hy => ?_⟩
    · obtain ⟨b, off, spot⟩ := x
      have h0 := (hr 0 (by omega)).1
      have hspot : spot = none := by simpa [Addr.add] using World.cell?_spot h0
      subst hspot
      have h1 : w.cell? ⟨b, off, none⟩ = some (V0 0) := by simpa [Addr.add] using h0
      refine ⟨b, off, rfl, World.block_lt_of_cell? w _ h1, fun j hj => ?_⟩
      have e : ((List.range len).map q).getD j (0, 0) = q j := by simp [hj]
      obtain ⟨g0, g1, _, _⟩ := hr j (by omega)
      rw [add_flat] at g0 g1
      rw [e, ← (hq j (by omega)).1, ← (hq j (by omega)).2.1]
      exact ⟨g0, g1⟩
    · obtain ⟨i, hi, rfl⟩ := List.mem_map.1 hy
      have hi' := List.mem_range.1 hi
      exact ⟨(hq i (by omega)).2.2.1, (hq i (by omega)).2.2.2⟩
theorem open_tab {H : Type} {enc : TypeId × Value → H} {w : World} {base b0 : Nat} {spare : Nat → Bool} {held : Bool} {r : Reach} {v : Value} {d : DataW H} {p : List MemPlace}
    (hv : Value.okWide Try.prog w r b0 27 v) (h : DataW.Trod enc Try.prog w base spare held 27 v d p) :
    ∃ (T : Int) (A : Option Addr) (n c : Nat) (ts : List (Int × Int)), v = .agg #[.int .u64 T, .slice A n c] ∧ RdPr .u64 .i64 w w.heap.size A n ts ∧ n ≤ c ∧ c ≤ maxLen ∧ (Lit.int .u64 T).wf = true ∧ ∀ q ∈ ts, (Lit.int .u64 q.1).wf = true ∧ (Lit.int .i64 q.2).wf = true := by
  have hv' : ∃ cs : Array Value, v = .agg cs := by
    simp only [Value.okWide, Try.underlying27] at hv
    obtain ⟨cs, h1, _⟩ := hv
    exact ⟨cs, h1⟩
  obtain ⟨cs, rfl⟩ := hv'
  obtain ⟨fuel, hf⟩ := h
  obtain ⟨y0, y1, m, _, hl, g0, g1⟩ := trod_struct2 Try.underlying27 hf
  have hC : Try.prog.cellsOf 27 = 2 := by kernel_rfl
  rw [hC] at hl
  obtain ⟨ls, hls⟩ : ∃ ls, (Value.cells (.agg cs)).toList = ls := ⟨_, rfl⟩
  have hcs : cs = ls.toArray := by rw [← hls]; rfl
  rw [hls] at hl g0 g1
  have cl : Try.prog.cellsOf 25 = 1 := by kernel_rfl
  have cu : Try.prog.cellsOf 24 = 1 := by kernel_rfl
  match ls, hl with
  | [u, s], _ =>
    change DataW.trod enc Try.prog w base spare held m 24 (List.take (Try.prog.cellsOf 24) [u, s]) = some y0 at g0
    change DataW.trod enc Try.prog w base spare held m 25 (List.take (Try.prog.cellsOf 25) [s]) = some y1 at g1
    rw [cu] at g0
    rw [cl] at g1
    obtain ⟨T, hT, _, wT⟩ := DataW.trod_int Try.underlying24 g0
    obtain ⟨A, n, c, ts, hS, hr, hnc, hcm, hw⟩ := open_pairsC Try.underlying25 Try.underlying44 (by kernel_rfl) (by kernel_rfl) (by kernel_rfl) (by kernel_rfl) (by kernel_rfl) Try.underlying24 Try.underlying3 g1
    injection hT with hT _
    injection hS with hS _
    exact ⟨T, A, n, c, ts, by rw [hcs, hT, hS], hr, hnc, hcm, wT, hw⟩
end Go.Proofs.Ytkgajcifanobnaa

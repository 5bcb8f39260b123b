/-
  Arrays of integers by value: an element of one, its reading as an argument, and that reading given back behind a call.
  Conditions: the element's type is an integer type of one cell.
-/
import Derived.Test.YtdnjnbeoioicfaaDoorRows
import Derived.Handy
import Derived.Lib.Hide
import Derived.Below
import Derived.ChangeSame
namespace Go.Proofs.YtdnjnbeoioicfaaDoor
open Go.ChangeShapes Go.WideShapes Go.ChangeAt Go.RowKit

theorem run_index_arr {P : Program} {t e : TypeId} {n : Nat} {q : IntKind} {f : TypeInfo} (h : P.underlying t = some (.array n e)) (he : P.underlying e = some (.int q)) (hi : P.info? e = some f) (hs : f.size = 1)
    (cs : Array Value) (k : IntKind) (i : Int) (v : Value) (i0 : 0 ≤ i) (i1 : i < n) (hv : cs[i.toNat]? = some v) (w : World) : (Instr.index t (.agg cs) (.int k i)).run P w = .ok v w := by
  simp [Instr.index, run_underlying h, asIntOf, i0, i1, part, isAgg, run_underlying he, sizeOf, typeInfo, hi, hs, hv, go_sem]

theorem run_eqItems_ints {P : Program} {e : TypeId} {q : IntKind} {f : TypeInfo} (d : Nat) (he : P.underlying e = some (.int q)) (hi : P.info? e = some f) (hs : f.size = 1) (w : World) (zs ys : List Int) :
    ∀ is : List Nat, (∀ i ∈ is, i < zs.length ∧ i < ys.length) → (Op.eqItems (d + 1) e 1 (zs.map (Value.int q)).toArray (ys.map (Value.int q)).toArray is).run P w = .ok (is.all fun i => zs.getD i 0 == ys.getD i 0) w
  | [], _ => by simp [Op.eqItems]
  | i :: is, h => by
    obtain ⟨h1, h2⟩ := h i (by simp)
    have ih := run_eqItems_ints d he hi hs w zs ys is fun j hj => h j (by simp [hj])
    have p1 : (part e (zs.map (Value.int q)).toArray (i * 1)).run P w = .ok (.int q (zs.getD i 0)) w := by
      simp [part, isAgg, run_underlying he, h1, go_sem]
    have p2 : (part e (ys.map (Value.int q)).toArray (i * 1)).run P w = .ok (.int q (ys.getD i 0)) w := by
      simp [part, isAgg, run_underlying he, h2, go_sem]
    simp only [Op.eqItems, Sem.run_bind, p1, p2, Result.andThen_ok, run_equalIn_int w d e q q _ _ he]
    by_cases hz : zs.getD i 0 = ys.getD i 0
    · rw [beq_iff_eq.2 hz]
      simp only [Bool.not_true, Bool.false_eq_true, if_false, List.all_cons, beq_iff_eq.2 hz, Bool.true_and]
      exact ih
    · rw [beq_eq_false_iff_ne.2 hz]
      simp only [Bool.not_false, if_true, List.all_cons, beq_eq_false_iff_ne.2 hz, Bool.false_and, Sem.run_pure]

/-- Two arrays of integers are compared number by number. -/
theorem run_equal_ints {P : Program} {t e : TypeId} {n : Nat} {q : IntKind} {f : TypeInfo} (h : P.underlying t = some (.array n e)) (he : P.underlying e = some (.int q)) (hi : P.info? e = some f) (hs : f.size = 1) (hc : P.cellsOf e = 1)
    (zs ys : List Int) (hz : zs.length = n) (hy : ys.length = n) (w : World) :
    (Op.equalIn 10000 t (.agg (zs.map (Value.int q)).toArray) (.agg (ys.map (Value.int q)).toArray)).run P w = .ok (decide (zs = ys)) w := by
  rw [run_equalIn_array w 9999 _ _ h hi, hc, run_eqItems_ints 9998 he hi hs w zs ys _ (fun i hi' => by simp at hi'; omega)]
  congr 1
  rw [Bool.eq_iff_iff, List.all_eq_true, decide_eq_true_iff]
  constructor
  · intro ha
    apply List.ext_getElem?
    intro i
    by_cases hi' : i < n
    · have := ha i (by simpa using hi')
      simp only [beq_iff_eq] at this
      rw [List.getElem?_eq_getElem (by omega), List.getElem?_eq_getElem (by omega)]
      simpa [List.getD, List.getElem?_eq_getElem (show i < zs.length by omega), List.getElem?_eq_getElem (show i < ys.length by omega)] using this
    · rw [List.getElem?_eq_none (by omega), List.getElem?_eq_none (by omega)]
  · rintro rfl i _
    simp

theorem list_of {α : Type} (n : Nat) {Q : Nat → α → Prop} (h : ∀ i, i < n → ∃ z, Q i z) : ∃ zs : List α, zs.length = n ∧ ∀ i, i < n → ∃ z, zs[i]? = some z ∧ Q i z := by
  induction n with
  | zero => exact ⟨[], rfl, fun i hi => by omega⟩
  | succ n ih =>
    obtain ⟨zs, hl, hz⟩ := ih fun i hi => h i (by omega)
    obtain ⟨z, hq⟩ := h n (by omega)
    refine ⟨zs ++ [z], by simp [hl], fun i hi => ?_⟩
    by_cases hi' : i < n
    · obtain ⟨y, e, hy⟩ := hz i hi'
      exact ⟨y, by rw [List.getElem?_append_left (by omega), e], hy⟩
    · obtain rfl : i = n := by omega
      exact ⟨z, by rw [List.getElem?_append_right (by omega)]; simp [hl], hq⟩

section
variable {H : Type} {enc : TypeId × Value → H} {P : Program} {w w' : World} {base : Nat} {spare : Nat → Bool} {held : Bool}

/-- The argument, opened: its numbers. -/
theorem open_arr_ints {r : Reach} {b0 n : Nat} {t e : TypeId} {q : IntKind} {v : Value} {d : DataW H} {p : List MemPlace} (ht : P.underlying t = some (.array n e)) (he : P.underlying e = some (.int q)) (hc : P.cellsOf e = 1) (hC : P.cellsOf t = n)
    (hv : Value.okWide P w r b0 t v) (h : DataW.Trod enc P w base spare held t v d p) :
    ∃ zs : List Int, zs.length = n ∧ v = .agg (zs.map (Value.int q)).toArray ∧ d = .agg (zs.map fun z => .lit (.int q z)) ∧ p = [] ∧ ∀ z ∈ zs, (Lit.int q z).wf = true := by
  have hv' : ∃ cs : Array Value, v = .agg cs := by
    simp only [Value.okWide, ht] at hv
    obtain ⟨cs, h1, _⟩ := hv
    exact ⟨cs, h1⟩
  obtain ⟨cs, rfl⟩ := hv'
  obtain ⟨fuel, hf⟩ := h
  obtain ⟨xs, m, _, hx, hl, hxl, hat⟩ := DataW.trod_array ht hf
  rw [hC] at hl
  rw [hc] at hat
  have hl' : cs.size = n := by simpa [Value.cells] using hl
  have hz : ∀ i (hi : i < n), ∃ z : Int, cs[i]? = some (.int q z) ∧ xs[i]? = some (.lit (.int q z), []) ∧ (Lit.int q z).wf = true := by
    intro i hi
    have h1 := hat i hi
    have e1 : List.take 1 (List.drop (i * 1) (Value.cells (.agg cs)).toList) = [cs[i]'(by omega)] := by
      simp only [Value.cells, Nat.mul_one]
      rw [List.drop_eq_getElem_cons (by simpa using (show i < cs.size by omega))]
      simp
    rw [e1] at h1
    have hxi : xs[i]? = some (xs[i]'(by omega)) := List.getElem?_eq_getElem (by omega)
    rw [hxi] at h1
    obtain ⟨a, ea, ex, wa⟩ := DataW.trod_int he h1
    refine ⟨a, ?_, ?_, wa⟩
    · rw [Array.getElem?_eq_getElem (by omega)]
      simpa using ea
    · rw [hxi, ex]
  obtain ⟨zs, hzl, hzs⟩ := list_of n hz
  have hcs : cs = (zs.map (Value.int q)).toArray := by
    apply Array.ext_getElem?
    intro i
    by_cases hi : i < n
    · obtain ⟨z, e1, e2, _⟩ := hzs i hi
      rw [e2, List.getElem?_toArray, List.getElem?_map, e1]
      rfl
    · rw [Array.getElem?_eq_none (by omega), Array.getElem?_eq_none (by simp; omega)]
  have hxs : xs = zs.map fun z => (DataW.lit (.int q z), []) := by
    apply List.ext_getElem?
    intro i
    by_cases hi : i < n
    · obtain ⟨z, e1, _, e3, _⟩ := hzs i hi
      rw [e3, List.getElem?_map, e1]
      rfl
    · rw [List.getElem?_eq_none (by omega), List.getElem?_eq_none (by simp; omega)]
  refine ⟨zs, hzl, by rw [hcs], ?_, ?_, ?_⟩
  · have := congrArg Prod.fst hx
    simp only at this
    rw [this, hxs]
    simp [Function.comp_def]
  · have := congrArg Prod.snd hx
    simp only at this
    rw [this, hxs]
    simp [List.flatMap_map]
  · intro z hz'
    obtain ⟨i, hi, e⟩ := List.mem_iff_getElem.1 hz'
    obtain ⟨z', e1, _, _, e4⟩ := hzs i (by omega)
    rw [List.getElem?_eq_getElem hi, e] at e1
    injection e1 with e1
    rw [e1]
    exact e4

/-- The argument, shut again, in whatever world. -/
theorem shut_arr_ints {n : Nat} {t e : TypeId} {q : IntKind} (ht : P.underlying t = some (.array n e)) (he : P.underlying e = some (.int q)) (hc : P.cellsOf e = 1) (hC : P.cellsOf t = n)
    {zs : List Int} (hl : zs.length = n) (hw : ∀ z ∈ zs, (Lit.int q z).wf = true) : DataW.Trod enc P w base spare held t (.agg (zs.map (Value.int q)).toArray) (.agg (zs.map fun z => .lit (.int q z))) [] := by
  refine ⟨2, ?_⟩
  have key : (List.range n).mapM (fun i => DataW.trod enc P w base spare held 1 e (List.take 1 (List.drop (i * 1) (Value.cells (.agg (zs.map (Value.int q)).toArray)).toList))) = some ((List.range n).map fun i => (DataW.lit (.int q (zs.getD i 0)), ([] : List MemPlace))) := by
    refine mapM_range_of n fun i hi => ?_
    have hi' : i < zs.length := by rw [hl]; exact hi
    have e1 : List.take 1 (List.drop (i * 1) (Value.cells (.agg (zs.map (Value.int q)).toArray)).toList) = [.int q zs[i]] := by
      simp only [Value.cells, Nat.mul_one]
      rw [List.drop_eq_getElem_cons (by simpa using hi')]
      simp
    rw [e1]
    simp [DataW.trod, he, hw _ (List.getElem_mem hi'), hi']
  have hzs : (List.range n).map (fun i => zs.getD i 0) = zs := by
    apply List.ext_getElem?
    intro i
    by_cases hi : i < n
    · simp [hi, hl]
    · rw [List.getElem?_eq_none (by simp; omega), List.getElem?_eq_none (by omega)]
  unfold DataW.trod
  rw [ht]
  simp only [hc, hC]
  rw [if_pos (by simp [Value.cells, hl]), key]
  simp only [Option.map_some, List.map_map, Function.comp_def, Option.some.injEq, Prod.mk.injEq, DataW.agg.injEq]
  refine ⟨?_, by simp [List.flatMap_map]⟩
  have := congrArg (List.map fun z => DataW.lit (H := H) (.int q z)) hzs
  rw [List.map_map] at this
  exact this
end
end Go.Proofs.YtdnjnbeoioicfaaDoor

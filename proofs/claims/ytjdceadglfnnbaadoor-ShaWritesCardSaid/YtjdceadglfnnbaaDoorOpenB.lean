/-
  A law's arguments, opened: a slice of slices of bytes, and a writer.
  Conditions: those that each theorem names.
-/
import Derived.Test.YtjdceadglfnnbaaDoorRefG
import Derived.Test.YtjdceadglfnnbaaDoorOpenA
import Derived.Deep.Matrix
set_option linter.unusedVariables false
set_option linter.unusedSimpArgs false
namespace Go.Proofs.YtjdceadglfnnbaaDoor
open Go.ChangeShapes Go.WideShapes Go.ChangeAt Go.RowKit
theorem rd_of_cells {k : IntKind} {w : World} {A : Option Addr} {L C : Nat} {Z : List Int} (hl : L ≤ C) (hz : Z.length = C) (h0 : A = none → C = 0) (hc : ∀ a', A = some a' → ∀ c, c < C → w.cell? (a'.add c) = some (.int k (Z.getD c 0))) : Rd k w w.heap.size A L (Z.take L) := by
  refine ⟨by rw [List.length_take]; omega, fun hn => ?_⟩
  rcases A with _ | ⟨b, off, spot⟩
  · have := h0 rfl; omega
  · have h1 := hc _ rfl 0 (by omega)
    have hspot : spot = none := by simpa [Addr.add] using World.cell?_spot h1
    subst hspot
    have h2 : w.cell? ⟨b, off, none⟩ = some (.int k (Z.getD 0 0)) := by simpa [Addr.add] using h1
    refine ⟨b, off, rfl, World.block_lt_of_cell? w _ h2, fun j hj => ?_⟩
    have h3 := hc _ rfl j (by omega)
    rw [add_flat] at h3
    rw [h3]
    congr 2
    simp only [List.getD_eq_getElem?_getD, List.getElem?_take]
    rw [if_pos hj]
theorem open_rows {H : Type} {enc : TypeId × Value → H} {P : Program} {w : World} {base : Nat} {held : Bool} {t e q : TypeId} {a : Option Addr} {len cap : Nat} {d : DataW H} {p : List MemPlace}
    (ht : P.underlying t = some (.slice e)) (he : P.underlying e = some (.slice q)) (hq : P.underlying q = some (.int .u8)) (ce : P.cellsOf e = 1) (cq : P.cellsOf q = 1) (h : DataW.Trod enc P w base (fun _ => true) held t (.slice a len cap) d p) :
    ∃ rs : List Row, RdRows w w.heap.size a len rs ∧ len ≤ cap ∧ cap ≤ maxLen ∧ ∀ r ∈ rs, r.n ≤ maxLen ∧ r.zs.length = r.n ∧ ∀ z ∈ r.zs, (Lit.int .u8 z).wf = true := by
  obtain ⟨fuel, hf⟩ := h
  rcases Go.Deep.open_int_rows ht he hq ce cq hf with ⟨hcs, _⟩ | ⟨x, l, c, A, L, C, Z, hcs, _, hl, hm, _, hr⟩
  · simp [Value.cells] at hcs
    obtain ⟨rfl, rfl, rfl⟩ := hcs
    exact ⟨[], ⟨rfl, fun h => absurd h (by omega), fun _ h => by cases h⟩, Nat.le_refl _, by simp [maxLen], fun _ h => by cases h⟩
  · simp [Value.cells] at hcs
    obtain ⟨rfl, rfl, rfl⟩ := hcs
    have hrd : ∀ r, r < len → Rd .u8 w w.heap.size (A r) (L r) ((Z r).take (L r)) := fun r h => by
      obtain ⟨_, h1, _, h3, _, h5, h6⟩ := hr r (by omega)
      exact rd_of_cells h1 h3 h5 (fun a' e' => (h6 a' e').2)
    refine ⟨(List.range len).map fun r => ⟨A r, L r, C r, (Z r).take (L r)⟩, ⟨by simp, fun hn => ?_, fun r hr' => ?_⟩, hl, hm, fun r hr' => ?_⟩
    · obtain ⟨b, off, spot⟩ := x
      have h0 := (hr 0 (by omega)).1
      have hspot : spot = none := by simpa [Addr.add] using World.cell?_spot h0
      subst hspot
      have h1 : w.cell? ⟨b, off, none⟩ = some (.slice (A 0) (L 0) (C 0)) := by simpa [Addr.add] using h0
      refine ⟨b, off, rfl, World.block_lt_of_cell? w _ h1, fun j r hj => ?_⟩
      rw [List.getElem?_map] at hj
      have hjl : j < len := by
        rcases Nat.lt_or_ge j len with h2 | h2
        · exact h2
        · rw [List.getElem?_eq_none (by simpa using h2)] at hj; cases hj
      rw [List.getElem?_range hjl] at hj
      injection hj with hj
      subst hj
      have h2 := (hr j (by omega)).1
      rw [add_flat] at h2
      exact h2
    · obtain ⟨i, hi, rfl⟩ := List.mem_map.1 hr'
      have hi' := List.mem_range.1 hi
      exact ⟨hrd i hi', (hr i (by omega)).2.1⟩
    · obtain ⟨i, hi, rfl⟩ := List.mem_map.1 hr'
      have hi' := List.mem_range.1 hi
      obtain ⟨_, h1, h2, h3, h4, _⟩ := hr i (by omega)
      exact ⟨by dsimp only; omega, (hrd i hi').1, fun z hz => h4 z (List.mem_of_mem_take hz)⟩
section
variable {H : Type} {enc : TypeId × Value → H} {P : Program} {w : World} {base : Nat} {spare : Nat → Bool} {held : Bool}
/-- The cells of an array of integers. -/
theorem trod_ints {fuel n : Nat} {t e : TypeId} {q : IntKind} {cs : List Value} {x : DataW H × List MemPlace} (ht : P.underlying t = some (.array n e)) (he : P.underlying e = some (.int q)) (hc : P.cellsOf e = 1) (hC : P.cellsOf t = n)
    (hf : DataW.trod enc P w base spare held fuel t cs = some x) : ∃ zs : List Int, zs.length = n ∧ cs = zs.map (Value.int q) ∧ ∀ z ∈ zs, (Lit.int q z).wf = true := by
  obtain ⟨xs, m, _, hx, hl, hxl, hat⟩ := DataW.trod_array ht hf
  rw [hC] at hl
  rw [hc] at hat
  have hz : ∀ i (hi : i < n), ∃ z : Int, cs[i]? = some (.int q z) ∧ (Lit.int q z).wf = true := by
    intro i hi
    have h1 := hat i hi
    have e1 : List.take 1 (List.drop (i * 1) cs) = [cs[i]'(by omega)] := by
      rw [Nat.mul_one, List.drop_eq_getElem_cons (show i < cs.length by omega), List.take_succ_cons, List.take_zero]
    rw [e1] at h1
    have hxi : xs[i]? = some (xs[i]'(by omega)) := List.getElem?_eq_getElem (by omega)
    rw [hxi] at h1
    obtain ⟨a, ea, _, wa⟩ := DataW.trod_int he h1
    refine ⟨a, ?_, wa⟩
    rw [List.getElem?_eq_getElem (by omega)]
    simpa using ea
  obtain ⟨zs, hzl, hzs⟩ := list_of n hz
  refine ⟨zs, hzl, ?_, ?_⟩
  · apply List.ext_getElem?
    intro i
    by_cases hi : i < n
    · obtain ⟨z, e1, e2, _⟩ := hzs i hi
      rw [e2, List.getElem?_map, e1]
      rfl
    · rw [List.getElem?_eq_none (by omega), List.getElem?_eq_none (by simp; omega)]
  · intro z hz'
    obtain ⟨i, hi, e⟩ := List.mem_iff_getElem.1 hz'
    obtain ⟨z', e1, _, e4⟩ := hzs i (by omega)
    rw [List.getElem?_eq_getElem hi, e] at e1
    injection e1 with e1
    rw [e1]
    exact e4
end
theorem open_wr {H : Type} {enc : TypeId × Value → H} {w : World} {base b0 : Nat} {spare : Nat → Bool} {held : Bool} {r : Reach} {v : Value} {d : DataW H} {p : List MemPlace}
    (hv : Value.okWide Tryd.prog w r b0 36 v) (h : DataW.Trod enc Tryd.prog w base spare held 36 v d p) :
    ∃ (s : List Int) (A : Option Addr) (m c : Nat) (n : Int) (zs : List Int), v = .agg (wrV s A m c n) ∧ s.length = 8 ∧ (∀ z ∈ s, (Lit.int .u32 z).wf = true) ∧ Rd .u8 w w.heap.size A m zs ∧ m ≤ c ∧ c ≤ maxLen ∧ (∀ z ∈ zs, (Lit.int .u8 z).wf = true) ∧ (Lit.int .u64 n).wf = true := by
  have hv' : ∃ cs : Array Value, v = .agg cs := by
    simp only [Value.okWide, Tryd.underlying36] at hv
    obtain ⟨cs, h1, _⟩ := hv
    exact ⟨cs, h1⟩
  obtain ⟨cs, rfl⟩ := hv'
  obtain ⟨fuel, hf⟩ := h
  obtain ⟨xs, m, _, _, hl, hxl, hat⟩ := DataW.trod_struct Tryd.underlying36 hf
  have hC : Tryd.prog.cellsOf 36 = 10 := by kernel_rfl
  rw [hC] at hl
  obtain ⟨ls, hls⟩ : ∃ ls, (Value.cells (.agg cs)).toList = ls := ⟨_, rfl⟩
  have hcs : cs = ls.toArray := by rw [← hls]; rfl
  rw [hls] at hl hat
  have c0 : Tryd.prog.cellsOf 33 = 8 := by kernel_rfl
  have c1 : Tryd.prog.cellsOf 29 = 1 := by kernel_rfl
  have c2 : Tryd.prog.cellsOf 34 = 1 := by kernel_rfl
  have g0 := hat 0 _ rfl
  have g1 := hat 1 _ rfl
  have g2 := hat 2 _ rfl
  change DataW.trod enc Tryd.prog w base spare held m 33 (List.take (Tryd.prog.cellsOf 33) (List.drop 0 ls)) = xs[0]? at g0
  change DataW.trod enc Tryd.prog w base spare held m 29 (List.take (Tryd.prog.cellsOf 29) (List.drop 8 ls)) = xs[1]? at g1
  change DataW.trod enc Tryd.prog w base spare held m 34 (List.take (Tryd.prog.cellsOf 34) (List.drop 9 ls)) = xs[2]? at g2
  have hx3 : xs.length = 3 := hxl
  rw [c0, List.drop_zero, List.getElem?_eq_getElem (show 0 < xs.length by omega)] at g0
  rw [c1, List.drop_eq_getElem_cons (show 8 < ls.length by omega), List.take_succ_cons, List.take_zero, List.getElem?_eq_getElem (show 1 < xs.length by omega)] at g1
  rw [c2, List.drop_eq_getElem_cons (show 9 < ls.length by omega), List.take_succ_cons, List.take_zero, List.getElem?_eq_getElem (show 2 < xs.length by omega)] at g2
  obtain ⟨s, hsl, hs, hsw⟩ := trod_ints Tryd.underlying33 Tryd.underlying31 (by kernel_rfl) (by kernel_rfl) g0
  obtain ⟨n, hn, _, hnw⟩ := DataW.trod_int Tryd.underlying34 g2
  injection hn with hn _
  have hlist : ls = s.map (Value.int .u32) ++ [ls[8]'(by omega), ls[9]'(by omega)] := by
    rw [← hs]
    conv => lhs; rw [← List.take_append_drop 8 ls]
    congr 1
    rw [List.drop_eq_getElem_cons (show 8 < ls.length by omega), List.drop_eq_getElem_cons (show 9 < ls.length by omega), List.drop_eq_nil_of_le (by omega)]
  rcases open_ints Tryd.underlying29 Tryd.underlying5 (by kernel_rfl) g1 with ⟨hcs1, _⟩ | ⟨x, l, c, zs, hcs1, _, hl1, hm1, hz1, _, hcell, hwz⟩
  · injection hcs1 with hcs1 _
    refine ⟨s, none, 0, 0, n, [], ?_, hsl, hsw, Rd.none_, Nat.le_refl _, by simp [maxLen], fun _ h => by (cases h), hnw⟩
    rw [hcs, hlist, hcs1, hn]
    rfl
  · injection hcs1 with hcs1 _
    have hlz : l ≤ zs.length := by rw [hz1]; split <;> omega
    refine ⟨s, some x, l, c, n, zs.take l, ?_, hsl, hsw, ?_, hl1, hm1, fun z hz => hwz z (List.mem_of_mem_take hz), hnw⟩
    · rw [hcs, hlist, hcs1, hn]
      rfl
    · exact rd_of_cells hlz rfl (fun h => by cases h) (fun a' e' c' hc' => by injection e' with e'; subst e'; exact hcell c' hc')
end Go.Proofs.YtjdceadglfnnbaaDoor

/-
  A table that the landed alias builds, in memory: a block of five cells (the table, what each place still has, the small and the large ones); what is taken off a list, and put behind one.
  Conditions: those that each theorem names.
-/
import Derived.Test.YtkgajcifanobnaaRows
import Derived.Test.YtkgajcifanobnaaTabN
import Derived.Test.YtkgajcifanobnaaTabQ
import Derived.BigQuiet
set_option maxRecDepth 100000
set_option linter.unusedVariables false
set_option linter.unusedSimpArgs false
namespace Go.Proofs.Ytkgajcifanobnaa
open Go.ChangeShapes Go.WideShapes Go.ChangeAt Go.RowKit
theorem OwnI.cell1 {w : World} {base : Nat} {e : TypeId} {k : IntKind} {v : Value} {zs : List Int} (h : OwnI w base e k v zs) : v.cells = #[v] ∧ v.oneCell' = true := by
  obtain ⟨A, c, rfl, _, _⟩ := h.form
  exact ⟨rfl, rfl⟩
/-- The table that is built lies at g, what places have at gH, its cells at gC; small and large places in rows of the call's own. -/
structure LayS (w0 : World) (g gH gC n : Nat) (T : Int) (hs : List Int) (ts : List (Int × Int)) (vS vL : Value) (sm lg : List Int) (w : World) : Prop where
  bY : Blk w g 52 #[.int .u64 T, .slice (some ⟨gC, 0, none⟩) n n, .slice (some ⟨gH, 0, none⟩) n n, vS, vL]
  bH : Blk w gH 24 (intsA .u64 hs)
  bC : Blk w gC 44 (cellsA ts)
  oS : OwnI w w0.heap.size 3 .i64 vS sm
  oL : OwnI w w0.heap.size 3 .i64 vL lg
  ap : ∀ g, vS.ownBlock = some g → vL.ownBlock ≠ some g
  bel : Below w0.heap.size w0 w
  leY : w0.heap.size ≤ g
  leH : w0.heap.size ≤ gH
  leC : w0.heap.size ≤ gC
section
variable {w0 w w' w'' : World} {g gH gC n c j k : Nat} {T : Int} {hs sm lg : List Int} {ts : List (Int × Int)} {vS vL v' : Value} {A : Option Addr} {x y : Int}
theorem LayS.below (h : LayS w0 g gH gC n T hs ts vS vL sm lg w) (hb : Below w.heap.size w w') : LayS w0 g gH gC n T hs ts vS vL sm lg w' :=
  ⟨h.bY.below hb h.bY.lt, h.bH.below hb h.bH.lt, h.bC.below hb h.bC.lt, h.oS.below hb, h.oL.below hb, h.ap, h.bel.trans (hb.mono h.bel.size), h.leY, h.leH, h.leC⟩
theorem LayS.alloc (h : LayS w0 g gH gC n T hs ts vS vL sm lg w) (o : Obj) : LayS w0 g gH gC n T hs ts vS vL sm lg (w.alloc o) := h.below ((Below.refl _ _).alloc (Nat.le_refl _) _)
theorem LayS.drew (h : LayS w0 g gH gC n T hs ts vS vL sm lg w) : LayS w0 g gH gC n T hs ts vS vL sm lg w.drew := h.below (Below.refl _ _).drew
theorem LayS.drewN (h : LayS w0 g gH gC n T hs ts vS vL sm lg w) (m : Nat) : LayS w0 g gH gC n T hs ts vS vL sm lg (w.drewN m) := h.below (below_drewN (Below.refl _ _) _)
theorem LayS.size (h : LayS w0 g gH gC n T hs ts vS vL sm lg w) : w0.heap.size ≤ w.heap.size := h.bel.size
theorem LayS.rd (h : LayS w0 g gH gC n T hs ts vS vL sm lg w) {l : List Int} {m : Nat} (hr : Rd .u64 w0 w0.heap.size A m l) : Rd .u64 w w.heap.size A m l := (hr.below h.bel).mono h.size
theorem LayS.c0 (h : LayS w0 g gH gC n T hs ts vS vL sm lg w) : w.cell? ⟨g, 0, none⟩ = some (.int .u64 T) := by rw [h.bY.cell]; rfl
theorem LayS.c1 (h : LayS w0 g gH gC n T hs ts vS vL sm lg w) : w.cell? ⟨g, 1, none⟩ = some (.slice (some ⟨gC, 0, none⟩) n n) := by rw [h.bY.cell]; rfl
theorem LayS.c2 (h : LayS w0 g gH gC n T hs ts vS vL sm lg w) : w.cell? ⟨g, 2, none⟩ = some (.slice (some ⟨gH, 0, none⟩) n n) := by rw [h.bY.cell]; rfl
theorem LayS.c3 (h : LayS w0 g gH gC n T hs ts vS vL sm lg w) : w.cell? ⟨g, 3, none⟩ = some vS := by rw [h.bY.cell]; rfl
theorem LayS.c4 (h : LayS w0 g gH gC n T hs ts vS vL sm lg w) : w.cell? ⟨g, 4, none⟩ = some vL := by rw [h.bY.cell]; rfl
theorem LayS.atH (h : LayS w0 g gH gC n T hs ts vS vL sm lg w) (hk : k < hs.length) : w.cell? ⟨gH, k, none⟩ = some (.int .u64 (hs.getD k 0)) := by
  rw [h.bH.cell]
  simp [intsA, hk]
theorem LayS.putH (h : LayS w0 g gH gC n T hs ts vS vL sm lg w) (hk : Blk w' gH 24 ((intsA .u64 hs).setIfInBounds k (.int .u64 x))) (ho : Only gH w w') : LayS w0 g gH gC n T (hs.set k x) ts vS vL sm lg w' := by
  have nY : g ≠ gH := h.bY.ne h.bH (by decide)
  have nC : gC ≠ gH := h.bC.ne h.bH (by decide)
  refine ⟨h.bY.only ho nY, ?_, h.bC.only ho nC, h.oS.only h.bH (by decide) ho, h.oL.only h.bH (by decide) ho, h.ap, h.bel.trans (ho.below h.leH h.size), h.leY, h.leH, h.leC⟩
  have e : (intsA .u64 hs).setIfInBounds k (.int .u64 x) = intsA .u64 (hs.set k x) := by
    apply Array.ext'
    simp [intsA, List.map_set]
  rw [← e]
  exact hk
theorem LayS.putC (h : LayS w0 g gH gC n T hs ts vS vL sm lg w) (hk : Blk w' gC 44 (putAll (cellsA ts) (k * 2) [.int .u64 x, .int .i64 y])) (ho : Only gC w w') : LayS w0 g gH gC n T hs (ts.set k (x, y)) vS vL sm lg w' := by
  have nY : g ≠ gC := h.bY.ne h.bC (by decide)
  have nH : gH ≠ gC := h.bH.ne h.bC (by decide)
  refine ⟨h.bY.only ho nY, h.bH.only ho nH, ?_, h.oS.only h.bC (by decide) ho, h.oL.only h.bC (by decide) ho, h.ap, h.bel.trans (ho.below h.leC h.size), h.leY, h.leH, h.leC⟩
  rw [← cellsA_put]
  exact hk
/-- The small ones grow, and their slice is stored. -/
theorem LayS.growS (h : LayS w0 g gH gC n T hs ts vS vL sm lg w) (hg : w.grownBy w' vS.ownBlock) (ho : OwnI w' w0.heap.size 3 .i64 v' (sm ++ [x])) (hat : v'.ownBlock = vS.ownBlock ∨ v'.ownBlock = some w.heap.size)
    (hk : Blk w'' g 52 (#[.int .u64 T, .slice (some ⟨gC, 0, none⟩) n n, .slice (some ⟨gH, 0, none⟩) n n, vS, vL].setIfInBounds 3 v')) (h2 : Only g w' w'') : LayS w0 g gH gC n T hs ts v' vL (sm ++ [x]) lg w'' := by
  have bY := h.bY.grown h.oS (by decide) hg
  have bH := h.bH.grown h.oS (by decide) hg
  have bC := h.bC.grown h.oS (by decide) hg
  have oL := h.oL.other_row (fun g e1 e2 => h.ap g e2 e1) hg
  have be := h.oS.below_ h.bel h.size hg
  refine ⟨hk, bH.only h2 (bH.ne bY (by decide)), bC.only h2 (bC.ne bY (by decide)), ho.only bY (by decide) h2, oL.only bY (by decide) h2, fun g e => ?_, be.trans (h2.below h.leY be.size), h.leY, h.leH, h.leC⟩
  rcases hat with e2 | e2
  · exact h.ap g (by rw [← e2]; exact e)
  · intro e3
    have := h.oL.block_lt g e3
    rw [e] at e2
    injection e2 with e2
    omega
theorem LayS.growL (h : LayS w0 g gH gC n T hs ts vS vL sm lg w) (hg : w.grownBy w' vL.ownBlock) (ho : OwnI w' w0.heap.size 3 .i64 v' (lg ++ [x])) (hat : v'.ownBlock = vL.ownBlock ∨ v'.ownBlock = some w.heap.size)
    (hk : Blk w'' g 52 (#[.int .u64 T, .slice (some ⟨gC, 0, none⟩) n n, .slice (some ⟨gH, 0, none⟩) n n, vS, vL].setIfInBounds 4 v')) (h2 : Only g w' w'') : LayS w0 g gH gC n T hs ts vS v' sm (lg ++ [x]) w'' := by
  have bY := h.bY.grown h.oL (by decide) hg
  have bH := h.bH.grown h.oL (by decide) hg
  have bC := h.bC.grown h.oL (by decide) hg
  have oS := h.oS.other_row h.ap hg
  have be := h.oL.below_ h.bel h.size hg
  refine ⟨hk, bH.only h2 (bH.ne bY (by decide)), bC.only h2 (bC.ne bY (by decide)), oS.only bY (by decide) h2, ho.only bY (by decide) h2, fun g e1 e => ?_, be.trans (h2.below h.leY be.size), h.leY, h.leH, h.leC⟩
  rcases hat with e2 | e2
  · exact h.ap g e1 (by rw [← e2]; exact e)
  · have := h.oS.block_lt g e1
    rw [e] at e2
    injection e2 with e2
    omega
theorem LayS.cutS (h : LayS w0 g gH gC n T hs ts (.slice A k c) vL sm lg w) (hj : j ≤ sm.length)
    (hk : Blk w' g 52 (#[.int .u64 T, .slice (some ⟨gC, 0, none⟩) n n, .slice (some ⟨gH, 0, none⟩) n n, .slice A k c, vL].setIfInBounds 3 (.slice A j c))) (h2 : Only g w w') : LayS w0 g gH gC n T hs ts (.slice A j c) vL (sm.take j) lg w' :=
  ⟨hk, h.bH.only h2 (h.bH.ne h.bY (by decide)), h.bC.only h2 (h.bC.ne h.bY (by decide)), (h.oS.cut hj).only h.bY (by decide) h2, h.oL.only h.bY (by decide) h2, fun g e => h.ap g (by rw [own_slice A k j c c]; exact e), h.bel.trans (h2.below h.leY h.size), h.leY, h.leH, h.leC⟩
theorem LayS.cutL (h : LayS w0 g gH gC n T hs ts vS (.slice A k c) sm lg w) (hj : j ≤ lg.length)
    (hk : Blk w' g 52 (#[.int .u64 T, .slice (some ⟨gC, 0, none⟩) n n, .slice (some ⟨gH, 0, none⟩) n n, vS, .slice A k c].setIfInBounds 4 (.slice A j c))) (h2 : Only g w w') : LayS w0 g gH gC n T hs ts vS (.slice A j c) sm (lg.take j) w' :=
  ⟨hk, h.bH.only h2 (h.bH.ne h.bY (by decide)), h.bC.only h2 (h.bC.ne h.bY (by decide)), h.oS.only h.bY (by decide) h2, (h.oL.cut hj).only h.bY (by decide) h2, fun g e => by rw [own_slice A j k c c]; exact h.ap g e, h.bel.trans (h2.below h.leY h.size), h.leY, h.leH, h.leC⟩
end
theorem size_sli : (Try.prog.info? 50).map (·.size) = some 1 := by kernel_rfl
theorem info_intF : (Try.prog.info? 3).map (fun i => (i.zero, i.size, i.bytes)) = some (some (.int .i64 0), 1, 8) := by kernel_rfl
/-- The last one is taken off a list whose slice lies in a cell of a block. -/
theorem q14last_c (g k gS p c : Nat) (hp : p < 1000000) (hpc : p + 1 ≤ c) (hcm : c ≤ maxLen) (x : Int) (t : TypeId) (cs : Array Value) (hk : k < cs.size) (w : World) (hb : Blk w g t cs) (hv : cs[k]? = some (.slice (some ⟨gS, 0, none⟩) (p + 1) c)) (hx : w.cell? ⟨gS, p, none⟩ = some (.int .i64 x)) :
    Calls Try.prog 39 #[.pointer (some ⟨g, k, none⟩)] w fun e w' => e = .returned (.int .i64 x) ∧ Blk w' g t (cs.setIfInBounds k (.slice (some ⟨gS, 0, none⟩) p c)) ∧ Only g w w' := by
  have HB := Lib.hid hb
  have HK := Lib.hid hk
  have c0 : w.cell? ⟨g, k, none⟩ = some (.slice (some ⟨gS, 0, none⟩) (p + 1) c) := by rw [hb.cell]; exact hv
  have i0 : (0 : Int) ≤ (p : Int) := by omega
  have i1 : (p : Int) < 1000000 := by omega
  have i2 : ((p + 1 : Nat) : Int) - 1 = (p : Int) := by omega
  have i3 : (c : Int) ≤ 9223372036854775807 := by unfold maxLen at hcm; omega
  have i4 : (p : Int) + 1 ≤ (c : Int) := by omega
  clear hb hk hv hcm hp hpc
  go_enter Try.func39, Try.ntmps39
  go_wp2_with (first
    | (with_reducible refine at_any ?_; refine at_store 22 rfl ?_; refine wpList_store_cell rfl 50 (.tmp 22) (.tmp 21) rfl g k rfl t cs HB.out (.slice (some ⟨gS, 0, none⟩) p c) rfl HK.out size_sli rfl rfl ?_; intro w1 hk1 ho1; have HK1 := Lib.hid hk1.out; have HO1 := Lib.hid ho1))
  go_ret
  exact ⟨rfl, HK1.out, HO1.out⟩
theorem lay3 (a b c d e : Value) : 3 < (#[a, b, c, d, e] : Array Value).size := by simp
theorem lay4 (a b c d e : Value) : 4 < (#[a, b, c, d, e] : Array Value).size := by simp
/-- A place comes to the end of the small ones, or of the large ones. -/
theorem q14sort_c {w0 : World} {g gH gC n : Nat} {T : Int} {hs sm lg : List Int} {ts : List (Int × Int)} {vS vL : Value} (k : Nat) (hk : k < n) (hn : n ≤ 1000) (hl : hs.length = n) (hx0 : 0 ≤ hs.getD k 0) (hx1 : hs.getD k 0 < 18446744073709551616) (T0 : 0 ≤ T) (T1 : T < 18446744073709551616) (hsm : sm.length ≤ 1000) (hlg : lg.length ≤ 1000) (w : World) (hY : LayS w0 g gH gC n T hs ts vS vL sm lg w) :
    Calls Try.prog 38 #[.pointer (some ⟨g, 0, none⟩), .int .i64 (k : Int)] w fun e w' => e = .returned (.tuple #[]) ∧ ∃ vS' vL', LayS w0 g gH gC n T hs ts vS' vL' (if hs.getD k 0 < T then sm ++ [(k : Int)] else sm) (if hs.getD k 0 < T then lg else lg ++ [(k : Int)]) w' := by
  obtain ⟨ti, hti, hz0, hz1, hzb⟩ := info_parts info_intF
  obtain ⟨AS, cS, rfl, hcS, hmS⟩ := hY.oS.form
  obtain ⟨AL, cL, rfl, hcL, hmL⟩ := hY.oL.form
  have HYN := Lib.hid (fun M => hY.drewN M)
  have c0 := hY.c0
  have c2 := hY.c2
  have cx := hY.atH (k := k) (by omega)
  have HC3 := Lib.hid (fun M => (hY.drewN M).c3)
  have HC4 := Lib.hid (fun M => (hY.drewN M).c4)
  have HSN := Lib.hid hsm
  have HLN := Lib.hid hlg
  obtain ⟨x, hx⟩ : ∃ x, hs.getD k 0 = x := ⟨_, rfl⟩
  rw [hx] at hx0 hx1 cx ⊢
  obtain ⟨p, hp⟩ : ∃ p, sm.length = p := ⟨_, rfl⟩
  obtain ⟨q, hq⟩ : ∃ q, lg.length = q := ⟨_, rfl⟩
  rw [hp] at HYN HC3 HSN hcS
  rw [hq] at HYN HC4 HLN hcL
  have HPL := Lib.hid hp
  have HQL := Lib.hid hq
  have i0 : (0 : Int) ≤ (k : Int) := by omega
  have i1 : (k : Int) < (n : Int) := by omega
  have i2 : (n : Int) ≤ 1000 := by omega
  clear hY hx hp hq hcS hmS hcL hmL hsm hlg hl hk hn
  by_cases hlt : x < T
  · simp only [if_pos hlt]
    go_enter Try.func38, Try.ntmps38
    go_wp2
    go_quiet (fail)
    have c3 := HC3.out nq
    have HQ := Lib.hid (HYN.out nq)
    go_wp2_with (first
      | (at_builtin; refine wpList_append_ints _ rfl (.tmp 21) (.tmp 23) 50 rfl w0.heap.size 3 ti _ 8 .i64 Try.underlying50 hti hz0 hz1 hzb rfl (.slice AS p cS) sm rfl (HQ.out.alloc _).oS _ _ 1 1 [(k : Int)] rfl (rd_one _ 3 .i64 (k : Int)) (by have := HSN.out; have := HPL.out; simp only [maxLen]; omega) (by have := HSN.out; have := HPL.out; omega) (HQ.out.alloc _).size ?_; intro v4 w4 ho4 hg4 hat4; have B4 := Lib.hid ((HQ.out.alloc _).bY.grown (HQ.out.alloc _).oS (by decide) hg4); have K4 := Lib.hid (fun W h1 h2 => LayS.growS (w'' := W) (HQ.out.alloc _) hg4 ho4 hat4 h1 h2); have C4 := Lib.hid ho4.cell1; clear hg4 ho4 hat4)
      | (with_reducible refine at_any ?_; refine at_store 26 rfl ?_; refine wpList_store_cell rfl 50 (.tmp 26) (.tmp 24) rfl g 3 rfl 52 _ B4.out v4 rfl (lay3 _ _ _ _ _) size_sli C4.out.1 C4.out.2 ?_; intro w5 hk5 ho5; have HY5 := Lib.hid (K4.out _ hk5.out ho5)))
    go_end0
    exact ⟨rfl, _, _, HY5.out⟩
  · simp only [if_neg hlt]
    go_enter Try.func38, Try.ntmps38
    go_wp2
    go_quiet (fail)
    have c3 := HC4.out nq
    have HQ := Lib.hid (HYN.out nq)
    go_wp2_with (first
      | (at_builtin; refine wpList_append_ints _ rfl (.tmp 31) (.tmp 33) 50 rfl w0.heap.size 3 ti _ 8 .i64 Try.underlying50 hti hz0 hz1 hzb rfl (.slice AL q cL) lg rfl (HQ.out.alloc _).oL _ _ 1 1 [(k : Int)] rfl (rd_one _ 3 .i64 (k : Int)) (by have := HLN.out; have := HQL.out; simp only [maxLen]; omega) (by have := HLN.out; have := HQL.out; omega) (HQ.out.alloc _).size ?_; intro v4 w4 ho4 hg4 hat4; have B4 := Lib.hid ((HQ.out.alloc _).bY.grown (HQ.out.alloc _).oL (by decide) hg4); have K4 := Lib.hid (fun W h1 h2 => LayS.growL (w'' := W) (HQ.out.alloc _) hg4 ho4 hat4 h1 h2); have C4 := Lib.hid ho4.cell1; clear hg4 ho4 hat4)
      | (with_reducible refine at_any ?_; refine at_store 36 rfl ?_; refine wpList_store_cell rfl 50 (.tmp 36) (.tmp 34) rfl g 4 rfl 52 _ B4.out v4 rfl (lay4 _ _ _ _ _) size_sli C4.out.1 C4.out.2 ?_; intro w5 hk5 ho5; have HY5 := Lib.hid (K4.out _ hk5.out ho5)))
    go_end0
    exact ⟨rfl, _, _, HY5.out⟩
/-- What is read while a cell is laid. -/
structure LayR (g gH gC n : Nat) (T : Int) (hs : List Int) (vS vL : Value) (w : World) : Prop where
  bY : Blk w g 52 #[.int .u64 T, .slice (some ⟨gC, 0, none⟩) n n, .slice (some ⟨gH, 0, none⟩) n n, vS, vL]
  bH : Blk w gH 24 (intsA .u64 hs)
/-- What is read while what a place has is changed. -/
structure LayG (g gH gC n : Nat) (T : Int) (vS vL : Value) (w : World) : Prop where
  bY : Blk w g 52 #[.int .u64 T, .slice (some ⟨gC, 0, none⟩) n n, .slice (some ⟨gH, 0, none⟩) n n, vS, vL]
section
variable {w0 w : World} {g gH gC n k : Nat} {T : Int} {hs sm lg : List Int} {ts : List (Int × Int)} {vS vL : Value}
theorem LayS.toR (h : LayS w0 g gH gC n T hs ts vS vL sm lg w) : LayR g gH gC n T hs vS vL w := ⟨h.bY, h.bH⟩
theorem LayS.toG (h : LayS w0 g gH gC n T hs ts vS vL sm lg w) : LayG g gH gC n T vS vL w := ⟨h.bY⟩
theorem LayR.c0 (h : LayR g gH gC n T hs vS vL w) : w.cell? ⟨g, 0, none⟩ = some (.int .u64 T) := by rw [h.bY.cell]; rfl
theorem LayR.c1 (h : LayR g gH gC n T hs vS vL w) : w.cell? ⟨g, 1, none⟩ = some (.slice (some ⟨gC, 0, none⟩) n n) := by rw [h.bY.cell]; rfl
theorem LayR.c2 (h : LayR g gH gC n T hs vS vL w) : w.cell? ⟨g, 2, none⟩ = some (.slice (some ⟨gH, 0, none⟩) n n) := by rw [h.bY.cell]; rfl
theorem LayR.atH (h : LayR g gH gC n T hs vS vL w) (hk : k < hs.length) : w.cell? ⟨gH, k, none⟩ = some (.int .u64 (hs.getD k 0)) := by
  rw [h.bH.cell]
  simp [intsA, hk]
theorem LayG.c0 (h : LayG g gH gC n T vS vL w) : w.cell? ⟨g, 0, none⟩ = some (.int .u64 T) := by rw [h.bY.cell]; rfl
theorem LayG.c1 (h : LayG g gH gC n T vS vL w) : w.cell? ⟨g, 1, none⟩ = some (.slice (some ⟨gC, 0, none⟩) n n) := by rw [h.bY.cell]; rfl
theorem LayG.c2 (h : LayG g gH gC n T vS vL w) : w.cell? ⟨g, 2, none⟩ = some (.slice (some ⟨gH, 0, none⟩) n n) := by rw [h.bY.cell]; rfl
end
section
variable {P : Program} {w : World} {ops : Array Oper} {o : Oper} {a : Act} {Q : Exit → Act → World → Prop}
/-- A struct is stored into a part of a block, where it comes up. -/
theorem step_store_mid {K : Act → World → Prop} {E : Prop} (d : Option Tmp) (hd : o.dst = d) (hw : Region.wanted o (yielded ops a.tmps) = true) (ty : TypeId) (x y : Operand) (ho : o.op = .store ty x y) (g off : Nat) (hx : a.eval x = .pointer (some ⟨g, off, none⟩)) (t : TypeId) (cs ys : Array Value) (hb : Blk w g t cs)
    (hy : a.eval y = .agg ys) (hl : off + ys.size ≤ cs.size) (hz : (P.info? ty).map (·.size) = some ys.size) (h1 : ys.all (·.oneCell') = true)
    (h : ∀ w', Hid (Blk w' g t (putAll cs off ys.toList)) → Only g w w' → K (a.put d undef) w') :
    if Region.wanted o (yielded ops a.tmps) = true then Oper.wp P o a w K Q else E := by
  subst hd
  rw [if_pos hw]
  exact wp_store_mid ty x y ho g off ys hx hy (hb.there off ys.size hl) hz h1 (h _ (Blk.setCells _ _ hb) (Only.setCells g _ _ _))
end
theorem size_cellF (u v : Value) : (Try.prog.info? 44).map (·.size) = some (#[u, v] : Array Value).size := by kernel_rfl
theorem cell_onesF (x y : Int) : (#[.int .u64 x, .int .i64 y] : Array Value).all (·.oneCell') = true := by simp [Value.oneCell']
theorem size_u64F : (Try.prog.info? 24).map (·.size) = some 1 := by kernel_rfl
section
variable {w0 w : World} {g gH gC gS n p c : Nat} {T : Int} {hs sm lg : List Int} {ts : List (Int × Int)} {vS vL : Value} {x : Int}
theorem LayS.lastS (hx : topL sm = x) (hp : sm.length = p + 1) (hp1 : p < 1000000) (h : LayS w0 g gH gC n T hs ts (.slice (some ⟨gS, 0, none⟩) (p + 1) c) vL sm lg w) :
    Calls Try.prog 39 #[.pointer (some ⟨g, 3, none⟩)] w fun e w' => e = .returned (.int .i64 x) ∧ LayS w0 g gH gC n T hs ts (.slice (some ⟨gS, 0, none⟩) p c) vL (sm.take p) lg w' := by
  obtain ⟨g', c', e, h1, h2, h3⟩ := h.oS.last (by omega)
  injection e with e1 e2 e3
  injection e1 with e1
  injection e1 with e1
  subst e1 e3
  rw [hp, hx, Nat.add_sub_cancel] at h3
  rw [hp] at h1
  refine (q14last_c g 3 gS p c hp1 h1 h2 x _ _ (lay3 _ _ _ _ _) w h.bY rfl h3).mono ?_
  rintro e w' ⟨rfl, hk, ho⟩
  exact ⟨rfl, h.cutS (by omega) hk ho⟩
theorem LayS.lastL (hx : topL lg = x) (hp : lg.length = p + 1) (hp1 : p < 1000000) (h : LayS w0 g gH gC n T hs ts vS (.slice (some ⟨gS, 0, none⟩) (p + 1) c) sm lg w) :
    Calls Try.prog 39 #[.pointer (some ⟨g, 4, none⟩)] w fun e w' => e = .returned (.int .i64 x) ∧ LayS w0 g gH gC n T hs ts vS (.slice (some ⟨gS, 0, none⟩) p c) sm (lg.take p) w' := by
  obtain ⟨g', c', e, h1, h2, h3⟩ := h.oL.last (by omega)
  injection e with e1 e2 e3
  injection e1 with e1
  injection e1 with e1
  subst e1 e3
  rw [hp, hx, Nat.add_sub_cancel] at h3
  rw [hp] at h1
  refine (q14last_c g 4 gS p c hp1 h1 h2 x _ _ (lay4 _ _ _ _ _) w h.bY rfl h3).mono ?_
  rintro e w' ⟨rfl, hk, ho⟩
  exact ⟨rfl, h.cutL (by omega) hk ho⟩
end
end Go.Proofs.Ytkgajcifanobnaa

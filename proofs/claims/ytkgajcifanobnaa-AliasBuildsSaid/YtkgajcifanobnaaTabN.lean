/-
  A table that is built, in memory: stakes and cells in blocks, two rows that grow, what each step leaves of them.
  Conditions: those that each theorem names.
-/
import Derived.Test.YtkgajcifanobnaaTabM
set_option maxRecDepth 100000
set_option linter.unusedVariables false
set_option linter.unusedSimpArgs false
namespace Go.Proofs.Ytkgajcifanobnaa
open Go.ChangeShapes Go.WideShapes Go.ChangeAt Go.RowKit
def prC : List (Int × Int) → List Value
  | [] => []
  | p :: ts => .int .u64 p.1 :: .int .i64 p.2 :: prC ts
def cellsA (ts : List (Int × Int)) : Array Value := (prC ts).toArray
theorem prC_len : ∀ ts : List (Int × Int), (prC ts).length = ts.length * 2
  | [] => rfl
  | p :: ts => by simp [prC, prC_len ts]; omega
theorem cellsA_size (ts : List (Int × Int)) : (cellsA ts).size = ts.length * 2 := by simp [cellsA, prC_len]
theorem prC_get : ∀ (ts : List (Int × Int)) (k : Nat), k < ts.length → (prC ts)[k * 2]? = some (.int .u64 (cellL ts k).1) ∧ (prC ts)[k * 2 + 1]? = some (.int .i64 (cellL ts k).2)
  | [], k, h => absurd h (by simp)
  | p :: ts, 0, _ => ⟨rfl, rfl⟩
  | p :: ts, k + 1, h => by
    have := prC_get ts k (by simpa using h)
    rw [show (k + 1) * 2 = k * 2 + 1 + 1 from by omega, show k * 2 + 1 + 1 + 1 = (k * 2 + 1) + 1 + 1 from rfl]
    exact this
theorem prC_set : ∀ (ts : List (Int × Int)) (k : Nat) (x y : Int), ((prC ts).set (k * 2) (.int .u64 x)).set (k * 2 + 1) (.int .i64 y) = prC (ts.set k (x, y))
  | [], k, x, y => rfl
  | p :: ts, 0, x, y => rfl
  | p :: ts, k + 1, x, y => by
    rw [show (k + 1) * 2 = k * 2 + 1 + 1 from by omega]
    show _ :: _ :: ((prC ts).set (k * 2) _).set (k * 2 + 1) _ = _ :: _ :: prC (ts.set k (x, y))
    rw [prC_set ts k x y]
theorem cellsA_put (ts : List (Int × Int)) (k : Nat) (x y : Int) : ((cellsA ts).setIfInBounds (k * 2) (.int .u64 x)).setIfInBounds (k * 2 + 1) (.int .i64 y) = cellsA (ts.set k (x, y)) := by
  apply Array.ext'
  simp [cellsA, prC_set]
theorem cellsA_rep : ∀ n : Nat, prC (List.replicate n (0, 0)) = (List.replicate n [Value.int .u64 0, Value.int .i64 0]).flatten
  | 0 => rfl
  | n + 1 => by
    rw [List.replicate_succ, List.replicate_succ, List.flatten_cons, ← cellsA_rep n]
    rfl
theorem RdPr.of_blk {w : World} {g : Nat} {t : TypeId} {ts : List (Int × Int)} (h : Blk w g t (cellsA ts)) : RdPr .u64 .i64 w w.heap.size (some ⟨g, 0, none⟩) ts.length ts := by
  refine ⟨rfl, fun _ => ⟨g, 0, rfl, h.lt, fun j hj => ?_⟩⟩
  have := prC_get ts j hj
  rw [h.cell, h.cell, Nat.zero_add]
  simpa [cellsA, cellL] using this
/-- A table, and an error, are handed back. -/
def RetTab (w : World) (T : Int) (n : Nat) (ts : List (Int × Int)) (er : Int) (e : Ending) (w' : World) : Prop := ∃ A c, e = .returned (.tuple #[.agg #[.int .u64 T, .slice A n c], .int .i64 er]) ∧ RdPr .u64 .i64 w' w'.heap.size A n ts ∧ n ≤ c ∧ c ≤ maxLen ∧ Below w.heap.size w w'
/-! ### rows filled one by one -/
def fillT {α : Type} (xs : List α) (d : α) (k : Nat) : List α := xs.take k ++ List.replicate (xs.length - k) d
theorem fill_len {α : Type} (xs : List α) (d : α) (k : Nat) (h : k ≤ xs.length) : (fillT xs d k).length = xs.length := by simp [fillT]; omega
theorem fill_zero {α : Type} (xs : List α) (d : α) : fillT xs d 0 = List.replicate xs.length d := by simp [fillT]
theorem fill_all {α : Type} (xs : List α) (d : α) : fillT xs d xs.length = xs := by simp [fillT]
theorem fill_next {α : Type} (xs : List α) (d : α) (k : Nat) (h : k < xs.length) : (fillT xs d k).set k xs[k] = fillT xs d (k + 1) := by
  unfold fillT
  have h1 : (xs.take k).length = k := by rw [List.length_take]; omega
  rw [List.set_append, if_neg (by rw [h1]; omega), h1, Nat.sub_self, show xs.length - k = (xs.length - (k + 1)) + 1 from by omega, List.replicate_succ, List.set_cons_zero, List.take_succ_eq_append_getElem h, List.append_assoc]
  rfl
/-! ### two rows that grow -/
theorem OwnI.other_row {w w' : World} {base : Nat} {e : TypeId} {k : IntKind} {v u : Value} {zs : List Int} (h : OwnI w base e k v zs) (ha : ∀ g, v.ownBlock = some g → u.ownBlock ≠ some g) (hg : w.grownBy w' u.ownBlock) : OwnI w' base e k v zs := by
  refine ⟨h.1, ?_⟩
  rcases h.2 with h1 | ⟨g, cap, cur, h1, h2, h3, h4⟩
  · exact .inl h1
  · have hlt : g < w.heap.size := by
      rcases Nat.lt_or_ge g w.heap.size with h5 | h5
      · exact h5
      · rw [Array.getElem?_eq_none h5] at h3; cases h3
    exact .inr ⟨g, cap, cur, h1, h2, (hg.block g hlt (fun e => ha g (by rw [h1]; rfl) e.symm)).trans h3, h4⟩
theorem OwnI.block_lt {w : World} {base : Nat} {e : TypeId} {k : IntKind} {v : Value} {zs : List Int} (h : OwnI w base e k v zs) : ∀ g, v.ownBlock = some g → g < w.heap.size := by
  intro g hg
  rcases h.2 with ⟨rfl, _⟩ | ⟨g', cap, cur, rfl, _, h3, _⟩
  · simp [Value.ownBlock] at hg
  · obtain rfl : g' = g := by simpa [Value.ownBlock] using hg
    rcases Nat.lt_or_ge g' w.heap.size with h5 | h5
    · exact h5
    · rw [Array.getElem?_eq_none h5] at h3; cases h3
theorem OwnI.cut {w : World} {base n c j : Nat} {e : TypeId} {k : IntKind} {A : Option Addr} {zs : List Int} (h : OwnI w base e k (.slice A n c) zs) (hj : j ≤ zs.length) : OwnI w base e k (.slice A j c) (zs.take j) := by
  have hl : (zs.take j).length = j := by rw [List.length_take]; omega
  refine ⟨by simp, ?_⟩
  rcases h.2 with ⟨h1, h2⟩ | ⟨g, cap, cur, h1, h2, h3, h4, h5, h6, h7⟩
  · injection h1 with e1 e2 e3
    obtain rfl : j = 0 := by omega
    exact .inl ⟨by rw [e1, e3], by simp⟩
  · injection h1 with e1 e2 e3
    subst e1 e3
    rw [hl]
    refine .inr ⟨g, c, cur, rfl, h2, h3, by omega, h5, h6, ?_⟩
    rw [Nat.mul_one] at h7 ⊢
    rw [List.map_take, ← h7, List.take_take, Nat.min_eq_left hj]
theorem Blk.ne {w : World} {g g' : Nat} {t t' : TypeId} {cs cs' : Array Value} (h : Blk w g t cs) (h' : Blk w g' t' cs') (hne : t ≠ t') : g ≠ g' := by
  rintro rfl
  unfold Blk at h h'
  rw [h] at h'
  injection h' with h'
  injection h' with _ h'
  exact hne h'
theorem OwnI.lenV {w : World} {base : Nat} {e : TypeId} {k : IntKind} {v : Value} {zs : List Int} (h : OwnI w base e k v zs) : lenV v = zs.length := by
  obtain ⟨A, c, rfl, _⟩ := h.form
  rfl
/-- A table that is built: what is handed back at g2, the stakes at gH, the cells at gC, small and large places in rows of the call's own. -/
structure BldS (w0 : World) (g2 gH gC : Nat) (hs : List Int) (ts : List (Int × Int)) (vS vL : Value) (sm lg : List Int) (w : World) : Prop where
  b2 : Blk w g2 27 #[.int .u64 0, .slice none 0 0]
  bH : Blk w gH 24 (intsA .u64 hs)
  bC : Blk w gC 44 (cellsA ts)
  oS : OwnI w w0.heap.size 3 .i64 vS sm
  oL : OwnI w w0.heap.size 3 .i64 vL lg
  ap : ∀ g, vS.ownBlock = some g → vL.ownBlock ≠ some g
  bel : Below w0.heap.size w0 w
  le2 : w0.heap.size ≤ g2
  leH : w0.heap.size ≤ gH
  leC : w0.heap.size ≤ gC
section
variable {w0 w w' : World} {g2 gH gC n c k : Nat} {hs sm lg : List Int} {ts : List (Int × Int)} {vS vL v' : Value} {A : Option Addr} {x y : Int}
theorem BldS.below (h : BldS w0 g2 gH gC hs ts vS vL sm lg w) (hb : Below w.heap.size w w') : BldS w0 g2 gH gC hs ts vS vL sm lg w' :=
  ⟨h.b2.below hb h.b2.lt, h.bH.below hb h.bH.lt, h.bC.below hb h.bC.lt, h.oS.below hb, h.oL.below hb, h.ap, h.bel.trans (hb.mono h.bel.size), h.le2, h.leH, h.leC⟩
theorem BldS.alloc (h : BldS w0 g2 gH gC hs ts vS vL sm lg w) (o : Obj) : BldS w0 g2 gH gC hs ts vS vL sm lg (w.alloc o) := h.below ((Below.refl _ _).alloc (Nat.le_refl _) _)
theorem BldS.drew (h : BldS w0 g2 gH gC hs ts vS vL sm lg w) : BldS w0 g2 gH gC hs ts vS vL sm lg w.drew := h.below (Below.refl _ _).drew
theorem BldS.drewN (h : BldS w0 g2 gH gC hs ts vS vL sm lg w) (m : Nat) : BldS w0 g2 gH gC hs ts vS vL sm lg (w.drewN m) := h.below (below_drewN (Below.refl _ _) _)
theorem BldS.size (h : BldS w0 g2 gH gC hs ts vS vL sm lg w) : w0.heap.size ≤ w.heap.size := h.bel.size
theorem BldS.rd (h : BldS w0 g2 gH gC hs ts vS vL sm lg w) {l : List Int} (hr : Rd .u64 w0 w0.heap.size A n l) : Rd .u64 w w.heap.size A n l := (hr.below h.bel).mono h.size
theorem BldS.atH (h : BldS w0 g2 gH gC hs ts vS vL sm lg w) (hk : k < hs.length) : w.cell? ⟨gH, k, none⟩ = some (.int .u64 (hs.getD k 0)) := by
  rw [h.bH.cell]
  simp [intsA, hk]
theorem BldS.frzH (h : BldS w0 g2 gH gC hs ts vS vL sm lg w) (k : Nat) : w.frozen? ⟨gH, k, none⟩ = false := h.bH.frozen k
theorem BldS.putH (h : BldS w0 g2 gH gC hs ts vS vL sm lg w) (hk : Blk w' gH 24 ((intsA .u64 hs).setIfInBounds k (.int .u64 x))) (ho : Only gH w w') : BldS w0 g2 gH gC (hs.set k x) ts vS vL sm lg w' := by
  have n2 : g2 ≠ gH := h.b2.ne h.bH (by decide)
  have nC : gC ≠ gH := h.bC.ne h.bH (by decide)
  refine ⟨h.b2.only ho n2, ?_, h.bC.only ho nC, h.oS.only h.bH (by decide) ho, h.oL.only h.bH (by decide) ho, h.ap, h.bel.trans (ho.below h.leH h.size), h.le2, h.leH, h.leC⟩
  have e : (intsA .u64 hs).setIfInBounds k (.int .u64 x) = intsA .u64 (hs.set k x) := by
    apply Array.ext'
    simp [intsA, List.map_set]
  rw [← e]
  exact hk
theorem BldS.putC (h : BldS w0 g2 gH gC hs ts vS vL sm lg w) (hk : Blk w' gC 44 (putAll (cellsA ts) (k * 2) [.int .u64 x, .int .i64 y])) (ho : Only gC w w') : BldS w0 g2 gH gC hs (ts.set k (x, y)) vS vL sm lg w' := by
  have n2 : g2 ≠ gC := h.b2.ne h.bC (by decide)
  have nH : gH ≠ gC := h.bH.ne h.bC (by decide)
  refine ⟨h.b2.only ho n2, h.bH.only ho nH, ?_, h.oS.only h.bC (by decide) ho, h.oL.only h.bC (by decide) ho, h.ap, h.bel.trans (ho.below h.leC h.size), h.le2, h.leH, h.leC⟩
  rw [← cellsA_put]
  exact hk
theorem BldS.growS (h : BldS w0 g2 gH gC hs ts vS vL sm lg w) (hg : w.grownBy w' vS.ownBlock) (ho : OwnI w' w0.heap.size 3 .i64 v' (sm ++ [x])) (hat : v'.ownBlock = vS.ownBlock ∨ v'.ownBlock = some w.heap.size) : BldS w0 g2 gH gC hs ts v' vL (sm ++ [x]) lg w' :=
  ⟨h.b2.grown h.oS (by decide) hg, h.bH.grown h.oS (by decide) hg, h.bC.grown h.oS (by decide) hg, ho, h.oL.other_row (fun g e1 e2 => h.ap g e2 e1) hg, fun g e => by
    rcases hat with e2 | e2
    · exact h.ap g (by rw [← e2]; exact e)
    · intro e3
      have := h.oL.block_lt g e3
      rw [e] at e2
      injection e2 with e2
      omega, h.oS.below_ h.bel h.size hg, h.le2, h.leH, h.leC⟩
theorem BldS.growL (h : BldS w0 g2 gH gC hs ts vS vL sm lg w) (hg : w.grownBy w' vL.ownBlock) (ho : OwnI w' w0.heap.size 3 .i64 v' (lg ++ [x])) (hat : v'.ownBlock = vL.ownBlock ∨ v'.ownBlock = some w.heap.size) : BldS w0 g2 gH gC hs ts vS v' sm (lg ++ [x]) w' :=
  ⟨h.b2.grown h.oL (by decide) hg, h.bH.grown h.oL (by decide) hg, h.bC.grown h.oL (by decide) hg, h.oS.other_row h.ap hg, ho, fun g e1 e => by
    rcases hat with e2 | e2
    · exact h.ap g e1 (by rw [← e2]; exact e)
    · have := h.oS.block_lt g e1
      rw [e] at e2
      injection e2 with e2
      omega, h.oL.below_ h.bel h.size hg, h.le2, h.leH, h.leC⟩
theorem own_slice (A : Option Addr) (n m c d : Nat) : (Value.slice A n c).ownBlock = (Value.slice A m d).ownBlock := by cases A <;> rfl
theorem BldS.cutS {j : Nat} (h : BldS w0 g2 gH gC hs ts (.slice A n c) vL sm lg w) (hj : j ≤ sm.length) : BldS w0 g2 gH gC hs ts (.slice A j c) vL (sm.take j) lg w :=
  ⟨h.b2, h.bH, h.bC, h.oS.cut hj, h.oL, fun g e => h.ap g (by rw [own_slice A n j c c]; exact e), h.bel, h.le2, h.leH, h.leC⟩
theorem BldS.cutL {j : Nat} (h : BldS w0 g2 gH gC hs ts vS (.slice A n c) sm lg w) (hj : j ≤ lg.length) : BldS w0 g2 gH gC hs ts vS (.slice A j c) sm (lg.take j) w :=
  ⟨h.b2, h.bH, h.bC, h.oS, h.oL.cut hj, fun g e => by rw [own_slice A j n c c]; exact h.ap g e, h.bel, h.le2, h.leH, h.leC⟩
theorem OwnI.last {w : World} {base : Nat} {e : TypeId} {kk : IntKind} {v : Value} {zs : List Int} (h : OwnI w base e kk v zs) (hn : zs.length ≠ 0) : ∃ g c, v = .slice (some ⟨g, 0, none⟩) zs.length c ∧ zs.length ≤ c ∧ c ≤ maxLen ∧ w.cell? ⟨g, zs.length - 1, none⟩ = some (.int kk (topL zs)) := by
  obtain ⟨B, c, rfl, hc, hc2⟩ := h.form
  obtain ⟨g, cur, rfl, _, hb, _, hcc⟩ := h.whole (by omega)
  exact ⟨g, c, rfl, hc, hc2, by rw [hb.cell, hcc _ (by omega)]; rfl⟩
end
section
variable {P : Program} {w : World} {ops : Array Oper} {rest : List Oper} {o : Oper} {a : Act} {Q : Exit → Act → World → Prop}
/-- A struct is stored into a part of a block. -/
theorem wpList_store_mid (hgd : o.guard = none) (ty : TypeId) (x y : Operand) (ho : o.op = .store ty x y) (g off : Nat) (hx : a.eval x = .pointer (some ⟨g, off, none⟩)) (t : TypeId) (cs ys : Array Value) (hb : Blk w g t cs)
    (hy : a.eval y = .agg ys) (hl : off + ys.size ≤ cs.size) (hz : (P.info? ty).map (·.size) = some ys.size) (h1 : ys.all (·.oneCell') = true)
    (h : ∀ w', Hid (Blk w' g t (putAll cs off ys.toList)) → Only g w w' → wpList P ops Q rest (a.put o.dst undef) w') : wpList P ops Q (o :: rest) a w := by
  refine wpList_plain hgd fun K hK => ?_
  exact wp_store_mid ty x y ho g off ys hx hy (hb.there off ys.size hl) hz h1 (hK _ _ (h _ (Blk.setCells _ _ hb) (Only.setCells g _ _ _)))
end
end Go.Proofs.Ytkgajcifanobnaa

/-
  Trees in memory: a struct of one slice, in a block of one cell; a slice of one number, built.
  Conditions: those that each theorem names.
-/
import Derived.Test.YtilccjjagdedaaaDoorRegA
import Derived.Test.YtilccjjagdedaaaDoorFenP
import Derived.Test.YtilccjjagdedaaaDoorOwnD
set_option maxRecDepth 100000
set_option linter.unusedVariables false
set_option linter.unusedSimpArgs false
namespace Go.Proofs.YtilccjjagdedaaaDoor
open Go.ChangeShapes Go.WideShapes Go.ChangeAt Go.RowKit
theorem zero_fen : ∀ W, (zeroValue 26).run Tryd.prog W = .ok (.agg #[.slice none 0 0]) W := (zero_of_info (n := 1) (by kernel_rfl)).1
theorem size_fen : (Tryd.prog.info? 26).map (·.size) = some 1 := by kernel_rfl
theorem sizedF (v : Value) : (Tryd.prog.info? 26).map (·.size) = some (#[v] : Array Value).size := size_fen
theorem fen_ones (A : Option Addr) (n c : Nat) : (#[.slice A n c] : Array Value).all (·.oneCell') = true := by simp [Value.oneCell']
theorem Blk.cell0 {w : World} {g : Nat} {t : TypeId} {v : Value} (h : Blk w g t #[v]) : w.cell? ⟨g, 0, none⟩ = some v := by rw [h.cell]; rfl
theorem size1 (u v : Value) : (#[u] : Array Value).size = (#[v] : Array Value).size := rfl
theorem run_build_u64 (x : Int) (w : World) : (Instr.buildSlice 23 1 #[(0, .int .u64 x)]).run Tryd.prog w = .ok (.slice (some ⟨w.heap.size, 0, none⟩) 1 1) (w.alloc (.cells #[.int .u64 x] 22)) := by
  go_simp
theorem rd_one1 (w : World) (e : TypeId) (k : IntKind) (x : Int) : Rd k (w.alloc (.cells #[.int k x] e)) (w.alloc (.cells #[.int k x] e)).heap.size (some ⟨w.heap.size, 0, none⟩) 1 [x] := by
  refine ⟨rfl, fun _ => ⟨w.heap.size, 0, rfl, (Blk.new w e #[.int k x]).lt, fun j hj => ?_⟩⟩
  obtain rfl : j = 0 := by omega
  rw [(Blk.new w e #[.int k x]).cell]
  rfl
theorem exec_build_u64 {o : Oper} {a : Act} {w : World} (p : Operand) (x : Int) (ho : o.op = .buildSlice 23 1 #[(0, p)]) (hp : a.eval p = .int .u64 x) :
    (execOp a.eval o).run Tryd.prog w = .ok (.value (.slice (some ⟨w.heap.size, 0, none⟩) 1 1)) (w.alloc (.cells #[.int .u64 x] 22)) := by
  have hr := run_build_u64 x w
  unfold execOp
  simp only [ho, List.map_toArray, List.map_cons, List.map_nil, hp]
  change ((Instr.buildSlice 23 1 #[(0, .int .u64 x)]) >>= fun v => pure (Next.value v)).run Tryd.prog w = _
  simp only [Sem.run_bind, hr, Result.andThen_ok, Sem.run_pure]
theorem step_build_u64 {ops : Array Oper} {o : Oper} {a : Act} {w : World} {K : Act → World → Prop} {Q : Exit → Act → World → Prop} {E : Prop} (d : Option Tmp) (hd : o.dst = d) (hw : Region.wanted o (yielded ops a.tmps) = true) (p : Operand) (ho : o.op = .buildSlice 23 1 #[(0, p)])
    (x : Int) (hp : a.eval p = .int .u64 x) (h : ∀ g w', Rd .u64 w' w'.heap.size (some ⟨g, 0, none⟩) 1 [x] → Below w.heap.size w w' → K (a.put d (.slice (some ⟨g, 0, none⟩) 1 1)) w') :
    if Region.wanted o (yielded ops a.tmps) = true then Oper.wp Tryd.prog o a w K Q else E := by
  subst hd
  rw [if_pos hw]
  have he := exec_build_u64 (w := w) p x ho hp
  unfold Oper.wp
  rw [he]
  exact h _ _ (rd_one1 w _ .u64 x) ((Below.refl _ _).alloc (Nat.le_refl _) _)
theorem OwnI.none (w : World) (base : Nat) (e : TypeId) (k : IntKind) : OwnI w base e k (.slice none 0 0) [] := ⟨rfl, .inl ⟨rfl, rfl⟩⟩
theorem OwnI.other {w w' : World} {base g : Nat} {e t : TypeId} {k : IntKind} {v : Value} {zs : List Int} {cs : Array Value} (h : OwnI w base e k v zs) (hb : Blk w g t cs) (hne : e ≠ t) (ho : ∀ j, j ≠ g → w'.heap[j]? = w.heap[j]?) : OwnI w' base e k v zs := by
  refine ⟨h.1, ?_⟩
  rcases h.2 with h1 | ⟨g', cap, cur, h1, h2, h3, h4⟩
  · exact .inl h1
  · have hg : g' ≠ g := by
      rintro rfl
      unfold Blk at hb
      rw [h3] at hb
      injection hb with hb
      injection hb with _ h5
      exact hne h5
    exact .inr ⟨g', cap, cur, h1, h2, (ho g' hg).trans h3, h4⟩
theorem tree_take {l : List Int} {i : Nat} (h : i < l.length) : (treeL l).take (i + 1) = (treeL l).take i ++ [(treeL l).getD i 0] := by
  rw [List.take_succ_eq_append_getElem (by rw [treeL_len]; exact h), List.getD_eq_getElem?_getD, List.getElem?_eq_getElem (by rw [treeL_len]; exact h)]
  rfl
/-- A slice of older memory still reads; so does one behind a store into a block of other things. -/
theorem HR1 {w w1 : World} {A : Option Addr} {n : Nat} {l : List Int} (hr : Rd .u64 w w.heap.size A n l) (hb : Below w.heap.size w w1) : Rd .u64 w1 w1.heap.size A n l := (hr.below hb).mono hb.size
theorem rd_apart {k : IntKind} {w : World} {B g n : Nat} {t : TypeId} {cs : Array Value} {A : Option Addr} {zs : List Int} (hr : Rd k w B A n zs) (hb : Blk w g t cs) (hno : ∀ (j : Nat) (z : Int), cs[j]? ≠ some (.int k z)) : ∀ b off, 0 < n → A = some ⟨b, off, none⟩ → b ≠ g := by
  intro b off hn hA e
  subst e
  obtain ⟨b', off', e', hlt, hc⟩ := hr.2 hn
  rw [hA] at e'
  injection e' with e'
  injection e' with e1 e2
  subst e1 e2
  have h0 := hc 0 hn
  rw [hb.cell] at h0
  exact hno _ _ h0
theorem noint_fen (v : Value) (hv : ∀ k z, v ≠ .int k z) (k : IntKind) : ∀ (j : Nat) (z : Int), (#[v] : Array Value)[j]? ≠ some (.int k z) := by
  intro j z h
  match j, h with
  | 0, h => injection h with h; exact hv _ _ h
  | j + 1, h => simp at h
theorem rd_past {w w' : World} {g n : Nat} {A B : Option Addr} {m c : Nat} {zs : List Int} (hr : Rd .u64 w w.heap.size A n zs) (hb : Blk w g 26 #[.slice B m c]) (hs : w'.heap.size = w.heap.size) (ho : ∀ j, j ≠ g → w'.heap[j]? = w.heap[j]?) : Rd .u64 w' w'.heap.size A n zs := by
  have := Rd.other hr ho (rd_apart hr hb (noint_fen _ (fun _ _ h => by cases h) _))
  rw [hs]
  exact this
theorem run_build_fen0 (w : World) : (Instr.build 26 #[]).run Tryd.prog w = .ok (.agg #[.slice none 0 0]) w := by go_simp
theorem build_fen0 {a : Act} {o : Oper} (w : World) (ho : o.op = .build 26 #[]) : (execOp a.eval o).run Tryd.prog w = .ok (.value (.agg #[.slice none 0 0])) w := by
  unfold execOp
  simp only [ho, List.map_toArray, List.map_nil]
  change ((Instr.build 26 #[]) >>= fun v => pure (Next.value v)).run Tryd.prog w = _
  simp only [Sem.run_bind, run_build_fen0, Result.andThen_ok, Sem.run_pure]
/-- append([]uint64{}, l...): the copy is the call's own. -/
theorem wpList_own_copy8o {ops : Array Oper} {rest : List Oper} {o : Oper} {a : Act} {Q : Exit → Act → World → Prop} (W0 : World) (hgd : o.guard = none) (s x : Operand)
    (ho : o.op = .call { callee := .builtin .append, args := #[s, x], argTypes := #[23, 23] })
    (hs : a.eval s = .slice (some ⟨W0.heap.size, 0, none⟩) 0 0) (A : Option Addr) (m c : Nat) (ys : List Int) (hx : a.eval x = .slice A m c) (hr : Rd .u64 W0 W0.heap.size A m ys) (hm : m ≤ 100000000)
    (h : ∀ v w', Below W0.heap.size W0 w' → OwnI w' W0.heap.size 22 .u64 v ys → wpList Tryd.prog ops Q rest (a.put o.dst v) w') : wpList Tryd.prog ops Q (o :: rest) a (W0.alloc (.cells #[] 22)) := by
  obtain ⟨ti, hti, hz0, hz1, hzb⟩ := info_parts info_u64d
  have hw : W0.heap.size ≤ (W0.alloc (.cells #[] 22)).heap.size := ((Below.refl _ _).alloc (Nat.le_refl _) (.cells #[] 22)).size
  refine wpList_append_ints _ hgd s x 23 ho W0.heap.size 22 ti _ 8 .u64 Tryd.underlying23 hti hz0 hz1 hzb rfl _ [] hs (own_empty W0 22 .u64 (Nat.le_refl _)) W0.heap.size A m c ys hx (hr.alloc (Nat.le_refl _) _) (by simp [maxLen]; omega) (by simp; omega) hw ?_
  intro v w' hown hg hat
  have hb : Below W0.heap.size W0 w' := (own_empty W0 22 .u64 (Nat.le_refl _)).below_ ((Below.refl _ _).alloc (Nat.le_refl _) _) hw hg
  rw [List.nil_append] at hown
  exact h v w' hb hown
theorem size_u64f : (Tryd.prog.info? 22).map (·.size) = some 1 := by kernel_rfl
theorem len_set {n : Nat} (l : List Int) (k : Nat) (v : Int) (h : l.length = n) : (l.set k v).length = n := by rw [List.length_set]; exact h
/-- A number of such a row is stored. -/
theorem own_set {w0 w w' : World} {g c n j : Nat} {z : Int} {zs : List Int} {cur : Array Value} (h : OwnI w w0.heap.size 22 .u64 (.slice (some ⟨g, 0, none⟩) n c) zs) (hb : Blk w g 22 cur) (hj : j < zs.length) (hbl : Below w0.heap.size w0 w) (hg : w0.heap.size ≤ g) (hk : Blk w' g 22 (cur.setIfInBounds j (.int .u64 z))) (ho : Only g w w') :
    OwnI w' w0.heap.size 22 .u64 (.slice (some ⟨g, 0, none⟩) n c) (zs.set j z) ∧ Below w0.heap.size w0 w' :=
  ⟨h.put hb hj hk, hbl.trans (ho.below hg hbl.size)⟩
/-- Two trees in blocks of their own: what is handed back at g2, what is worked on at g3; its numbers are the call's own. -/
structure TreS (w0 : World) (g2 g3 : Nat) (v : Value) (ts : List Int) (w : World) : Prop where
  b2 : Blk w g2 26 #[.slice none 0 0]
  b3 : Blk w g3 26 #[v]
  own : OwnI w w0.heap.size 22 .u64 v ts
  bel : Below w0.heap.size w0 w
  le : w0.heap.size ≤ g2
  lt : g2 < g3
section
variable {w0 w w' : World} {g2 g3 n : Nat} {v v' : Value} {ts ts' : List Int} {A : Option Addr} {l : List Int}
theorem TreS.below (h : TreS w0 g2 g3 v ts w) (hb : Below w.heap.size w w') : TreS w0 g2 g3 v ts w' :=
  ⟨h.b2.below hb h.b2.lt, h.b3.below hb h.b3.lt, h.own.below hb, h.bel.trans (hb.mono h.bel.size), h.le, h.lt⟩
theorem TreS.drew (h : TreS w0 g2 g3 v ts w) : TreS w0 g2 g3 v ts w.drew := h.below (Below.refl _ _).drew
theorem TreS.size (h : TreS w0 g2 g3 v ts w) : w0.heap.size ≤ w.heap.size := h.bel.size
theorem TreS.cell (h : TreS w0 g2 g3 v ts w) : w.cell? ⟨g3, 0, none⟩ = some v := by rw [h.b3.cell]; rfl
theorem TreS.frz (h : TreS w0 g2 g3 v ts w) : w.frozen? ⟨g3, 0, none⟩ = false := h.b3.frozen 0
theorem TreS.rd (h : TreS w0 g2 g3 v ts w) (hr : Rd .u64 w0 w0.heap.size A n l) : Rd .u64 w w.heap.size A n l := (hr.below h.bel).mono h.size
/-- Numbers are appended, and not yet stored. -/
theorem TreS.grown (h : TreS w0 g2 g3 v ts w) (hg : w.grownBy w' v.ownBlock) : Blk w' g2 26 #[.slice none 0 0] ∧ Blk w' g3 26 #[v] ∧ Below w0.heap.size w0 w' :=
  ⟨h.b2.grown h.own (by decide) hg, h.b3.grown h.own (by decide) hg, h.own.below_ h.bel h.size hg⟩
/-- .. and are stored. -/
theorem TreS.put (h : TreS w0 g2 g3 v ts w) (hb : Blk w' g2 26 #[.slice none 0 0] ∧ Blk w' g3 26 #[v] ∧ Below w0.heap.size w0 w') (hown : OwnI w' w0.heap.size 22 .u64 v' ts') {w2 : World} (hk : Blk w2 g3 26 #[v']) (ho : Only g3 w' w2) : TreS w0 g2 g3 v' ts' w2 :=
  ⟨hb.1.only ho (Nat.ne_of_lt h.lt), hk, hown.only hb.2.1 (by decide) ho, hb.2.2.trans (ho.below (by have := h.le; have := h.lt; omega) hb.2.2.size), h.le, h.lt⟩
end
/-- What a call that makes a tree hands back, and leaves. -/
def RetTree (w : World) (l : List Int) (e : Ending) (w' : World) : Prop := ∃ A c, e = .returned (.agg #[.slice A l.length c]) ∧ Rd .u64 w' w'.heap.size A l.length (treeL l) ∧ l.length ≤ c ∧ c ≤ maxLen ∧ Below w.heap.size w w'
/-! ### what builds and sets answer -/
def bldE (l : List Int) : Int := if 1048576 < l.length then 14 else if sumL l < 9223372036854775808 then 0 else 11
def bldL (l : List Int) : List Int := if bldE l = 0 then treeL l else []
theorem bldE_many {l : List Int} (h : 1048576 < l.length) : bldE l = 14 ∧ bldL l = [] := by
  have : bldE l = 14 := if_pos h
  exact ⟨this, by unfold bldL; rw [this]; rfl⟩
theorem bldE_big {l : List Int} (h : ¬ 1048576 < l.length) (h2 : ¬ sumL l < 9223372036854775808) : bldE l = 11 ∧ bldL l = [] := by
  have : bldE l = 11 := by unfold bldE; rw [if_neg h, if_neg h2]
  exact ⟨this, by unfold bldL; rw [this]; rfl⟩
theorem bldE_ok {l : List Int} (h : ¬ 1048576 < l.length) (h2 : sumL l < 9223372036854775808) : bldE l = 0 ∧ bldL l = treeL l := by
  have : bldE l = 0 := by unfold bldE; rw [if_neg h, if_pos h2]
  exact ⟨this, by unfold bldL; rw [if_pos this]⟩
/-- A tree with these numbers, and an error, are handed back. -/
def RetFen (w : World) (ts : List Int) (er : Int) (e : Ending) (w' : World) : Prop := ∃ A c, e = .returned (.tuple #[.agg #[.slice A ts.length c], .int .i64 er]) ∧ Rd .u64 w' w'.heap.size A ts.length ts ∧ ts.length ≤ c ∧ c ≤ maxLen ∧ Below w.heap.size w w'
/-- A list with these numbers, and an error, are handed back. -/
def RetLst (w : World) (ts : List Int) (er : Int) (e : Ending) (w' : World) : Prop := ∃ A c, e = .returned (.tuple #[.slice A ts.length c, .int .i64 er]) ∧ Rd .u64 w' w'.heap.size A ts.length ts ∧ ts.length ≤ c ∧ c ≤ maxLen ∧ Below w.heap.size w w'
theorem rd_nil (w : World) (B : Nat) (k : IntKind) (A : Option Addr) : Rd k w B A 0 [] := ⟨rfl, fun h => absurd h (by omega)⟩
def setE (l : List Int) (i v : Int) : Int := if 0 ≤ i ∧ i < l.length then (if sumL (l.set i.toNat v) < 9223372036854775808 then 0 else 11) else 3
def setL (l : List Int) (i v : Int) : List Int := if setE l i v = 0 then l.set i.toNat v else []
theorem setE_no {l : List Int} {i : Int} (v : Int) (h : ¬ (0 ≤ i ∧ i < l.length)) : setE l i v = 3 ∧ setL l i v = [] := by
  have : setE l i v = 3 := if_neg h
  exact ⟨this, by unfold setL; rw [this]; rfl⟩
theorem setE_big {l : List Int} {i v : Int} (h : 0 ≤ i ∧ i < l.length) (h2 : ¬ sumL (l.set i.toNat v) < 9223372036854775808) : setE l i v = 11 ∧ setL l i v = [] := by
  have : setE l i v = 11 := by unfold setE; rw [if_pos h, if_neg h2]
  exact ⟨this, by unfold setL; rw [this]; rfl⟩
theorem setE_ok {l : List Int} {i v : Int} (h : 0 ≤ i ∧ i < l.length) (h2 : sumL (l.set i.toNat v) < 9223372036854775808) : setE l i v = 0 ∧ setL l i v = l.set i.toNat v := by
  have : setE l i v = 0 := by unfold setE; rw [if_pos h, if_pos h2]
  exact ⟨this, by unfold setL; rw [if_pos this]⟩
/-! ### what a tree is asked -/
def preE (l : List Int) (i : Int) : Int := if 0 ≤ i ∧ i ≤ l.length then 0 else 3
def preV (l : List Int) (i : Int) : Int := if 0 ≤ i ∧ i ≤ l.length then preL l i.toNat else 0
def atE (l : List Int) (i : Int) : Int := if 0 ≤ i ∧ i < l.length then 0 else 3
def atV (l : List Int) (i : Int) : Int := if 0 ≤ i ∧ i < l.length then l.getD i.toNat 0 else 0
def grwE (l : List Int) (v : Int) : Int := if 1048576 ≤ l.length then 14 else if sumL (l ++ [v]) < 9223372036854775808 then 0 else 11
def grwL (l : List Int) (v : Int) : List Int := if grwE l v = 0 then l ++ [v] else []
theorem pre_ok {l : List Int} {i : Int} (h : 0 ≤ i ∧ i ≤ l.length) : preE l i = 0 ∧ preV l i = preL l i.toNat := ⟨if_pos h, if_pos h⟩
theorem pre_no {l : List Int} {i : Int} (h : ¬ (0 ≤ i ∧ i ≤ l.length)) : preE l i = 3 ∧ preV l i = 0 := ⟨if_neg h, if_neg h⟩
theorem at_ok {l : List Int} {i : Int} (h : 0 ≤ i ∧ i < l.length) : atE l i = 0 ∧ atV l i = l.getD i.toNat 0 := ⟨if_pos h, if_pos h⟩
theorem at_no {l : List Int} {i : Int} (h : ¬ (0 ≤ i ∧ i < l.length)) : atE l i = 3 ∧ atV l i = 0 := ⟨if_neg h, if_neg h⟩
theorem grw_big {l : List Int} {v : Int} (h : ¬ 1048576 ≤ l.length) (h2 : ¬ sumL (l ++ [v]) < 9223372036854775808) : grwE l v = 11 ∧ grwL l v = [] := by
  have : grwE l v = 11 := by unfold grwE; rw [if_neg h, if_neg h2]
  exact ⟨this, by unfold grwL; rw [this]; rfl⟩
theorem grw_many {l : List Int} (v : Int) (h : 1048576 ≤ l.length) : grwE l v = 14 ∧ grwL l v = [] := by
  have : grwE l v = 14 := if_pos h
  exact ⟨this, by unfold grwL; rw [this]; rfl⟩
theorem grw_ok {l : List Int} {v : Int} (h : ¬ 1048576 ≤ l.length) (h2 : sumL (l ++ [v]) < 9223372036854775808) : grwE l v = 0 ∧ grwL l v = l ++ [v] := by
  have : grwE l v = 0 := by unfold grwE; rw [if_neg h, if_pos h2]
  exact ⟨this, by unfold grwL; rw [if_pos this]⟩
/-- A list is handed back. -/
def RetL (w : World) (ts : List Int) (e : Ending) (w' : World) : Prop := ∃ A c, e = .returned (.slice A ts.length c) ∧ Rd .u64 w' w'.heap.size A ts.length ts ∧ ts.length ≤ c ∧ c ≤ maxLen ∧ Below w.heap.size w w'
end Go.Proofs.YtilccjjagdedaaaDoor

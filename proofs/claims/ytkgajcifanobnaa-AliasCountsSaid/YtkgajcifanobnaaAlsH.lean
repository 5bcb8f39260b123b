/-
  What the landed alias's lay and Build return: the table of stakes, or why there is none; memory is left as it was.
  Conditions: the stakes lie in their type's range; there are at most 1000.
-/
import Derived.Test.YtkgajcifanobnaaAlsG
import Derived.Test.YtkgajcifanobnaaRefZd
import Derived.Test.YtkgajcifanobnaaSafA
set_option maxRecDepth 100000
set_option linter.unusedVariables false
set_option linter.unusedSimpArgs false
namespace Go.Proofs.Ytkgajcifanobnaa
open Go.ChangeShapes Go.WideShapes Go.ChangeAt Go.RowKit
section
variable {P : Program} {w : World} {ops : Array Oper} {o : Oper} {a : Act} {Q : Exit → Act → World → Prop}
/-- A row is made, where it comes up. -/
theorem step_makeH {K : Act → World → Prop} {E : Prop} (d : Option Tmp) (hd : o.dst = d) (hw : Region.wanted o (yielded ops a.tmps) = true) (n : Nat) (t : TypeId) (cs : Array Value)
    (hv : (execOp a.eval o).run P w = .ok (.value (.slice (some ⟨w.heap.size, 0, none⟩) n n)) (w.alloc (.cells cs t)))
    (h : ∀ g w', Blk w' g t cs → Below w.heap.size w w' → w.heap.size ≤ g → K (a.put d (.slice (some ⟨g, 0, none⟩) n n)) w') :
    if Region.wanted o (yielded ops a.tmps) = true then Oper.wp P o a w K Q else E := by
  subst hd
  rw [if_pos hw]
  unfold Oper.wp
  simp only [hv]
  exact h _ _ (Blk.new w t cs) ((Below.refl _ _).alloc (Nat.le_refl _) _) (Nat.le_refl _)
/-- A struct is boxed, where it comes up. -/
theorem step_boxH {K : Act → World → Prop} {E : Prop} (d : Option Tmp) (hd : o.dst = d) (hw : Region.wanted o (yielded ops a.tmps) = true) (ty : TypeId) (x : Operand) (ho : o.op = .box ty x) (cs : Array Value) (hx : a.eval x = .agg cs)
    (h : ∀ g w', Blk w' g ty cs → Below w.heap.size w w' → w.heap.size ≤ g → K (a.put d (.pointer (some ⟨g, 0, none⟩))) w') :
    if Region.wanted o (yielded ops a.tmps) = true then Oper.wp P o a w K Q else E := by
  subst hd
  rw [if_pos hw]
  unfold Oper.wp execOp
  simp only [ho, hx, Instr.box, newVar, newRow, Value.cells]
  exact h _ _ (Blk.new w ty cs) ((Below.refl _ _).alloc (Nat.le_refl _) _) (Nat.le_refl _)
end
theorem exec_cells {a : Act} {o : Oper} (n : Nat) (hn : n ≤ 100000) (w : World) (x : Operand) (ho : o.op = .makeSlice 25 x x) (hx : a.eval x = .int .i64 (n : Int)) : (execOp a.eval o).run Try.prog w = .ok (.value (.slice (some ⟨w.heap.size, 0, none⟩) n n)) (w.alloc (.cells (cellsA (List.replicate n (0, 0))) 44)) := by
  unfold execOp
  simp only [ho, hx]
  change ((Instr.makeSlice 25 (.int .i64 (n : Int)) (.int .i64 (n : Int))) >>= fun v => pure (Next.value v)).run Try.prog w = _
  simp only [Sem.run_bind, run_make_cells n hn, Result.andThen_ok, Sem.run_pure]
theorem exec_u64 {a : Act} {o : Oper} (n : Nat) (hn : n ≤ 100000) (w : World) (x : Operand) (ho : o.op = .makeSlice 22 x x) (hx : a.eval x = .int .i64 (n : Int)) : (execOp a.eval o).run Try.prog w = .ok (.value (.slice (some ⟨w.heap.size, 0, none⟩) n n)) (w.alloc (.cells (intsA .u64 (List.replicate n 0)) 24)) := by
  unfold execOp
  simp only [ho, hx]
  change ((Instr.makeSlice 22 (.int .i64 (n : Int)) (.int .i64 (n : Int))) >>= fun v => pure (Next.value v)).run Try.prog w = _
  simp only [Sem.run_bind, run_make_u64 n hn, Result.andThen_ok, Sem.run_pure]
/-- What a build begins with. -/
theorem LayS.start {w0 w1 w2 w3 : World} {g gH gC n : Nat} {T : Int} {vs : List Int} {ts : List (Int × Int)} (kH : Blk w3 gH 24 (intsA .u64 vs)) (kC : Blk w3 gC 44 (cellsA ts)) (kY : Blk w3 g 52 #[.int .u64 T, .slice (some ⟨gC, 0, none⟩) n n, .slice (some ⟨gH, 0, none⟩) n n, .slice none 0 0, .slice none 0 0]) (hb : Below w0.heap.size w0 w3) (lY : w0.heap.size ≤ g) (lH : w0.heap.size ≤ gH) (lC : w0.heap.size ≤ gC) : LayS w0 g gH gC n T vs ts (.slice none 0 0) (.slice none 0 0) [] [] w3 :=
  ⟨kY, kH, kC, own_nil _ _ _, own_nil _ _ _, fun g e => (by simp [Value.ownBlock] at e), hb, lY, lH, lC⟩
/-- How many places are left, as the lists in memory say. -/
def layM (g : Nat) (w : World) : Nat := lenV ((w.cell? ⟨g, 3, none⟩).getD undef) + lenV ((w.cell? ⟨g, 4, none⟩).getD undef)
theorem LayS.meas {w0 w : World} {g gH gC n : Nat} {T : Int} {hs sm lg : List Int} {ts : List (Int × Int)} {vS vL : Value} (h : LayS w0 g gH gC n T hs ts vS vL sm lg w) : layM g w = sm.length + lg.length := by
  unfold layM
  rw [h.c3, h.c4]
  show lenV vS + lenV vL = _
  rw [h.oS.lenV, h.oL.lenV]
set_option maxHeartbeats 8000000 in
theorem q14lay_c (l : List Int) (T : Int) (T0 : 0 ≤ T) (T1 : T < 9223372036854775808) (A : Option Addr) (n c : Nat) (hn : n ≤ 1000) (hz : ∀ k, k < n → 0 ≤ l.getD k 0 ∧ l.getD k 0 < 18446744073709551616 ∧ 0 ≤ (n : Int) * l.getD k 0 ∧ (n : Int) * l.getD k 0 < 9223372036854775808) (w : World) (hrd : Rd .u64 w w.heap.size A n l) :
    Calls Try.prog 26 #[.int .u64 T, .slice A n c] w fun e w' => ∃ (g gH gC : Nat) (vS vL : Value), e = .returned (.pointer (some ⟨g, 0, none⟩)) ∧ LayS w g gH gC n T (abInit T l).has (abInit T l).ts vS vL (abInit T l).sm (abInit T l).lg w' := by
  have HR := Lib.hid hrd
  have hlen := hrd.len
  have HZ := Lib.hid hz
  have HNEXT : Hid (∀ g gH gC k, k < n → ∀ vS vL W, LayS w g gH gC n T ((fillT (hasL l) 0 k).set k ((n : Int) * l.getD k 0)) ((fillT (cellsL T n) (0, 0) k).set k (T, (k : Int))) vS vL (smL T (hasL l) k) (lgL T (hasL l) k) W → Calls Try.prog 38 #[.pointer (some ⟨g, 0, none⟩), .int .i64 (k : Int)] W fun e w' => e = .returned (.tuple #[]) ∧ ∃ vS' vL', LayS w g gH gC n T (fillT (hasL l) 0 (k + 1)) (fillT (cellsL T n) (0, 0) (k + 1)) vS' vL' (smL T (hasL l) (k + 1)) (lgL T (hasL l) (k + 1)) w') := Lib.hid (fun g gH gC k hk vS vL W h => by
    have q1 : (fillT (hasL l) 0 k).set k ((n : Int) * l.getD k 0) = fillT (hasL l) 0 (k + 1) := by
      have := fill_next (hasL l) 0 k (by rw [hasL_len]; omega)
      rw [← this]
      congr 1
      have h9 := hasL_at (l := l) (i := k) (by omega)
      rw [hlen] at h9
      rw [← h9, List.getD_eq_getElem?_getD, List.getElem?_eq_getElem (by rw [hasL_len]; omega)]
      rfl
    have q2 : (fillT (cellsL T n) (0, 0) k).set k (T, (k : Int)) = fillT (cellsL T n) (0, 0) (k + 1) := by
      have := fill_next (cellsL T n) (0, 0) k (by rw [cells_len]; omega)
      rw [← this]
      congr 1
      simp [cellsL]
    have h9 := hasL_at (l := l) (i := k) (by omega)
    rw [hlen] at h9
    have hll : (fillT (hasL l) 0 k).length = n := by rw [fill_len _ _ _ (by rw [hasL_len]; omega), hasL_len, hlen]
    have hg : ((fillT (hasL l) 0 k).set k ((n : Int) * l.getD k 0)).getD k 0 = (n : Int) * l.getD k 0 := by rw [getD_setT (by omega), if_pos rfl]
    have hx := hz k hk
    have hsl := sl_len T (hasL l) k
    have h2 := q14sort_c k hk hn (by rw [List.length_set]; exact hll) (by rw [hg]; exact hx.2.2.1) (by rw [hg]; have := hx.2.2.2; omega) T0 (by omega) (by omega) (by omega) W h
    rw [hg, q1, q2] at h2
    rw [smL_succ, lgL_succ, h9]
    exact h2)
  have HFIN : Hid (∀ g gH gC vS vL W, LayS w g gH gC n T (fillT (hasL l) 0 n) (fillT (cellsL T n) (0, 0) n) vS vL (smL T (hasL l) n) (lgL T (hasL l) n) W → ∃ (g' gH' gC' : Nat) (vS' vL' : Value), Ending.returned (.pointer (some ⟨g, 0, none⟩)) = .returned (.pointer (some ⟨g', 0, none⟩)) ∧ LayS w g' gH' gC' n T (abInit T l).has (abInit T l).ts vS' vL' (abInit T l).sm (abInit T l).lg W) := Lib.hid (fun g gH gC vS vL W h => by
    have h1 := fill_all (hasL l) 0
    have h2 := fill_all (cellsL T n) (0, 0)
    rw [hasL_len, hlen] at h1
    rw [cells_len] at h2
    rw [h1, h2] at h
    refine ⟨g, gH, gC, vS, vL, rfl, ?_⟩
    unfold abInit
    rw [hlen]
    exact h)
  have HN5 := Lib.hid (show n ≤ 100000 by omega)
  have HB0 : Below w.heap.size w w.drew := (Below.refl _ _).drew
  have i2 : (n : Int) ≤ 1000 := by omega
  have i3 : (0 : Int) ≤ (n : Int) := by omega
  clear hz hrd
  go_enter Try.func26, Try.ntmps26
  go_wp2
  refine wp_region_held_drew (S := (fun _ => True)) (by kernel_rfl) trivial (fun hH => ?_)
  refine wpAnyH_letter #[false, false, false, false, false, false, false, false, false] (by kernel_rfl) (fun _ _ d _ _ h => by cases d <;> exact h) (fun QL HQ1 HQ2 => ?_)
  refine held_v 0 (some 11) rfl (by kernel_rfl) (by kernel_rfl) (by kernel_rfl) (by kernel_rfl) (fun c a v w h => HQ2.out c a _ v w h) (by kernel_rfl) (.int .u64 T) (fun W h => by kernel_rfl) trivial ?_
  try simp only [Act.put, List.setIfInBounds_toArray, List.set_cons_zero, List.set_cons_succ]
  refine held_v 1 (some 12) rfl (by kernel_rfl) (by kernel_rfl) (by kernel_rfl) (by kernel_rfl) (fun c a v w h => HQ2.out c a _ v w h) (by kernel_rfl) (.int .i64 (n : Int)) (fun W h => by kernel_rfl) trivial ?_
  try simp only [Act.put, List.setIfInBounds_toArray, List.set_cons_zero, List.set_cons_succ]
  refine held_v 4 (some 15) rfl (by kernel_rfl) (by kernel_rfl) (by kernel_rfl) (by kernel_rfl) (fun c a v w h => HQ2.out c a _ v w h) (by kernel_rfl) (.int .i64 (n : Int)) (fun W h => by kernel_rfl) trivial ?_
  try simp only [Act.put, List.setIfInBounds_toArray, List.set_cons_zero, List.set_cons_succ]
  refine wpAnyH_ready (rs := [2, 5]) (by kernel_rfl) (by decide) ?_
  refine AllReadyH.cons rfl (fun K hK => ?_) (AllReadyH.cons rfl (fun K hK => ?_) AllReadyH.nil)
  · refine step_makeH (some 13) (by kernel_rfl) (by kernel_rfl) n 44 (cellsA (List.replicate n (0, 0))) (exec_cells n HN5.out _ (.tmp 12) (by kernel_rfl) (by kernel_rfl)) ?_
    intro gw41 w41 kw41 bw41 lw41
    have e42 := (HB0).trans (bw41.mono (HB0).size)
    have llw41 := Nat.le_trans (HB0).size lw41
    refine hK.out _ _ trivial (fun _ => ?_)
    clear hK K
    try simp only [Act.put, List.setIfInBounds_toArray, List.set_cons_zero, List.set_cons_succ]
    refine held_v 3 (some 14) rfl (by kernel_rfl) (by kernel_rfl) (by kernel_rfl) (by kernel_rfl) (fun c a v w h => HQ2.out c a _ v w h) (by kernel_rfl) (.agg #[.int .u64 T, .slice (some ⟨gw41, 0, none⟩) n n]) (fun W h => by go_simp) trivial ?_
    try simp only [Act.put, List.setIfInBounds_toArray, List.set_cons_zero, List.set_cons_succ]
    refine wpAnyH_ready (rs := [5]) (by kernel_rfl) (by decide) ?_
    refine AllReadyH.cons rfl (fun K hK => ?_) AllReadyH.nil
    refine step_makeH (some 16) (by kernel_rfl) (by kernel_rfl) n 24 (intsA .u64 (List.replicate n 0)) (exec_u64 n HN5.out _ (.tmp 15) (by kernel_rfl) (by kernel_rfl)) ?_
    intro gw43 w43 kw43 bw43 lw43
    have e44 := (e42).trans (bw43.mono (e42).size)
    have e45 := (kw41).below bw43 (kw41).lt
    have e46 := llw41
    have llw43 := Nat.le_trans (e42).size lw43
    refine hK.out _ _ trivial (fun _ => ?_)
    clear hK K
    try simp only [Act.put, List.setIfInBounds_toArray, List.set_cons_zero, List.set_cons_succ]
    refine held_v 6 (some 17) rfl (by kernel_rfl) (by kernel_rfl) (by kernel_rfl) (by kernel_rfl) (fun c a v w h => HQ2.out c a _ v w h) (by kernel_rfl) (.agg #[.int .u64 T, .slice (some ⟨gw41, 0, none⟩) n n, .slice (some ⟨gw43, 0, none⟩) n n, .slice none 0 0, .slice none 0 0]) (fun W h => by go_simp) trivial ?_
    try simp only [Act.put, List.setIfInBounds_toArray, List.set_cons_zero, List.set_cons_succ]
    refine wpAnyH_ready (rs := [7]) (by kernel_rfl) (by decide) ?_
    refine AllReadyH.cons rfl (fun K hK => ?_) AllReadyH.nil
    refine step_boxH (some 18) (by kernel_rfl) (by kernel_rfl) 52 (.tmp 17) (by kernel_rfl) #[.int .u64 T, .slice (some ⟨gw41, 0, none⟩) n n, .slice (some ⟨gw43, 0, none⟩) n n, .slice none 0 0, .slice none 0 0] (by kernel_rfl) ?_
    intro gw47 w47 kw47 bw47 lw47
    have e48 := (e44).trans (bw47.mono (e44).size)
    have e49 := (e45).below bw47 (e45).lt
    have e50 := e46
    have e51 := (kw43).below bw47 (kw43).lt
    have e52 := llw43
    have llw47 := Nat.le_trans (e44).size lw47
    refine hK.out _ _ trivial (fun _ => ?_)
    clear hK K
    try simp only [Act.put, List.setIfInBounds_toArray, List.set_cons_zero, List.set_cons_succ]
    refine held_v 8 (some 6) rfl (by kernel_rfl) (by kernel_rfl) (by kernel_rfl) (by kernel_rfl) (fun c a v w h => HQ2.out c a _ v w h) (by kernel_rfl) (.pointer (some ⟨gw47, 0, none⟩)) (fun W h => by kernel_rfl) trivial ?_
    try simp only [Act.put, List.setIfInBounds_toArray, List.set_cons_zero, List.set_cons_succ]
    refine wpAnyH_done (by kernel_rfl) ?_ _
    refine HQ1.out _ _ ?_
    clear HQ1 HQ2
    have HST : Hid (LayS w gw47 gw43 gw41 n T (fillT (hasL l) 0 0) (fillT (cellsL T n) (0, 0) 0) (.slice none 0 0) (.slice none 0 0) (smL T (hasL l) 0) (lgL T (hasL l) 0) _) := Lib.hid (by
      rw [fill_zero, fill_zero, hasL_len, cells_len, hlen]
      exact LayS.start (w1 := w) (w2 := w) e51 e49 kw47 e48 llw47 e52 e50)
    have HNX0 := Lib.hid (fun k hk => HNEXT.out gw47 gw43 gw41 k hk)
    have HEND := Lib.hid (fun vS vL W h => HFIN.out gw47 gw43 gw41 vS vL W h)
    clear HNEXT HFIN
    clear e48 e49 e51 kw47
    go_wp2
    go_loopw [21] (fun iv wr => ∃ (k : Nat) (vS vL : Value), k ≤ n ∧ iv = .int .i64 (k : Int) ∧ LayS w gw47 gw43 gw41 n T (fillT (hasL l) 0 k) (fillT (cellsL T n) (0, 0) k) vS vL (smL T (hasL l) k) (lgL T (hasL l) k) wr) (fun iv _ => n - (intOf iv).toNat)
    case atStart => exact ⟨0, _, _, by omega, rfl, HST.out⟩
    case round =>
      obtain ⟨k, vS, vL, hk, rfl, hB⟩ := hrel
      have B1 := Lib.hid hB
      by_cases hlt : k < n
      · obtain ⟨b, off, rfl, _, hcc⟩ := (hB.rd HR.out).at_ (by omega)
        have hck := hcc k hlt
        have hx := HZ.out k hlt
        have HTL : Hid ((fillT (cellsL T n) (0, 0) k).length = n) := Lib.hid (by rw [fill_len _ _ _ (by rw [cells_len]; omega), cells_len])
        have HHL : Hid ((fillT (hasL l) 0 k).length = n) := Lib.hid (by rw [fill_len _ _ _ (by rw [hasL_len]; omega), hasL_len, hlen])
        have HNX := Lib.hid (HNX0.out k hlt)
        obtain ⟨x, hxx⟩ : ∃ x, l.getD k 0 = x := ⟨_, rfl⟩
        rw [hxx] at hck hx HNX
        obtain ⟨p, hp⟩ : ∃ p, (n : Int) * x = p := ⟨_, rfl⟩
        rw [hp] at hx HNX
        obtain ⟨x0, x1, p0, p1⟩ := hx
        obtain ⟨H, hH⟩ : ∃ p, fillT (hasL l) 0 k = p := ⟨_, rfl⟩
        obtain ⟨C, hC⟩ : ∃ p, fillT (cellsL T n) (0, 0) k = p := ⟨_, rfl⟩
        rw [hH] at B1 HHL HNX
        rw [hC] at B1 HTL HNX
        have i0 : (0 : Int) ≤ (k : Int) := by omega
        have i1 : (k : Int) < (n : Int) := by omega
        have hw : IntKind.u64.wrap ((n : Int) * x) = p := by rw [hp, IntKind.wrap_u64]; omega
        have d1 := B1.out.c1
        clear hcc hB hxx hp hH hC HST HEND HNX0
        go_wp2_with (first
          | (with_reducible refine at_any ?_; refine at_store 35 rfl ?_; refine wpList_store_mid rfl 44 (.tmp 35) (.tmp 34) rfl gw41 (k * 2) rfl 44 (cellsA C) #[.int .u64 T, .int .i64 (k : Int)] B1.out.bC rfl (by have := HTL.out; rw [cellsA_size, this]; simp; omega) (size_cellF _ _) (cell_onesF _ _) ?_; intro w2 hk2 ho2; have B2 := Lib.hid (B1.out.putC hk2.out ho2); have d2 := B2.out.c2; clear hk2 ho2)
          | (with_reducible refine at_any ?_; refine at_store 45 rfl ?_; refine wpList_store_cell rfl 24 (.tmp 45) (.tmp 44) rfl gw43 k rfl 24 (intsA .u64 H) B2.out.bH (.int .u64 p) rfl (by have := HHL.out; rw [intsA_size, this]; exact hlt) size_u64F rfl rfl ?_; intro w3 hk3 ho3; have B3 := Lib.hid (B2.out.putH hk3.out ho3); clear hk3 ho3)
          | (go_at_call 38; (with_reducible refine (HNX.out _ _ _ B3.out).mono ?_); rintro e w4 ⟨rfl, hfin⟩; have HF := Lib.hid hfin; clear hfin))
        go_roundw
        case rel =>
          obtain ⟨v1, v2, hF⟩ := HF.out
          exact ⟨k + 1, v1, v2, by omega, by go_num, hF⟩
        case measure => simp [intOf]; omega
      · obtain rfl : k = n := by omega
        go_wp2
        go_ret
        exact HEND.out _ _ _ B1.out
  · refine step_makeH (some 16) (by kernel_rfl) (by kernel_rfl) n 24 (intsA .u64 (List.replicate n 0)) (exec_u64 n HN5.out _ (.tmp 15) (by kernel_rfl) (by kernel_rfl)) ?_
    intro gw53 w53 kw53 bw53 lw53
    have e54 := (HB0).trans (bw53.mono (HB0).size)
    have llw53 := Nat.le_trans (HB0).size lw53
    refine hK.out _ _ trivial (fun _ => ?_)
    clear hK K
    try simp only [Act.put, List.setIfInBounds_toArray, List.set_cons_zero, List.set_cons_succ]
    refine wpAnyH_ready (rs := [2]) (by kernel_rfl) (by decide) ?_
    refine AllReadyH.cons rfl (fun K hK => ?_) AllReadyH.nil
    refine step_makeH (some 13) (by kernel_rfl) (by kernel_rfl) n 44 (cellsA (List.replicate n (0, 0))) (exec_cells n HN5.out _ (.tmp 12) (by kernel_rfl) (by kernel_rfl)) ?_
    intro gw55 w55 kw55 bw55 lw55
    have e56 := (e54).trans (bw55.mono (e54).size)
    have e57 := (kw53).below bw55 (kw53).lt
    have e58 := llw53
    have llw55 := Nat.le_trans (e54).size lw55
    refine hK.out _ _ trivial (fun _ => ?_)
    clear hK K
    try simp only [Act.put, List.setIfInBounds_toArray, List.set_cons_zero, List.set_cons_succ]
    refine held_v 3 (some 14) rfl (by kernel_rfl) (by kernel_rfl) (by kernel_rfl) (by kernel_rfl) (fun c a v w h => HQ2.out c a _ v w h) (by kernel_rfl) (.agg #[.int .u64 T, .slice (some ⟨gw55, 0, none⟩) n n]) (fun W h => by go_simp) trivial ?_
    try simp only [Act.put, List.setIfInBounds_toArray, List.set_cons_zero, List.set_cons_succ]
    refine held_v 6 (some 17) rfl (by kernel_rfl) (by kernel_rfl) (by kernel_rfl) (by kernel_rfl) (fun c a v w h => HQ2.out c a _ v w h) (by kernel_rfl) (.agg #[.int .u64 T, .slice (some ⟨gw55, 0, none⟩) n n, .slice (some ⟨gw53, 0, none⟩) n n, .slice none 0 0, .slice none 0 0]) (fun W h => by go_simp) trivial ?_
    try simp only [Act.put, List.setIfInBounds_toArray, List.set_cons_zero, List.set_cons_succ]
    refine wpAnyH_ready (rs := [7]) (by kernel_rfl) (by decide) ?_
    refine AllReadyH.cons rfl (fun K hK => ?_) AllReadyH.nil
    refine step_boxH (some 18) (by kernel_rfl) (by kernel_rfl) 52 (.tmp 17) (by kernel_rfl) #[.int .u64 T, .slice (some ⟨gw55, 0, none⟩) n n, .slice (some ⟨gw53, 0, none⟩) n n, .slice none 0 0, .slice none 0 0] (by kernel_rfl) ?_
    intro gw59 w59 kw59 bw59 lw59
    have e60 := (e56).trans (bw59.mono (e56).size)
    have e61 := (e57).below bw59 (e57).lt
    have e62 := e58
    have e63 := (kw55).below bw59 (kw55).lt
    have e64 := llw55
    have llw59 := Nat.le_trans (e56).size lw59
    refine hK.out _ _ trivial (fun _ => ?_)
    clear hK K
    try simp only [Act.put, List.setIfInBounds_toArray, List.set_cons_zero, List.set_cons_succ]
    refine held_v 8 (some 6) rfl (by kernel_rfl) (by kernel_rfl) (by kernel_rfl) (by kernel_rfl) (fun c a v w h => HQ2.out c a _ v w h) (by kernel_rfl) (.pointer (some ⟨gw59, 0, none⟩)) (fun W h => by kernel_rfl) trivial ?_
    try simp only [Act.put, List.setIfInBounds_toArray, List.set_cons_zero, List.set_cons_succ]
    refine wpAnyH_done (by kernel_rfl) ?_ _
    refine HQ1.out _ _ ?_
    clear HQ1 HQ2
    have HST : Hid (LayS w gw59 gw53 gw55 n T (fillT (hasL l) 0 0) (fillT (cellsL T n) (0, 0) 0) (.slice none 0 0) (.slice none 0 0) (smL T (hasL l) 0) (lgL T (hasL l) 0) _) := Lib.hid (by
      rw [fill_zero, fill_zero, hasL_len, cells_len, hlen]
      exact LayS.start (w1 := w) (w2 := w) e61 e63 kw59 e60 llw59 e62 e64)
    have HNX0 := Lib.hid (fun k hk => HNEXT.out gw59 gw53 gw55 k hk)
    have HEND := Lib.hid (fun vS vL W h => HFIN.out gw59 gw53 gw55 vS vL W h)
    clear HNEXT HFIN
    clear e60 e61 e63 kw59
    go_wp2
    go_loopw [21] (fun iv wr => ∃ (k : Nat) (vS vL : Value), k ≤ n ∧ iv = .int .i64 (k : Int) ∧ LayS w gw59 gw53 gw55 n T (fillT (hasL l) 0 k) (fillT (cellsL T n) (0, 0) k) vS vL (smL T (hasL l) k) (lgL T (hasL l) k) wr) (fun iv _ => n - (intOf iv).toNat)
    case atStart => exact ⟨0, _, _, by omega, rfl, HST.out⟩
    case round =>
      obtain ⟨k, vS, vL, hk, rfl, hB⟩ := hrel
      have B1 := Lib.hid hB
      by_cases hlt : k < n
      · obtain ⟨b, off, rfl, _, hcc⟩ := (hB.rd HR.out).at_ (by omega)
        have hck := hcc k hlt
        have hx := HZ.out k hlt
        have HTL : Hid ((fillT (cellsL T n) (0, 0) k).length = n) := Lib.hid (by rw [fill_len _ _ _ (by rw [cells_len]; omega), cells_len])
        have HHL : Hid ((fillT (hasL l) 0 k).length = n) := Lib.hid (by rw [fill_len _ _ _ (by rw [hasL_len]; omega), hasL_len, hlen])
        have HNX := Lib.hid (HNX0.out k hlt)
        obtain ⟨x, hxx⟩ : ∃ x, l.getD k 0 = x := ⟨_, rfl⟩
        rw [hxx] at hck hx HNX
        obtain ⟨p, hp⟩ : ∃ p, (n : Int) * x = p := ⟨_, rfl⟩
        rw [hp] at hx HNX
        obtain ⟨x0, x1, p0, p1⟩ := hx
        obtain ⟨H, hH⟩ : ∃ p, fillT (hasL l) 0 k = p := ⟨_, rfl⟩
        obtain ⟨C, hC⟩ : ∃ p, fillT (cellsL T n) (0, 0) k = p := ⟨_, rfl⟩
        rw [hH] at B1 HHL HNX
        rw [hC] at B1 HTL HNX
        have i0 : (0 : Int) ≤ (k : Int) := by omega
        have i1 : (k : Int) < (n : Int) := by omega
        have hw : IntKind.u64.wrap ((n : Int) * x) = p := by rw [hp, IntKind.wrap_u64]; omega
        have d1 := B1.out.c1
        clear hcc hB hxx hp hH hC HST HEND HNX0
        go_wp2_with (first
          | (with_reducible refine at_any ?_; refine at_store 35 rfl ?_; refine wpList_store_mid rfl 44 (.tmp 35) (.tmp 34) rfl gw55 (k * 2) rfl 44 (cellsA C) #[.int .u64 T, .int .i64 (k : Int)] B1.out.bC rfl (by have := HTL.out; rw [cellsA_size, this]; simp; omega) (size_cellF _ _) (cell_onesF _ _) ?_; intro w2 hk2 ho2; have B2 := Lib.hid (B1.out.putC hk2.out ho2); have d2 := B2.out.c2; clear hk2 ho2)
          | (with_reducible refine at_any ?_; refine at_store 45 rfl ?_; refine wpList_store_cell rfl 24 (.tmp 45) (.tmp 44) rfl gw53 k rfl 24 (intsA .u64 H) B2.out.bH (.int .u64 p) rfl (by have := HHL.out; rw [intsA_size, this]; exact hlt) size_u64F rfl rfl ?_; intro w3 hk3 ho3; have B3 := Lib.hid (B2.out.putH hk3.out ho3); clear hk3 ho3)
          | (go_at_call 38; (with_reducible refine (HNX.out _ _ _ B3.out).mono ?_); rintro e w4 ⟨rfl, hfin⟩; have HF := Lib.hid hfin; clear hfin))
        go_roundw
        case rel =>
          obtain ⟨v1, v2, hF⟩ := HF.out
          exact ⟨k + 1, v1, v2, by omega, by go_num, hF⟩
        case measure => simp [intOf]; omega
      · obtain rfl : k = n := by omega
        go_wp2
        go_ret
        exact HEND.out _ _ _ B1.out
end Go.Proofs.Ytkgajcifanobnaa

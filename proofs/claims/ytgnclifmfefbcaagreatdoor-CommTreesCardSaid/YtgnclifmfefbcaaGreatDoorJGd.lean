/-
  Texts of this claim, joined (what the claim does not need is left out): ShaN, TapM, ShaJ, ShaG, PadR, PadT, PadC, ShaH, ShaR, ShaW, ShaB, ShaA, StrmB, StrmC, TapO, TapN, TapA, UniA, ShlB, FenK, FenC, FenD, FenE, FenT, FenG.
-/
import Derived.Test.YtgnclifmfefbcaaGreatDoorJGc
import Derived.Deep.RegionLaw
import Derived.Laws.Cover3
import Derived.Deep.QuietTactic
import Derived.BigQuiet
import Derived.Test.YtgnclifmfefbcaaGreatDoorRows
import Derived.Shelf.Strconv.Itoa0
import Derived.Shelf.Small.Bits
import Derived.Shelf.Spec.TrailingZeros
import Derived.Shelf.Spec.SlicesGrow
import Derived.Lib.SliceRun
set_option maxRecDepth 100000
set_option linter.unusedVariables false
set_option linter.unusedSimpArgs false
set_option linter.unusedSectionVars false
namespace Go.Proofs.YtgnclifmfefbcaaGreatDoor
section
open Go.ChangeShapes Go.WideShapes Go.ChangeAt Go.RowKit
def RetG (w : World) (g : Nat) (V : Array Value) (e : Ending) (w' : World) : Prop := e = .returned (.tuple #[]) ∧ Blk w' g 176 V ∧ Only g w w'
set_option maxHeartbeats 1000000 in
theorem qtake_c (g : Nat) (A : Option Addr) (r c : Nat) (s b : List Int) (n : Int) (hl : s.length = 8) (hs : WIn s) (hbl : b.length = 64) (hb : ∀ z ∈ b, 0 ≤ z ∧ z < 256) (w : World) (hg : Blk w g 176 (wrV s A r c n)) (hkst : Kst w) :
    Calls Tryz.prog 135 #[.pointer (some ⟨g, 0, none⟩), .agg (intsA .u8 b)] w (RetG w g (wrV (takeL s b) A r c n)) := by
  have hyl := takeL_len s b hl
  have HC := Lib.hid (fun W => ctake_c s b hl hs hbl hb W)
  obtain ⟨y, hy⟩ : ∃ y, takeL s b = y := ⟨_, rfl⟩
  rw [hy] at hyl HC ⊢
  have HPU := Lib.hid (wrV_put s y hl hyl A r c n)
  have SS := Lib.hid (sized s hl)
  have SY := Lib.hid (show (Tryz.prog.info? 159).map (·.size) = some (intsA .u32 y).size by rw [intsA_size, hyl]; exact size_state)
  have SB := Lib.hid (show (Tryz.prog.info? 137).map (·.size) = some (b.map (Value.int .u8)).length by rw [List.length_map, hbl]; exact size_blk)
  have LY := Lib.hid (show (intsA .u32 y).size ≤ (wrV s A r c n).size by rw [intsA_size, hyl, wrV_size s hl]; omega)
  have OY := Lib.hid (all_oneCell_toArray (ints_one .u32 y))
  have HST := Lib.hid (fun W (h : Blk W g 176 (wrV s A r c n)) => wrV_range h)
  obtain ⟨V, hV⟩ : ∃ V, wrV s A r c n = V := ⟨_, rfl⟩
  rw [hV] at hg HPU LY HST
  have HG := Lib.hid hg
  have HK := Lib.hid hkst
  clear hV hy hl hs hbl hb hg hkst
  go_enter Tryz.func135, Tryz.ntmps135
  go_wp2_with (with_reducible refine at_any ?_; refine at_dst 3 rfl ?_; refine wpList_box_ints rfl 137 (.tmp 1) rfl .u8 b rfl ?_; intro w1 hk1 hs1 hb1)
  have HG1 := HG.out.below hb1 HG.out.lt
  have HO1 : Only g w w1 := Only.of_below hb1
  have HK1 := HK.out.below hb1
  have HB1 := hk1.out
  have hne : w.heap.size ≠ g := by have := HG.out.lt; omega
  obtain ⟨q, hq⟩ : ∃ q, w.heap.size = q := ⟨_, rfl⟩
  rw [hq] at HB1 hne
  rw [hq]
  clear hk1 hs1 hb1 hq
  refine wp_region_held_drew (S := LiesB q b) (by kernel_rfl) (HB1.drew) (fun hH => ?_)
  refine held_v 0 (some 4) rfl rfl (by kernel_rfl) (by kernel_rfl) (by kernel_rfl) (fun _ _ _ _ h => h) (by kernel_rfl) (.pointer (some ⟨g, 0, none⟩)) (fun W h => by go_simp) hH ?_
  try simp only [Act.put, List.setIfInBounds_toArray, List.set_cons_zero, List.set_cons_succ]
  refine held_v 1 (some 5) rfl rfl (by kernel_rfl) (by kernel_rfl) (by kernel_rfl) (fun _ _ _ _ h => h) (by kernel_rfl) (.pointer (some ⟨g, 0, none⟩)) (fun W h => by go_simp) hH ?_
  try simp only [Act.put, List.setIfInBounds_toArray, List.set_cons_zero, List.set_cons_succ]
  refine held_v 2 (some 6) rfl rfl (by kernel_rfl) (by kernel_rfl) (by kernel_rfl) (fun _ _ _ _ h => h) (by kernel_rfl) (.pointer (some ⟨g, 0, none⟩)) (fun W h => by go_simp) hH ?_
  try simp only [Act.put, List.setIfInBounds_toArray, List.set_cons_zero, List.set_cons_succ]
  refine held_v 3 (some 7) rfl rfl (by kernel_rfl) (by kernel_rfl) (by kernel_rfl) (fun _ _ _ _ h => h) (by kernel_rfl) (.pointer (some ⟨g, 0, none⟩)) (fun W h => by go_simp) hH ?_
  try simp only [Act.put, List.setIfInBounds_toArray, List.set_cons_zero, List.set_cons_succ]
  refine held_v 4 (some 8) rfl rfl (by kernel_rfl) (by kernel_rfl) (by kernel_rfl) (fun _ _ _ _ h => h) (by kernel_rfl) (.pointer (some ⟨g, 0, none⟩)) (fun W h => by go_simp) hH ?_
  try simp only [Act.put, List.setIfInBounds_toArray, List.set_cons_zero, List.set_cons_succ]
  refine held_load_at 6 (some 10) rfl rfl (by kernel_rfl) (by kernel_rfl) (by kernel_rfl) (fun _ _ _ _ h => h) (by kernel_rfl) 137 (.tmp 3) rfl q 0 (by kernel_rfl) (b.map (Value.int .u8)) (fun W h => blk_range h) _ Tryz.underlying137 rfl SB.out hH ?_
  try simp only [Act.put, List.setIfInBounds_toArray, List.set_cons_zero, List.set_cons_succ]
  refine wpAnyH_ready (rs := [5]) (by kernel_rfl) (by decide) ?_
  refine AllReadyH.cons rfl (fun K hK => ?_) AllReadyH.nil
  refine step_load_at (some 9) rfl (by kernel_rfl) 159 (.tmp 8) rfl g 0 (by kernel_rfl) (s.map (Value.int .u32)) (HST.out _ HG1.drew) _ Tryz.underlying159 rfl (by rw [List.length_map]; exact SS.out) ?_
  refine hK.out _ _ hH (fun _ => ?_)
  clear hK K
  try simp only [Act.put, List.setIfInBounds_toArray, List.set_cons_zero, List.set_cons_succ]
  refine wpAnyH_ready (rs := [7]) (by kernel_rfl) (by decide) ?_
  refine AllReadyH.cons rfl (fun K hK => ?_) AllReadyH.nil
  refine step_call (some 11) rfl (by kernel_rfl) _ _ (by kernel_rfl) _ (HC.out w1.drew HK1.drew) ?_
  rintro e w4 ⟨rfl, hb4⟩
  have HG4 := HG1.drew.below hb4 HG1.lt
  have hH4 : LiesB q b w4 := BlkI.below hH hb4 (BlkI.lt hH)
  have HO4 : Only g w w4 := HO1.trans (Only.of_below (w := w1.drew) hb4).of_drew
  refine ⟨_, rfl, ?_⟩
  refine hK.out _ _ hH4 (fun hH4 => ?_)
  clear hK K
  try simp only [Act.put, List.setIfInBounds_toArray, List.set_cons_zero, List.set_cons_succ]
  refine held_v 8 (some 12) rfl rfl (by kernel_rfl) (by kernel_rfl) (by kernel_rfl) (fun _ _ _ _ h => h) (by kernel_rfl) (.pointer (some ⟨g, 0, none⟩)) (fun W h => by go_simp) hH4 ?_
  try simp only [Act.put, List.setIfInBounds_toArray, List.set_cons_zero, List.set_cons_succ]
  refine held_v 9 (some 13) rfl rfl (by kernel_rfl) (by kernel_rfl) (by kernel_rfl) (fun _ _ _ _ h => h) (by kernel_rfl) (.pointer (some ⟨g, 0, none⟩)) (fun W h => by go_simp) hH4 ?_
  try simp only [Act.put, List.setIfInBounds_toArray, List.set_cons_zero, List.set_cons_succ]
  refine held_v 10 (some 14) rfl rfl (by kernel_rfl) (by kernel_rfl) (by kernel_rfl) (fun _ _ _ _ h => h) (by kernel_rfl) (.pointer (some ⟨g, 0, none⟩)) (fun W h => by go_simp) hH4 ?_
  try simp only [Act.put, List.setIfInBounds_toArray, List.set_cons_zero, List.set_cons_succ]
  refine wpAnyH_ready (rs := [11]) (by kernel_rfl) (by decide) ?_
  refine AllReadyH.cons rfl (fun K hK => ?_) AllReadyH.nil
  refine step_store_at none rfl (by kernel_rfl) 159 (.tmp 14) (.tmp 11) rfl g (by kernel_rfl) 176 V (intsA .u32 y) HG4 (by kernel_rfl) LY.out SY.out OY.out ?_
  intro w5 hk5 ho5
  have hH5 : LiesB q b w5 := Blk.only hH4 ho5 hne
  refine hK.out _ _ hH5 (fun _ => ?_)
  clear hK K
  try simp only [Act.put, List.setIfInBounds_toArray, List.set_cons_zero, List.set_cons_succ]
  refine wpAnyH_done (by kernel_rfl) ?_ _
  go_wp2
  go_end0
  exact ⟨rfl, by rw [← HPU.out]; exact hk5.out, HO4.trans ho5⟩
end
section
open Go.ChangeShapes Go.WideShapes Go.ChangeAt Go.RowKit
def rdV (s : Src) (A : Option Addr) (c : Nat) (b : List Int) (h : Bool) : Array Value := ([Value.int .i64 s.kind, .slice A s.tape.length c, .int .u64 s.bits] ++ (s.seed.map (Value.int .u8) ++ ([Value.int .u64 s.dom, .int .u64 s.at_] ++ (b.map (Value.int .u8) ++ [Value.bool h])))).toArray
theorem rdV_size (s : Src) (hl : s.seed.length = 32) (A : Option Addr) (c : Nat) (b : List Int) (hb : b.length = 32) (h : Bool) : (rdV s A c b h).size = 70 := by simp [rdV, hl, hb]
theorem rdV_ones (s : Src) (A : Option Addr) (c : Nat) (b : List Int) (h : Bool) : (rdV s A c b h).all (·.oneCell') = true := all_oneCell_toArray (by
  intro u hu
  simp only [List.mem_append, List.mem_cons, List.not_mem_nil, or_false, List.mem_map] at hu
  rcases hu with (h | h | h) | ⟨_, _, h⟩ | (h | h) | ⟨_, _, h⟩ | h <;> subst h <;> rfl)
theorem rdV_kind (s : Src) (A : Option Addr) (c : Nat) (b : List Int) (h : Bool) : (rdV s A c b h)[0]? = some (.int .i64 s.kind) := rfl
theorem rdV_tape (s : Src) (A : Option Addr) (c : Nat) (b : List Int) (h : Bool) : (rdV s A c b h)[1]? = some (.slice A s.tape.length c) := rfl
theorem rdV_dom (s : Src) (hl : s.seed.length = 32) (A : Option Addr) (c : Nat) (b : List Int) (h : Bool) : (rdV s A c b h)[35]? = some (.int .u64 s.dom) := by
  unfold rdV
  rw [List.getElem?_toArray, List.getElem?_append_right (by simp), List.getElem?_append_right (by simp [hl])]
  simp [hl]
theorem rdV_at (s : Src) (hl : s.seed.length = 32) (A : Option Addr) (c : Nat) (b : List Int) (h : Bool) : (rdV s A c b h)[36]? = some (.int .u64 s.at_) := by
  unfold rdV
  rw [List.getElem?_toArray, List.getElem?_append_right (by simp), List.getElem?_append_right (by simp [hl])]
  simp [hl]
theorem rdV_blk (s : Src) (hl : s.seed.length = 32) (A : Option Addr) (c : Nat) (b : List Int) (h : Bool) (j : Nat) (hj : j < b.length) : (rdV s A c b h)[37 + j]? = some (.int .u8 (b.getD j 0)) := by
  unfold rdV
  rw [List.getElem?_toArray, List.getElem?_append_right (by simp; omega), List.getElem?_append_right (by simp [hl]; omega), List.getElem?_append_right (by simp [hl]; omega)]
  simp only [List.length_cons, List.length_nil, List.length_map, hl]
  rw [List.getElem?_append_left (by simp; omega), List.getElem?_map, show 37 + j - (0 + 1 + 1 + 1) - 32 - (0 + 1 + 1) = j by omega, List.getElem?_eq_getElem hj, List.getD_eq_getElem?_getD, List.getElem?_eq_getElem hj]
  rfl
theorem rdV_hashed (s : Src) (hl : s.seed.length = 32) (A : Option Addr) (c : Nat) (b : List Int) (hb : b.length = 32) (h : Bool) : (rdV s A c b h)[69]? = some (.bool h) := by
  unfold rdV
  rw [List.getElem?_toArray, List.getElem?_append_right (by simp), List.getElem?_append_right (by simp [hl]), List.getElem?_append_right (by simp [hl]), List.getElem?_append_right (by simp [hl, hb])]
  simp [hl, hb]
theorem rdV_set36 (s : Src) (hl : s.seed.length = 32) (A : Option Addr) (c : Nat) (b : List Int) (h : Bool) (n : Int) : (rdV s A c b h).setIfInBounds 36 (.int .u64 n) = rdV (s.to n) A c b h := by
  unfold rdV Src.to
  rw [List.setIfInBounds_toArray]
  congr 1
  rw [List.set_append_right _ _ (by simp), List.set_append_right _ _ (by simp [hl])]
  simp [hl]
theorem rdV_set69 (s : Src) (hl : s.seed.length = 32) (A : Option Addr) (c : Nat) (b : List Int) (hb : b.length = 32) (h h' : Bool) : (rdV s A c b h).setIfInBounds 69 (.bool h') = rdV s A c b h' := by
  unfold rdV
  rw [List.setIfInBounds_toArray]
  congr 1
  rw [List.set_append_right _ _ (by simp), List.set_append_right _ _ (by simp [hl]), List.set_append_right _ _ (by simp [hl]), List.set_append_right _ _ (by simp [hl, hb])]
  simp [hl, hb]
theorem putAll_mid : ∀ (vs old pre post : List Value), vs.length = old.length → putAll (pre ++ (old ++ post)).toArray pre.length vs = (pre ++ (vs ++ post)).toArray
  | [], [], _, _, _ => rfl
  | [], _ :: _, _, _, h => by simp at h
  | _ :: _, [], _, _, h => by simp at h
  | v :: vs, o :: old, pre, post, h => by
    have ih := putAll_mid vs old (pre ++ [v]) post (by simpa using h)
    rw [putAll, List.setIfInBounds_toArray, List.set_append_right _ _ (Nat.le_refl _), Nat.sub_self]
    rw [show (o :: old ++ post).set 0 v = [v] ++ (old ++ post) from rfl, ← List.append_assoc]
    rw [List.length_append, List.length_singleton] at ih
    rw [ih]
    simp
theorem rdV_put (s : Src) (hl : s.seed.length = 32) (A : Option Addr) (c : Nat) (b y : List Int) (hb : b.length = 32) (hy : y.length = 32) (h : Bool) : putAll (rdV s A c b h) 37 (intsA .u8 y).toList = rdV s A c y h := by
  have hm := putAll_mid (y.map (Value.int .u8)) (b.map (Value.int .u8)) ([Value.int .i64 s.kind, .slice A s.tape.length c, .int .u64 s.bits] ++ (s.seed.map (Value.int .u8) ++ [Value.int .u64 s.dom, .int .u64 s.at_])) [Value.bool h] (by simp [hb, hy])
  rw [show ([Value.int .i64 s.kind, .slice A s.tape.length c, .int .u64 s.bits] ++ (s.seed.map (Value.int .u8) ++ [Value.int .u64 s.dom, .int .u64 s.at_])).length = 37 by simp [hl]] at hm
  unfold rdV intsA
  rw [List.append_assoc, List.append_assoc] at hm
  rw [List.append_assoc, List.append_assoc] at hm
  exact hm
theorem rdV_seed {w : World} {g : Nat} {t : TypeId} {s : Src} {A : Option Addr} {c : Nat} {b : List Int} {h : Bool} (hk : Blk w g t (rdV s A c b h)) : w.rangeAt g 3 (s.seed.map (Value.int .u8)) := by
  intro j v hv
  have hj : j < (s.seed.map (Value.int .u8)).length := by
    rcases Nat.lt_or_ge j (s.seed.map (Value.int .u8)).length with h1 | h1
    · exact h1
    · rw [List.getElem?_eq_none h1] at hv; cases hv
  rw [hk.cell]
  unfold rdV
  rw [List.getElem?_toArray, List.getElem?_append_right (by simp), show 3 + j - [Value.int .i64 s.kind, .slice A s.tape.length c, .int .u64 s.bits].length = j by simp, List.getElem?_append_left hj]
  exact hv
theorem rdV_src {w : World} {g : Nat} {t : TypeId} {s : Src} {A : Option Addr} {c : Nat} {b : List Int} {h : Bool} (hk : Blk w g t (rdV s A c b h)) : w.rangeAt g 0 (srcV s A c).toList := by
  intro j v hv
  rw [Nat.zero_add, hk.cell]
  have e : rdV s A c b h = ((srcV s A c).toList ++ (b.map (Value.int .u8) ++ [Value.bool h])).toArray := by simp [rdV, srcV]
  have hj : j < (srcV s A c).toList.length := by
    rcases Nat.lt_or_ge j (srcV s A c).toList.length with h1 | h1
    · exact h1
    · rw [List.getElem?_eq_none h1] at hv; cases hv
  rw [e, List.getElem?_toArray, List.getElem?_append_left hj]
  exact hv
theorem size_rdg : (Tryz.prog.info? 133).map (·.size) = some 70 := by kernel_rfl
theorem zero_rdg : ∀ W, (zeroValue 133).run Tryz.prog W = .ok (.agg (rdV Src.zero none 0 (List.replicate 32 0) false)) W := (zero_of_info (n := 70) (by kernel_rfl)).1
theorem sizedR (s : Src) (hl : s.seed.length = 32) (A : Option Addr) (c : Nat) (b : List Int) (hb : b.length = 32) (h : Bool) : (Tryz.prog.info? 133).map (·.size) = some (rdV s A c b h).size := by rw [rdV_size s hl A c b hb]; exact size_rdg
theorem run_build_rd (v0 v1 v2 v3 v4 v5 v6 v7 v8 v9 v10 v11 v12 v13 v14 v15 v16 v17 v18 v19 v20 v21 v22 v23 v24 v25 v26 v27 v28 v29 v30 v31 v32 v33 v34 v35 v36 : Value) (w : World) : (Instr.build 133 #[(0, .agg #[v0, v1, v2, v3, v4, v5, v6, v7, v8, v9, v10, v11, v12, v13, v14, v15, v16, v17, v18, v19, v20, v21, v22, v23, v24, v25, v26, v27, v28, v29, v30, v31, v32, v33, v34, v35, v36])]).run Tryz.prog w = .ok (.agg #[v0, v1, v2, v3, v4, v5, v6, v7, v8, v9, v10, v11, v12, v13, v14, v15, v16, v17, v18, v19, v20, v21, v22, v23, v24, v25, v26, v27, v28, v29, v30, v31, v32, v33, v34, v35, v36, .int .u8 0, .int .u8 0, .int .u8 0, .int .u8 0, .int .u8 0, .int .u8 0, .int .u8 0, .int .u8 0, .int .u8 0, .int .u8 0, .int .u8 0, .int .u8 0, .int .u8 0, .int .u8 0, .int .u8 0, .int .u8 0, .int .u8 0, .int .u8 0, .int .u8 0, .int .u8 0, .int .u8 0, .int .u8 0, .int .u8 0, .int .u8 0, .int .u8 0, .int .u8 0, .int .u8 0, .int .u8 0, .int .u8 0, .int .u8 0, .int .u8 0, .int .u8 0, .bool false]) w :=
  run_build w _ _ _ (by kernel_rfl)
theorem build_rd {a : Act} {o : Oper} {x : Operand} (w : World) (s : Src) (hl : s.seed.length = 32) (A : Option Addr) (c : Nat) (ho : o.op = .build 133 #[(0, x)]) (hx : a.eval x = .agg (srcV s A c)) :
    (execOp a.eval o).run Tryz.prog w = .ok (.value (.agg (rdV s A c (List.replicate 32 0) false))) w := by
  have hL := list32 s.seed hl
  unfold execOp
  simp only [ho, List.map_toArray, List.map_cons, List.map_nil, hx]
  change ((Instr.build 133 #[(0, .agg (srcV s A c))]) >>= fun v => pure (Next.value v)).run Tryz.prog w = _
  have h : (Instr.build 133 #[(0, .agg (srcV s A c))]).run Tryz.prog w = .ok (.agg (rdV s A c (List.replicate 32 0) false)) w := by
    unfold srcV rdV
    rw [hL]
    exact run_build_rd _ _ _ _ _ _ _ _ _ _ _ _ _ _ _ _ _ _ _ _ _ _ _ _ _ _ _ _ _ _ _ _ _ _ _ _ _ w
  simp only [Sem.run_bind, h, Result.andThen_ok, Sem.run_pure]
section
variable {P : Program} {w w' : World} {ops : Array Oper} {rest : List Oper} {o : Oper} {a : Act} {Q : Exit → Act → World → Prop}
theorem step_store_off {K : Act → World → Prop} {E : Prop} (d : Option Tmp) (hd : o.dst = d) (hw : Region.wanted o (yielded ops a.tmps) = true) (ty : TypeId) (x y : Operand) (ho : o.op = .store ty x y) (g off : Nat) (hx : a.eval x = .pointer (some ⟨g, off, none⟩)) (t : TypeId) (cs ys : Array Value) (hb : Blk w g t cs)
    (hy : a.eval y = .agg ys) (hl : off + ys.size ≤ cs.size) (hz : (P.info? ty).map (·.size) = some ys.size) (h1 : ys.all (·.oneCell') = true)
    (h : ∀ w', Hid (Blk w' g t (putAll cs off ys.toList)) → Only g w w' → K (a.put d undef) w') :
    if Region.wanted o (yielded ops a.tmps) = true then Oper.wp P o a w K Q else E := by
  subst hd
  rw [if_pos hw]
  exact wp_store_mid ty x y ho g off ys hx hy (hb.there off ys.size hl) hz h1 (h _ (Blk.setCells _ _ hb) (Only.setCells g _ _ _))
end
section
variable {P : Program} {ops : Array Oper} {Q : Exit → Act → World → Prop} {md : Region.Mode} {S : World → Prop} {fuel : Nat} {listed : Array Bool} {a : Act} {w : World}
theorem held_load_arr {oi : Oper} (i : Nat) (d : Option Tmp) (hi : ops[i]? = some oi) (hd : oi.dst = d) (hs : Region.noSelect ops = true) (hf : Region.free md ops listed i = true) (hr : (Region.ready md ops listed).contains i = true)
    (hQ2 : ∀ c a v w, Q (.panic c) (a.put oi.dst v) w → Q (.panic c) a w) (hw : Region.wanted oi (yielded ops a.tmps) = true)
    (ty : TypeId) (x : Operand) (ho : oi.op = .load ty x) (g off : Nat) (hx : a.eval x = .pointer (some ⟨g, off, none⟩)) (cs : Array Value) (hS : ∀ w, S w → w.rangeAt g off cs.toList)
    (ds : TypeDesc) (hu : P.underlying ty = some ds) (hdr : ds.isRow = true) (hz : (P.info? ty).map (·.size) = some cs.size) (hSw : S w)
    (h : wpAnyH P md ops Q S fuel (listed.setIfInBounds i true) (a.put d (.agg cs)) w) : wpAnyH P md ops Q S (fuel + 1) listed a w :=
  held_load_at i d hi hd hs hf hr hQ2 hw ty x ho g off hx cs.toList hS ds hu hdr (by rw [Array.length_toList]; exact hz) hSw h
end
def BkA (s : Src) (b : List Int) (h : Bool) : Prop := b.length = 32 ∧ (∀ z ∈ b, 0 ≤ z ∧ z < 256) ∧ (s.kind = 2 → h = true → s.at_ % 256 ≠ 0 → b = blkL s.seed s.dom (s.at_ / 256))
def BkB (s : Src) (b : List Int) : Prop := b.length = 32 ∧ (∀ z ∈ b, 0 ≤ z ∧ z < 256) ∧ (s.kind = 2 → b = blkL s.seed s.dom (s.at_ / 256))
theorem BkA.zero (s : Src) : BkA s (List.replicate 32 0) false := ⟨by simp, fun z hz => by rw [List.eq_of_mem_replicate hz]; omega, fun _ h => by cases h⟩
theorem BkB.next {s : Src} {b : List Int} {h : Bool} (hb : BkB s b) : BkA (s.to (s.at_ + 1)) b h := by
  refine ⟨hb.1, hb.2.1, fun hk _ hn => ?_⟩
  have h1 := hb.2.2 hk
  change (s.at_ + 1) % 256 ≠ 0 at hn
  rw [h1]
  show blkL s.seed s.dom (s.at_ / 256) = blkL s.seed s.dom ((s.at_ + 1) / 256)
  rw [show (s.at_ + 1) / 256 = s.at_ / 256 by omega]
def octS (s : Src) : Int := if s.kind = 2 then (blkL s.seed s.dom (s.at_ / 256)).getD (s.at_ % 256 / 8).toNat 0 else s.tape.getD (s.at_ / 8).toNat 0
theorem bitS_oct (s : Src) : bitS s s.at_ = octS s / 2 ^ (7 - s.at_ % 8).toNat % 2 := by
  unfold bitS octS bitN bytN
  split <;> rfl
def RetOct (w : World) (g : Nat) (s : Src) (A : Option Addr) (c : Nat) (e : Ending) (w' : World) : Prop := ∃ b h, e = .returned (.int .u8 (octS s)) ∧ Blk w' g 133 (rdV s A c b h) ∧ BkB s b ∧ Only g w w'
def RetNum (w : World) (g : Nat) (n : Int) (s : Src) (A : Option Addr) (c : Nat) (e : Ending) (w' : World) : Prop := ∃ b h, e = .returned (.int .u64 n) ∧ Blk w' g 133 (rdV s A c b h) ∧ BkA s b h ∧ Only g w w'
def RdS (g : Nat) (s : Src) (A : Option Addr) (c : Nat) (w : World) : Prop := ∃ b h, Blk w g 133 (rdV s A c b h) ∧ b.length = 32
section
variable {g : Nat} {s : Src} {A : Option Addr} {c : Nat} {w w' : World}
theorem RdS.kind (h : RdS g s A c w) : w.cell? ⟨g, 0, none⟩ = some (.int .i64 s.kind) := by obtain ⟨b, hh, hk, _⟩ := h; rw [hk.cell]; exact rdV_kind _ _ _ _ _
theorem RdS.tape (h : RdS g s A c w) : w.cell? ⟨g, 1, none⟩ = some (.slice A s.tape.length c) := by obtain ⟨b, hh, hk, _⟩ := h; rw [hk.cell]; exact rdV_tape _ _ _ _ _
theorem RdS.dom (h : RdS g s A c w) (hl : s.seed.length = 32) : w.cell? ⟨g, 35, none⟩ = some (.int .u64 s.dom) := by obtain ⟨b, hh, hk, _⟩ := h; rw [hk.cell]; exact rdV_dom _ hl _ _ _ _
theorem RdS.at_ (h : RdS g s A c w) (hl : s.seed.length = 32) : w.cell? ⟨g, 36, none⟩ = some (.int .u64 s.at_) := by obtain ⟨b, hh, hk, _⟩ := h; rw [hk.cell]; exact rdV_at _ hl _ _ _ _
theorem RdS.seed (h : RdS g s A c w) : w.rangeAt g 3 (s.seed.map (Value.int .u8)) := by obtain ⟨b, hh, hk, _⟩ := h; exact rdV_seed hk
theorem RdS.below (h : RdS g s A c w) (hb : Below w.heap.size w w') : RdS g s A c w' := by obtain ⟨b, hh, hk, hl⟩ := h; exact ⟨b, hh, hk.below hb hk.lt, hl⟩
theorem RdS.drew (h : RdS g s A c w) : RdS g s A c w.drew := h.below (Below.refl _ _).drew
end
end
section
open Go.ChangeShapes Go.WideShapes Go.ChangeAt Go.RowKit
theorem size_u8h : (Tryz.prog.info? 5).map (·.size) = some 1 := by kernel_rfl
theorem hashF_splice (l : List Int) (i : Nat) (h : i < 8) : splice (hashF l i 0) (4 * i) (put4L (l.getD i 0)) = hashF l (i + 1) 0 := by
  rw [← hashF_next]
  have e1 := backTo_len l i
  unfold splice hashF
  rw [List.take_append_of_le_length (by omega), List.take_of_length_le (by omega), List.drop_append, List.drop_eq_nil_of_le (by omega), List.nil_append, e1]
  simp [put4L]
  omega
theorem index_st8 (zs : List Int) (hl : zs.length = 8) (j : Nat) (hj : j < 8) (w : World) : (Instr.index 159 (.agg (intsA .u32 zs)) (.int .i64 j)).run Tryz.prog w = .ok (.int .u32 (zs.getD j 0)) w := by
  obtain ⟨i0, hi, _, hs, _⟩ := info_parts info_u32c
  refine run_index_arr Tryz.underlying159 Tryz.underlying62 hi hs _ _ _ _ (by omega) (by omega) ?_ w
  rw [Int.toNat_natCast]
  exact intsA_at _ _ _ (by omega)
set_option maxHeartbeats 1000000 in
theorem qjoined_c (l : List Int) (hl : l.length = 8) (hb : ∀ z ∈ l, 0 ≤ z ∧ z < 4294967296) (w : World) :
    Calls Tryz.prog 136 #[.agg (intsA .u32 l)] w fun e w' => e = .returned (.agg (intsA .u8 (hashL l))) ∧ Below w.heap.size w w' := by
  have HSW := Lib.hid (show (Tryz.prog.info? 159).map (·.size) = some l.length by rw [hl]; exact size_state)
  go_enter Tryz.func136, Tryz.ntmps136
  go_wp2_with (first
    | (with_reducible refine at_any ?_; refine at_dst 1 rfl ?_; refine wpList_box_ints rfl 159 (.tmp 0) rfl .u32 l rfl ?_; intro w1 hk1 hs1 hb1)
    | (with_reducible refine at_any ?_; refine at_dst 2 rfl ?_; refine wpList_alloc_ints rfl 26 rfl .u8 (List.replicate 32 0) zero_hash ?_; intro w2 hk2 hs2 hb2)
    | (with_reducible refine at_any ?_; refine at_dst 3 rfl ?_; refine wpList_alloc_ints rfl 26 rfl .u8 (List.replicate 32 0) zero_hash ?_; intro w3 hk3 hs3 hb3)
    | (with_reducible refine at_any ?_; refine at_dst 7 rfl ?_; refine wpList_load_ints rfl 159 (.tmp 1) rfl w.heap.size rfl 159 .u32 l ((hk1.out.below hb2 (by have := hs1.out; omega)).below hb3 (by have := hs1.out; have := hs2.out; omega)) _ Tryz.underlying159 rfl HSW.out ?_))
  have HI : In3 w w.heap.size w1.heap.size w2.heap.size 159 26 26 .u32 .u8 .u8 l (List.replicate 32 0) (hashF l 0 0) w3 := by
    rw [hashF_zero]
    have q1 := hs1.out
    have q2 := hs2.out
    have q3 := hs3.out
    exact ⟨(hk1.out.below hb2 (by omega)).below hb3 (by omega), hk2.out.below hb3 (by omega), hk3.out, hb1.trans ((hb2.mono (by omega)).trans (hb3.mono (by omega))), by omega, by omega, by omega⟩
  have HG : w.heap.size < w2.heap.size ∧ w1.heap.size < w2.heap.size := by have q1 := hs1.out; have q2 := hs2.out; omega
  obtain ⟨g1, hg1⟩ : ∃ g, w.heap.size = g := ⟨_, rfl⟩
  obtain ⟨g2, hg2⟩ : ∃ g, w1.heap.size = g := ⟨_, rfl⟩
  obtain ⟨g3, hg3⟩ : ∃ g, w2.heap.size = g := ⟨_, rfl⟩
  have HG2 := Lib.hid (show w.heap.size ≤ g2 by have := hb1.size; omega)
  rw [hg1, hg2, hg3] at HI HG
  rw [hg1, hg2, hg3]
  have HGH := Lib.hid HG
  clear hk1 hs1 hb1 hk2 hs2 hb2 hk3 hs3 hb3 HG
  go_loopw [8] (fun v wr => ∃ i : Nat, i ≤ 8 ∧ v = .int .i64 i ∧ In3 w g1 g2 g3 159 26 26 .u32 .u8 .u8 l (List.replicate 32 0) (hashF l i 0) wr) (fun v _ => 8 - (intOf v).toNat)
  case atStart => exact ⟨0, by omega, rfl, HI⟩
  case round =>
    clear HI
    obtain ⟨i, hi, rfl, HI⟩ := hrel
    by_cases hlt : i < 8
    · have hix := fun W => index_st8 l hl i hlt W
      have rx : 0 ≤ l.getD i 0 ∧ l.getD i 0 < 4294967296 := by
        have h : i < l.length := by omega
        simp [h]; exact hb _ (List.getElem_mem h)
      have hsp := hashF_splice l i hlt
      have hfl := hashF_len l i 0 (by omega) (by omega)
      obtain ⟨x, hx⟩ : ∃ x, l.getD i 0 = x := ⟨_, rfl⟩
      rw [hx] at hix rx hsp
      obtain ⟨p0, p1, p2, p3, hps⟩ : ∃ p0 p1 p2 p3, put4L x = [p0, p1, p2, p3] := ⟨_, _, _, _, rfl⟩
      have hput := fun W => put32_c x rx.1 rx.2 W
      have hp4 : put4 x = ((put4L x).map (Value.int .u8)).toArray := rfl
      rw [hp4, hps] at hput
      rw [hps] at hsp
      have HP := Lib.hid hput
      have HSP := Lib.hid hsp
      have HFL := Lib.hid hfl
      have HI' := Lib.hid HI
      obtain ⟨m, hm⟩ : ∃ m, 4 * i = m := ⟨_, rfl⟩
      have e0 : IntKind.i64.wrap (4 * (i : Int)) = (m : Int) := by rw [IntWalk.i64_in _ (by omega)]; omega
      have q0 : (0 : Int) ≤ (m : Int) := by omega
      have q1 : (m : Int) ≤ 32 := by omega
      have q2 : ¬ 32 = m := by omega
      have q3 : m + 4 ≤ 32 := by omega
      have i0 : (0 : Int) ≤ (i : Int) := by omega
      have i1 : (i : Int) < 8 := by omega
      rw [hm] at HSP
      clear hput hp4 hps hsp hfl hx HI hm
      go_wp2_with (go_at_call 142; (with_reducible refine (HP.out _).mono ?_); rintro e w4 ⟨rfl, hb4, _⟩)
      have HB5 := Lib.hid (BlkI.new w4 172 .u8 [p0, p1, p2, p3])
      have HI5 := Lib.hid ((HI'.out.below hb4).below ((Below.refl _ _).alloc (Nat.le_refl _) (Obj.cells (intsA .u8 [p0, p1, p2, p3]) 172)))
      obtain ⟨W5, hW5⟩ : ∃ W5, w4.alloc (Obj.cells #[.int .u8 p0, .int .u8 p1, .int .u8 p2, .int .u8 p3] 172) = W5 := ⟨_, rfl⟩
      have hW5' : w4.alloc (Obj.cells (intsA .u8 [p0, p1, p2, p3]) 172) = W5 := hW5
      rw [hW5'] at HB5 HI5
      rw [hW5]
      obtain ⟨g5, hg5⟩ : ∃ g, w4.heap.size = g := ⟨_, rfl⟩
      rw [hg5] at HB5 ⊢
      clear hW5 hW5' hg5 hb4 HI' rx HP hix
      go_region_law (refine step_dst 18 rfl ?_; refine step_copy_ints rfl (.tmp 16) (.tmp 17) 23 23 rfl 5 Tryz.underlying23 size_u8h (some ⟨g3, m, none⟩) (some ⟨g5, 0, none⟩) (32 - m) (32 - m) 4 4 (by kernel_rfl) (by kernel_rfl) g3 m .u8 _ 26 HI5.out.trd.drew 4 (by omega) _ [p0, p1, p2, p3] HB5.out.rd.drew (fun _ => rfl) (by rw [HFL.out]; omega) g3 W5.drew (Below.refl _ _) (Nat.le_refl _) ?_; intro w6 HK6 hb6)
      all_goals
        go_wp2
        go_roundw
        case rel =>
          have hk := HK6.out
          rw [HSP.out] at hk
          obtain ⟨h1, h2, h3, h4, h5, h6, h7⟩ := HI5.out
          exact ⟨i + 1, by omega, by go_num, h1.drew.below hb6 HGH.out.1, h2.drew.below hb6 HGH.out.2, hk, h4.trans (below_of_drew (hb6.mono h5)), h5, h6, h7⟩
        case measure => simp [intOf]; omega
    · rw [show ((i : Nat) : Int) = 8 by omega]
      obtain rfl : i = 8 := by omega
      rw [hashF_full] at HI
      obtain ⟨h1, h2, h3, h4, h5, h6, h7⟩ := HI
      have hpl : (hashL l).length = 32 := backTo_len l 8
      have HPL := Lib.hid hpl
      have H3 := Lib.hid h3
      have H2 := Lib.hid h2
      have hg2 : w.heap.size ≤ g2 := HG2.out
      clear hpl h1 h2 h3
      go_wp2_with (first
        | (with_reducible refine at_any ?_; refine at_dst 20 rfl ?_; refine wpList_load_ints rfl 26 (.tmp 3) rfl g3 rfl 26 .u8 (hashL l) H3.out _ Tryz.underlying26 rfl (by rw [HPL.out]; exact size_hash) ?_)
        | (with_reducible refine at_any ?_; refine at_store 2 rfl ?_; refine wpList_store_ints rfl 26 (.tmp 2) (.tmp 20) rfl g2 rfl 26 .u8 (List.replicate 32 0) (hashL l) H2.out rfl (by rw [HPL.out]; simp) (by rw [HPL.out]; exact size_hash) ?_; intro w9 hk9 hs9 hb9 ho9)
        | (refine bodyPost_cell 2 26 rfl g2 rfl 26 .u8 (hashL l) hk9.out _ Tryz.underlying26 rfl (by rw [HPL.out]; exact size_hash) rfl ?_))
      rw [← hg1]
      exact h4.trans (hb9 _ hg2)
end
section
open Go.ChangeShapes Go.WideShapes Go.ChangeAt Go.RowKit
theorem run_build_wg (s0 s1 s2 s3 s4 s5 s6 s7 : Int) (A : Option Addr) (r c : Nat) (n : Int) (w : World) :
    (Instr.build 176 #[(0, .agg #[.int .u32 s0, .int .u32 s1, .int .u32 s2, .int .u32 s3, .int .u32 s4, .int .u32 s5, .int .u32 s6, .int .u32 s7, .slice A r c, .int .u64 n])]).run Tryz.prog w = .ok (.agg #[.int .u32 s0, .int .u32 s1, .int .u32 s2, .int .u32 s3, .int .u32 s4, .int .u32 s5, .int .u32 s6, .int .u32 s7, .slice A r c, .int .u64 n]) w := by
  go_simp
theorem build_wg {a : Act} {o : Oper} {x : Operand} (w : World) (s : List Int) (hl : s.length = 8) (A : Option Addr) (r c : Nat) (n : Int) (ho : o.op = .build 176 #[(0, x)]) (hx : a.eval x = .agg (wrV s A r c n)) :
    (execOp a.eval o).run Tryz.prog w = .ok (.value (.agg (wrV s A r c n))) w := by
  obtain ⟨s0, s1, s2, s3, s4, s5, s6, s7, rfl⟩ : ∃ a b d e f p q u, s = [a, b, d, e, f, p, q, u] := ⟨_, _, _, _, _, _, _, _, list8 s hl⟩
  have h := run_build_wg s0 s1 s2 s3 s4 s5 s6 s7 A r c n w
  unfold execOp
  simp only [ho, List.map_toArray, List.map_cons, List.map_nil, hx]
  change ((Instr.build 176 #[(0, .agg #[.int .u32 s0, .int .u32 s1, .int .u32 s2, .int .u32 s3, .int .u32 s4, .int .u32 s5, .int .u32 s6, .int .u32 s7, .slice A r c, .int .u64 n])]) >>= fun v => pure (Next.value v)).run Tryz.prog w = _
  simp only [Sem.run_bind, h, Result.andThen_ok, Sem.run_pure]
  rfl
theorem size_sl : (Tryz.prog.info? 23).map (·.size) = some 1 := by kernel_rfl
def RetP (w : World) (s r : List Int) (n : Int) (e : Ending) (w' : World) : Prop := ∃ g A c, e = .returned (.pointer (some ⟨g, 0, none⟩)) ∧ Wrt w g A c s r n w'
set_option maxHeartbeats 1000000 in
theorem qbegin_c (s rest : List Int) (hl : s.length = 8) (A : Option Addr) (r c : Nat) (n : Int) (hr : r ≤ 64) (hrc : r ≤ c) (w : World) (hrd : Rd .u8 w w.heap.size A r rest) :
    Calls Tryz.prog 124 #[.agg (wrV s A r c n)] w (RetP w s rest n) := by
  obtain ⟨i0, hi, hz0, hz1, hzb⟩ := info_parts info_u8'
  have hmk : ∀ W, (Instr.makeSlice 23 (.int .i64 (r : Int)) (.int .i64 64)).run Tryz.prog W = .ok (.slice (some ⟨W.heap.size, 0, none⟩) r 64) (W.alloc (.cells (intsA .u8 (List.replicate 64 0)) 5)) := fun W => run_make_cap (P := Tryz.prog) 23 5 i0 .u8 Tryz.underlying23 hi hz0 hz1 hzb r 64 hr (by omega) W
  obtain ⟨L, hL⟩ : ∃ L : List Int, List.replicate 64 0 = L := ⟨_, rfl⟩
  have HLL := Lib.hid (show L.length = 64 by rw [← hL]; simp)
  rw [hL] at hmk
  have HC8 := Lib.hid (wrV_rest s hl A r c n)
  have HV8 := Lib.hid (fun A' => wrV_set8 s hl A A' r c r 64 n)
  have SV := Lib.hid (wrV_size s hl A r c n)
  have SW := Lib.hid (fun A' => sizedW s hl A' r 64 n)
  have HBG := Lib.hid (fun (a : Act) (o : Oper) (x : Operand) W A' => build_wg (a := a) (o := o) (x := x) W s hl A' r 64 n)
  have HRD := Lib.hid hrd
  have HLR := Lib.hid hrd.len
  obtain ⟨V, hV⟩ : ∃ V, wrV s A r c n = V := ⟨_, rfl⟩
  rw [hV] at HC8 HV8 SV ⊢
  clear hL hV hrd hi hz0 hz1 hzb
  go_enter Tryz.func124, Tryz.ntmps124
  go_wp2_with (first
    | (with_reducible refine at_any ?_; refine at_dst 1 rfl ?_; refine wpList_box_any rfl 166 (.tmp 0) rfl V rfl ?_; intro w1 hk1 hs1 hb1; have c8 := hk1.out.cell 8; rw [HC8.out] at c8; have d8 := (hk1.out.alloc (.cells (intsA .u8 L) 5)).cell 8; rw [HC8.out] at d8)
    | (with_reducible refine at_any ?_; refine at_dst 11 rfl ?_; refine wpList_copy_ints rfl (.tmp 8) (.tmp 10) 23 23 rfl 5 Tryz.underlying23 size_u8h _ _ _ _ _ _ rfl rfl w1.heap.size 0 .u8 L 5 (BlkI.new _ _ _ _) r (by omega) w.heap.size rest ((HRD.out.below hb1).alloc hb1.size _) (fun _ => rfl) (by rw [HLL.out]; omega) w1.heap.size w1 ((Below.refl _ _).alloc (Nat.le_refl _) _) (Nat.le_refl _) ?_; intro w7 HK7 hb7; have hk7 := Lib.hid (hk1.out.below hb7 hk1.out.lt); have bl7 := Lib.hid (hb1.trans (hb7.mono hb1.size)))
    | (with_reducible refine at_any ?_; refine at_store 13 rfl ?_; refine wpList_store_cell rfl 23 (.tmp 13) (.tmp 12) rfl w.heap.size 8 rfl 166 V hk7.out (.slice (some ⟨w1.heap.size, 0, none⟩) r 64) rfl (by rw [SV.out]; omega) size_sl rfl rfl ?_; intro w8 hk8 ho8; rw [HV8.out] at hk8)
    | (with_reducible refine at_any ?_; refine at_dst 14 rfl ?_; refine wpList_load_blk rfl 166 (.tmp 1) rfl w.heap.size rfl 166 (wrV s (some ⟨w1.heap.size, 0, none⟩) r 64 n) hk8.out _ Tryz.underlying166 rfl (SW.out _) ?_)
    | (with_reducible refine at_any ?_; refine at_dst 15 rfl ?_; refine wpList_val rfl (.agg (wrV s (some ⟨w1.heap.size, 0, none⟩) r 64 n)) (HBG.out _ _ _ _ _ rfl rfl) ?_)
    | (with_reducible refine at_any ?_; refine at_dst 16 rfl ?_; refine wpList_box_any rfl 176 (.tmp 15) rfl (wrV s (some ⟨w1.heap.size, 0, none⟩) r 64 n) rfl ?_; intro w9 hk9 hs9 hb9))
  go_ret
  have h1 : w.heap.size < w1.heap.size := by have := hs1.out; omega
  have hk8b : BlkI w8 w1.heap.size 5 .u8 (splice L 0 rest) := Blk.only HK7.out ho8 (by omega)
  have hk9b := hk8b.below hb9 hk8b.lt
  have bl8 : Below w.heap.size w w8 := bl7.out.trans (ho8.below (Nat.le_refl _) bl7.out.size)
  have hsl : (splice L 0 rest).length = 64 := by rw [length_splice _ _ _ (by rw [HLL.out, HLR.out]; omega), HLL.out]
  have hst : (splice L 0 rest).take rest.length = rest := by unfold splice; simp
  have hO : OwnI w9 w.heap.size 5 .u8 (.slice (some ⟨w1.heap.size, 0, none⟩) rest.length 64) rest := OwnI.of_blk hk9b (by omega) (by rw [HLR.out]; exact hr) (by simp [maxLen]) hsl hst
  refine ⟨w8.heap.size, some ⟨w1.heap.size, 0, none⟩, 64, rfl, ?_, hO, bl8.trans (hb9.mono bl8.size), bl8.size⟩
  rw [HLR.out]
  exact hk9.out
end
section
open Go.ChangeShapes Go.WideShapes Go.ChangeAt Go.RowKit
def RetTailR (w : World) (zs : List Int) (e : Ending) (w' : World) : Prop := ∃ A c, e = .returned (.tuple #[.slice A zs.length c, .bool true]) ∧ Rd .u8 w' w'.heap.size A zs.length zs ∧ zs.length ≤ c ∧ Below w.heap.size w w'
def RetCutR (w : World) (zs : List Int) (q L : Nat) (bs : List (List Int)) (e : Ending) (w' : World) : Prop :=
  ∃ A1 c1 A2 c2, e = .returned (.tuple #[.slice A1 bs.length c1, .slice A2 (L - 64 * q) c2]) ∧ RdA .u8 64 w' w'.heap.size A1 bs.length bs ∧ Rd .u8 w' w'.heap.size A2 (L - 64 * q) (zs.drop (64 * q)) ∧ L - 64 * q ≤ c2 ∧ Below w.heap.size w w'
end
section
open Go.ChangeShapes Go.WideShapes Go.ChangeAt Go.RowKit
theorem tail_cells (rest ps : List Int) (r z M : Nat) (hr : rest.length = r) (hp : ps.length = 8) (hM : r + 1 + z + 8 = M) :
    splice ((splice (List.replicate M 0) 0 rest).set r 128) (M - 8) ps = rest ++ 128 :: List.replicate z 0 ++ ps := by
  subst hr
  have e1 : splice (List.replicate M (0 : Int)) 0 rest = rest ++ 0 :: List.replicate (z + 8) 0 := by
    rw [← List.replicate_succ]
    simp [splice]; omega
  rw [e1, List.set_append_right _ _ (Nat.le_refl _), Nat.sub_self, List.set_cons_zero]
  have e2 : List.replicate (z + 8) (0 : Int) = List.replicate z 0 ++ List.replicate 8 0 := by rw [List.replicate_append_replicate]
  rw [e2, ← List.cons_append, ← List.append_assoc]
  unfold splice
  rw [List.take_append_of_le_length (by simp; omega), List.take_of_length_le (by simp; omega), List.drop_eq_nil_of_le (by simp; omega), List.append_nil]
def blocksN (n : Int) : Int := if 2305843009213693952 ≤ n then 0 else (n + 72) / 64
theorem size_u8 : (Tryz.prog.info? 5).map (·.size) = some 1 := by kernel_rfl
theorem pblocks_c (n : Int) (n0 : 0 ≤ n) (n1 : n < 18446744073709551616) (w : World) :
    Calls Tryz.prog 140 #[.int .u64 n] w fun e w' => e = .returned (.int .u64 (blocksN n)) ∧ w = w' := by
  unfold blocksN
  by_cases h : 2305843009213693952 ≤ n
  · rw [if_pos h]
    go_enter Tryz.func140, Tryz.ntmps140
    go_wp2
    go_ret
    exact ⟨rfl, rfl⟩
  · rw [if_neg h]
    have H := Lib.hid (show (n + 72) / 64 = (n + 8) / 64 + 1 by omega)
    go_enter Tryz.func140, Tryz.ntmps140
    go_wp2
    go_ret
    exact ⟨ret_int H.out.symm, rfl⟩
set_option maxHeartbeats 1000000 in
theorem ptail_a (A : Option Addr) (c r : Nat) (rest : List Int) (n : Int) (w : World) (hr : Rd .u8 w w.heap.size A r rest) (hc : r ≤ c) (n0 : 0 ≤ n) (n1 : n < 2305843009213693952) (hn : (r : Int) = n % 64) (hrz : r ≤ 55) :
    Calls Tryz.prog 133 #[.slice A r c, .int .u64 n] w (RetTailR w (tailL rest n)) := by
  obtain ⟨ps, hps⟩ : ∃ ps, put8L (8 * n) = ps := ⟨_, rfl⟩
  obtain ⟨p0, p1, p2, p3, p4, p5, p6, p7, rfl⟩ : ∃ p0 p1 p2 p3 p4 p5 p6 p7, ps = [p0, p1, p2, p3, p4, p5, p6, p7] := ⟨_, _, _, _, _, _, _, _, hps.symm⟩
  have hput := fun W => put64_c (n * 8) (by omega) (by omega) W
  rw [put8_list, show put8L (n * 8) = put8L (8 * n) by rw [Int.mul_comm], hps] at hput
  have htl : tailL rest n = rest ++ 128 :: List.replicate (zer r) 0 ++ [p0, p1, p2, p3, p4, p5, p6, p7] := by unfold tailL; rw [hr.len, hps]
  rw [htl]
  have HP := Lib.hid hput
  have hps8 : [p0, p1, p2, p3, p4, p5, p6, p7].length = 8 := rfl
  clear hput hps htl
  obtain ⟨ps, hps⟩ : ∃ ps, [p0, p1, p2, p3, p4, p5, p6, p7] = ps := ⟨_, rfl⟩
  rw [hps] at hps8 ⊢
  have HPS := Lib.hid hps
  have HP8 := Lib.hid hps8
  clear hps hps8
  obtain ⟨i0, hi, hz0, hz1, hzb⟩ := info_parts info_u8'
  have r1 : r < 64 := by omega
  have t1 : ((r : Int) != n % 64) = false := by rw [hn]; simp
  have hl := Lib.hid hr.len
  have hq : blocksN (n % 64) = if r ≤ 55 then 1 else 2 := by
    unfold blocksN
    rw [if_neg (by omega)]
    split <;> omega
  rw [if_pos hrz] at hq
  obtain ⟨zs, hzs⟩ : ∃ zs : List Int, List.replicate 64 0 = zs := ⟨_, rfl⟩
  have hmk : ∀ W, (Instr.makeSlice 23 (.int .u64 64) (.int .u64 64)).run Tryz.prog W = .ok (.slice (some ⟨W.heap.size, 0, none⟩) 64 64) (W.alloc (.cells (intsA .u8 (List.replicate 64 0)) 5)) := fun W => run_make_ints (P := Tryz.prog) 23 5 i0 .u8 Tryz.underlying23 hi hz0 hz1 .u64 .u64 64 (by rw [hzb]; decide) (by decide) W
  have hcells := tail_cells rest ps r (zer r) 64 hr.len HP8.out (by unfold zer; rw [if_pos hrz]; omega)
  have hlen : (rest ++ 128 :: List.replicate (zer r) 0 ++ ps).length = 64 := by
    rw [← hcells, length_splice, List.length_set, length_splice] <;> simp [hr.len, HP8.out, splice] <;> omega
  rw [hzs] at hmk hcells
  have hzl : zs.length = 64 := by rw [← hzs]; simp
  have HSL := Lib.hid (show (splice zs 0 rest).length = 64 by rw [length_splice _ _ _ (by rw [hzl, hr.len]; omega), hzl])
  have HZL := Lib.hid hzl
  have HQ := Lib.hid hq
  have HC := Lib.hid hcells
  have HLN := Lib.hid hlen
  have HR := Lib.hid hr
  clear hn hq hzl hzs hcells hlen hr
  obtain ⟨T, hT⟩ : ∃ T, rest ++ 128 :: List.replicate (zer r) 0 ++ ps = T := ⟨_, rfl⟩
  rw [hT] at HC HLN ⊢
  clear hT
  go_enter Tryz.func133, Tryz.ntmps133
  go_wp2_with (first
    | (go_at_call 140; (with_reducible refine (pblocks_c _ (by omega) (by omega) _).mono ?_); rw [HQ.out]; rintro e _ ⟨rfl, rfl⟩)
    | (with_reducible refine at_any ?_; refine at_dst 25 rfl ?_; refine wpList_copy_ints rfl (.tmp 23) (.tmp 24) 23 23 rfl 5 Tryz.underlying23 size_u8 _ _ _ _ _ _ rfl rfl w.heap.size 0 .u8 zs 5 (BlkI.new _ _ _ _) r (by omega) w.heap.size rest (HR.out.alloc (Nat.le_refl _) _) (fun _ => rfl) (by rw [HZL.out]; omega) w.heap.size w ((Below.refl _ _).alloc (Nat.le_refl _) _) (Nat.le_refl _) ?_; intro w1 HK1 hb1; have hlt1 := HK1.out.lt; have hc1 := HK1.out.cell (j := r) (by rw [HSL.out]; omega); have hf1 := HK1.out.frozen r; have HK2 := Lib.hid (HK1.out.set_ r 128); have HB2 := Lib.hid (hb1.setCell (p := ⟨w.heap.size, r, none⟩) (Nat.le_refl _) (.int .u8 128)))
    | (go_at_call 117; (with_reducible refine (HP.out _).mono ?_); rintro e w4 ⟨rfl, hb4, _⟩))
  have HK4 := Lib.hid ((HK2.out.below hb4 HK2.out.lt).alloc (Obj.cells #[.int .u8 p0, .int .u8 p1, .int .u8 p2, .int .u8 p3, .int .u8 p4, .int .u8 p5, .int .u8 p6, .int .u8 p7] 149))
  have HB4 := Lib.hid ((HB2.out.trans (hb4.mono HB2.out.size)).alloc (HB2.out.trans (hb4.mono HB2.out.size)).size (Obj.cells #[.int .u8 p0, .int .u8 p1, .int .u8 p2, .int .u8 p3, .int .u8 p4, .int .u8 p5, .int .u8 p6, .int .u8 p7] 149))
  have HP4 : Hid (BlkI (w4.alloc (Obj.cells #[.int .u8 p0, .int .u8 p1, .int .u8 p2, .int .u8 p3, .int .u8 p4, .int .u8 p5, .int .u8 p6, .int .u8 p7] 149)) w4.heap.size 149 .u8 ps) := by rw [← HPS.out]; exact BlkI.new w4 _ .u8 [p0, p1, p2, p3, p4, p5, p6, p7]
  obtain ⟨W5, hW5⟩ : ∃ W5, w4.alloc (Obj.cells #[.int .u8 p0, .int .u8 p1, .int .u8 p2, .int .u8 p3, .int .u8 p4, .int .u8 p5, .int .u8 p6, .int .u8 p7] 149) = W5 := ⟨_, rfl⟩
  rw [hW5] at HK4 HB4 HP4 ⊢
  obtain ⟨g5, hg5⟩ : ∃ g5, w4.heap.size = g5 := ⟨_, rfl⟩
  rw [hg5] at HP4 ⊢
  have HR5 : Hid (Rd .u8 W5 W5.heap.size (some ⟨g5, 0, none⟩) 8 ps) := by have := HP4.out.rd; rwa [HP8.out] at this
  clear hW5 hg5 hb4 hb1 HB2 HK2 HK1 hc1 hf1 hlt1 HP hmk
  have w56 : IntKind.i64.wrap 56 = 56 := by decide
  go_region_law (refine step_dst 39 rfl ?_; refine step_copy_ints rfl (.tmp 37) (.tmp 38) 23 23 rfl 5 Tryz.underlying23 size_u8 (some ⟨w.heap.size, 56, none⟩) (some ⟨g5, 0, none⟩) 8 8 8 8 (by kernel_rfl) (by kernel_rfl) w.heap.size 56 .u8 _ 5 HK4.out.drew 8 (by omega) _ ps HR5.out.drew (fun _ => rfl) (by rw [List.length_set, HSL.out]; omega) w.heap.size w HB4.out.drew (Nat.le_refl _) ?_; intro w6 HK6 hb6)
  all_goals
    go_wp2
    go_ret2
    have hk := HK6.out
    rw [HC.out] at hk
    have hrd := hk.rd
    rw [HLN.out] at hrd
    exact ⟨some ⟨w.heap.size, 0, none⟩, 64, by rw [HLN.out]; rfl, by rw [HLN.out]; exact hrd, by rw [HLN.out]; omega, hb6⟩
set_option maxHeartbeats 1000000 in
theorem ptail_b (A : Option Addr) (c r : Nat) (rest : List Int) (n : Int) (w : World) (hr : Rd .u8 w w.heap.size A r rest) (hc : r ≤ c) (n0 : 0 ≤ n) (n1 : n < 2305843009213693952) (hn : (r : Int) = n % 64) (hrz : ¬ r ≤ 55) :
    Calls Tryz.prog 133 #[.slice A r c, .int .u64 n] w (RetTailR w (tailL rest n)) := by
  obtain ⟨ps, hps⟩ : ∃ ps, put8L (8 * n) = ps := ⟨_, rfl⟩
  obtain ⟨p0, p1, p2, p3, p4, p5, p6, p7, rfl⟩ : ∃ p0 p1 p2 p3 p4 p5 p6 p7, ps = [p0, p1, p2, p3, p4, p5, p6, p7] := ⟨_, _, _, _, _, _, _, _, hps.symm⟩
  have hput := fun W => put64_c (n * 8) (by omega) (by omega) W
  rw [put8_list, show put8L (n * 8) = put8L (8 * n) by rw [Int.mul_comm], hps] at hput
  have htl : tailL rest n = rest ++ 128 :: List.replicate (zer r) 0 ++ [p0, p1, p2, p3, p4, p5, p6, p7] := by unfold tailL; rw [hr.len, hps]
  rw [htl]
  have HP := Lib.hid hput
  have hps8 : [p0, p1, p2, p3, p4, p5, p6, p7].length = 8 := rfl
  clear hput hps htl
  obtain ⟨ps, hps⟩ : ∃ ps, [p0, p1, p2, p3, p4, p5, p6, p7] = ps := ⟨_, rfl⟩
  rw [hps] at hps8 ⊢
  have HPS := Lib.hid hps
  have HP8 := Lib.hid hps8
  clear hps hps8
  obtain ⟨i0, hi, hz0, hz1, hzb⟩ := info_parts info_u8'
  have r1 : r < 64 := by omega
  have t1 : ((r : Int) != n % 64) = false := by rw [hn]; simp
  have hl := Lib.hid hr.len
  have hq : blocksN (n % 64) = if r ≤ 55 then 1 else 2 := by
    unfold blocksN
    rw [if_neg (by omega)]
    split <;> omega
  rw [if_neg hrz] at hq
  obtain ⟨zs, hzs⟩ : ∃ zs : List Int, List.replicate 128 0 = zs := ⟨_, rfl⟩
  have hmk : ∀ W, (Instr.makeSlice 23 (.int .u64 128) (.int .u64 128)).run Tryz.prog W = .ok (.slice (some ⟨W.heap.size, 0, none⟩) 128 128) (W.alloc (.cells (intsA .u8 (List.replicate 128 0)) 5)) := fun W => run_make_ints (P := Tryz.prog) 23 5 i0 .u8 Tryz.underlying23 hi hz0 hz1 .u64 .u64 128 (by rw [hzb]; decide) (by decide) W
  have hcells := tail_cells rest ps r (zer r) 128 hr.len HP8.out (by unfold zer; rw [if_neg hrz]; omega)
  have hlen : (rest ++ 128 :: List.replicate (zer r) 0 ++ ps).length = 128 := by
    rw [← hcells, length_splice, List.length_set, length_splice] <;> simp [hr.len, HP8.out, splice] <;> omega
  rw [hzs] at hmk hcells
  have hzl : zs.length = 128 := by rw [← hzs]; simp
  have HSL := Lib.hid (show (splice zs 0 rest).length = 128 by rw [length_splice _ _ _ (by rw [hzl, hr.len]; omega), hzl])
  have HZL := Lib.hid hzl
  have HQ := Lib.hid hq
  have HC := Lib.hid hcells
  have HLN := Lib.hid hlen
  have HR := Lib.hid hr
  clear hn hq hzl hzs hcells hlen hr
  obtain ⟨T, hT⟩ : ∃ T, rest ++ 128 :: List.replicate (zer r) 0 ++ ps = T := ⟨_, rfl⟩
  rw [hT] at HC HLN ⊢
  clear hT
  go_enter Tryz.func133, Tryz.ntmps133
  go_wp2_with (first
    | (go_at_call 140; (with_reducible refine (pblocks_c _ (by omega) (by omega) _).mono ?_); rw [HQ.out]; rintro e _ ⟨rfl, rfl⟩)
    | (with_reducible refine at_any ?_; refine at_dst 25 rfl ?_; refine wpList_copy_ints rfl (.tmp 23) (.tmp 24) 23 23 rfl 5 Tryz.underlying23 size_u8 _ _ _ _ _ _ rfl rfl w.heap.size 0 .u8 zs 5 (BlkI.new _ _ _ _) r (by omega) w.heap.size rest (HR.out.alloc (Nat.le_refl _) _) (fun _ => rfl) (by rw [HZL.out]; omega) w.heap.size w ((Below.refl _ _).alloc (Nat.le_refl _) _) (Nat.le_refl _) ?_; intro w1 HK1 hb1; have hlt1 := HK1.out.lt; have hc1 := HK1.out.cell (j := r) (by rw [HSL.out]; omega); have hf1 := HK1.out.frozen r; have HK2 := Lib.hid (HK1.out.set_ r 128); have HB2 := Lib.hid (hb1.setCell (p := ⟨w.heap.size, r, none⟩) (Nat.le_refl _) (.int .u8 128)))
    | (go_at_call 117; (with_reducible refine (HP.out _).mono ?_); rintro e w4 ⟨rfl, hb4, _⟩))
  have HK4 := Lib.hid ((HK2.out.below hb4 HK2.out.lt).alloc (Obj.cells #[.int .u8 p0, .int .u8 p1, .int .u8 p2, .int .u8 p3, .int .u8 p4, .int .u8 p5, .int .u8 p6, .int .u8 p7] 149))
  have HB4 := Lib.hid ((HB2.out.trans (hb4.mono HB2.out.size)).alloc (HB2.out.trans (hb4.mono HB2.out.size)).size (Obj.cells #[.int .u8 p0, .int .u8 p1, .int .u8 p2, .int .u8 p3, .int .u8 p4, .int .u8 p5, .int .u8 p6, .int .u8 p7] 149))
  have HP4 : Hid (BlkI (w4.alloc (Obj.cells #[.int .u8 p0, .int .u8 p1, .int .u8 p2, .int .u8 p3, .int .u8 p4, .int .u8 p5, .int .u8 p6, .int .u8 p7] 149)) w4.heap.size 149 .u8 ps) := by rw [← HPS.out]; exact BlkI.new w4 _ .u8 [p0, p1, p2, p3, p4, p5, p6, p7]
  obtain ⟨W5, hW5⟩ : ∃ W5, w4.alloc (Obj.cells #[.int .u8 p0, .int .u8 p1, .int .u8 p2, .int .u8 p3, .int .u8 p4, .int .u8 p5, .int .u8 p6, .int .u8 p7] 149) = W5 := ⟨_, rfl⟩
  rw [hW5] at HK4 HB4 HP4 ⊢
  obtain ⟨g5, hg5⟩ : ∃ g5, w4.heap.size = g5 := ⟨_, rfl⟩
  rw [hg5] at HP4 ⊢
  have HR5 : Hid (Rd .u8 W5 W5.heap.size (some ⟨g5, 0, none⟩) 8 ps) := by have := HP4.out.rd; rwa [HP8.out] at this
  clear hW5 hg5 hb4 hb1 HB2 HK2 HK1 hc1 hf1 hlt1 HP hmk
  have w120 : IntKind.i64.wrap 120 = 120 := by decide
  go_region_law (refine step_dst 39 rfl ?_; refine step_copy_ints rfl (.tmp 37) (.tmp 38) 23 23 rfl 5 Tryz.underlying23 size_u8 (some ⟨w.heap.size, 120, none⟩) (some ⟨g5, 0, none⟩) 8 8 8 8 (by kernel_rfl) (by kernel_rfl) w.heap.size 120 .u8 _ 5 HK4.out.drew 8 (by omega) _ ps HR5.out.drew (fun _ => rfl) (by rw [List.length_set, HSL.out]; omega) w.heap.size w HB4.out.drew (Nat.le_refl _) ?_; intro w6 HK6 hb6)
  all_goals
    go_wp2
    go_ret2
    have hk := HK6.out
    rw [HC.out] at hk
    have hrd := hk.rd
    rw [HLN.out] at hrd
    exact ⟨some ⟨w.heap.size, 0, none⟩, 128, by rw [HLN.out]; rfl, by rw [HLN.out]; exact hrd, by rw [HLN.out]; omega, hb6⟩
theorem ptail_c (A : Option Addr) (c r : Nat) (rest : List Int) (n : Int) (w : World) (hr : Rd .u8 w w.heap.size A r rest) (hc : r ≤ c) (n0 : 0 ≤ n) (n1 : n < 2305843009213693952) (hn : (r : Int) = n % 64) :
    Calls Tryz.prog 133 #[.slice A r c, .int .u64 n] w (RetTailR w (tailL rest n)) := by
  by_cases hrz : r ≤ 55
  · exact ptail_a A c r rest n w hr hc n0 n1 hn hrz
  · exact ptail_b A c r rest n w hr hc n0 n1 hn hrz
end
section
open Go.ChangeShapes Go.WideShapes Go.ChangeAt Go.RowKit
def cutL (zs : List Int) (q j : Nat) : List Int := zs.take (64 * j) ++ List.replicate (64 * (q - j)) 0
theorem cutL_len (zs : List Int) (q j : Nat) (hj : j ≤ q) (hz : 64 * q ≤ zs.length) : (cutL zs q j).length = q * 64 := by
  simp [cutL]; omega
theorem cutL_zero (zs : List Int) (q : Nat) : List.replicate (q * 64) 0 = cutL zs q 0 := by simp [cutL, Nat.mul_comm]
theorem cutL_full (zs : List Int) (q : Nat) : cutL zs q q = zs.take (64 * q) := by simp [cutL]
theorem cutL_next (zs : List Int) (q j : Nat) (hj : j < q) (hz : 64 * q ≤ zs.length) : splice (cutL zs q j) (j * 64) ((zs.drop (64 * j)).take 64) = cutL zs q (j + 1) := by
  have e1 : (zs.take (64 * j)).length = j * 64 := by rw [List.length_take]; omega
  have e2 : ((zs.drop (64 * j)).take 64).length = 64 := by rw [List.length_take, List.length_drop]; omega
  have e3 : zs.take (64 * (j + 1)) = zs.take (64 * j) ++ (zs.drop (64 * j)).take 64 := by rw [Nat.mul_add, Nat.mul_one, List.take_add]
  rw [show cutL zs q (j + 1) = zs.take (64 * j) ++ (zs.drop (64 * j)).take 64 ++ List.replicate (64 * (q - (j + 1))) 0 by unfold cutL; rw [e3]]
  obtain ⟨x, hx⟩ : ∃ x, (zs.drop (64 * j)).take 64 = x := ⟨_, rfl⟩
  obtain ⟨h, hh⟩ : ∃ h, zs.take (64 * j) = h := ⟨_, rfl⟩
  unfold splice cutL
  rw [hh] at e1 ⊢
  rw [hx] at e2 ⊢
  rw [e2, List.take_append_of_le_length (by omega), List.take_of_length_le (by omega), List.drop_append, List.drop_eq_nil_of_le (by omega), List.nil_append, List.drop_replicate, List.append_assoc, e1]
  congr 3
  omega
theorem splice_all (L cs : List Int) (h : L.length = cs.length) : splice L 0 cs = cs := by
  unfold splice
  rw [List.take_zero, List.nil_append, Nat.zero_add, List.drop_eq_nil_of_le (by omega), List.append_nil]
theorem cutN_flat (zs : List Int) (q : Nat) : (cutN zs q).flatten = zs.take (64 * q) := by
  induction q with
  | zero => simp [cutN]
  | succ q ih =>
    rw [show cutN zs (q + 1) = cutN zs q ++ [(zs.drop (64 * q)).take 64] by unfold cutN; rw [List.range_succ, List.map_append]; rfl, List.flatten_append, ih, Nat.mul_add, Nat.mul_one, List.take_add]
    simp
theorem cutN_len (zs : List Int) (q : Nat) (hz : 64 * q ≤ zs.length) : ∀ x ∈ cutN zs q, x.length = 64 := by
  intro x hx
  unfold cutN at hx
  obtain ⟨i, hi, rfl⟩ := List.mem_map.1 hx
  have := List.mem_range.1 hi
  rw [List.length_take, List.length_drop]
  omega
set_option maxHeartbeats 1000000 in
theorem pcut_c (A : Option Addr) (c L : Nat) (zs : List Int) (w : World) (hr : Rd .u8 w w.heap.size A L zs) (hc : L ≤ c) (hL : L ≤ 1000000) :
    Calls Tryz.prog 134 #[.slice A L c] w (RetCutR w zs (L / 64) L (cutN zs (L / 64))) := by
  obtain ⟨i0, hi, hz0, hz1, hzb⟩ := info_parts info_u8'
  obtain ⟨i1, hi1, hy0, hy1, hyb⟩ := info_parts info_a64
  obtain ⟨q, hq⟩ : ∃ q, L / 64 = q := ⟨_, rfl⟩
  rw [hq]
  have hqI : (L : Int) / 64 = (q : Int) := by omega
  have hq1 : 64 * q ≤ L := by omega
  have hq2 : L < 64 * q + 64 := by omega
  obtain ⟨k, hk⟩ : ∃ k, L - 64 * q = k := ⟨_, rfl⟩
  have hkI : (L : Int) % 64 = (k : Int) := by omega
  have hmk : ∀ W, (Instr.makeSlice 153 (.int .i64 (q : Int)) (.int .i64 (q : Int))).run Tryz.prog W = .ok (.slice (some ⟨W.heap.size, 0, none⟩) q q) (W.alloc (.cells (intsA .u8 (List.replicate (q * 64) 0)) 137)) := fun W => run_make_arrs (P := Tryz.prog) 153 137 i1 .u8 64 (by omega) Tryz.underlying153 hi1 hy0 hy1 .i64 .i64 q (by rw [hyb]; omega) (by omega) W
  rw [cutL_zero zs] at hmk
  have hmk2 : ∀ W, (Instr.makeSlice 23 (.int .i64 (k : Int)) (.int .i64 (k : Int))).run Tryz.prog W = .ok (.slice (some ⟨W.heap.size, 0, none⟩) k k) (W.alloc (.cells (intsA .u8 (List.replicate k 0)) 5)) := fun W => run_make_ints (P := Tryz.prog) 23 5 i0 .u8 Tryz.underlying23 hi hz0 hz1 .i64 .i64 k (by rw [hzb]; omega) (by omega) W
  obtain ⟨ks, hks⟩ : ∃ ks : List Int, List.replicate k 0 = ks := ⟨_, rfl⟩
  rw [hks] at hmk2
  have HKS := Lib.hid hks
  have hlen := Lib.hid hr.len
  have HR := Lib.hid hr
  have HK := Lib.hid hk
  clear hq hks hr hk
  go_enter Tryz.func134, Tryz.ntmps134
  go_wp2
  go_loopw [13] (fun a wr => ∃ j : Nat, j ≤ q ∧ a = .int .i64 j ∧ BlkI wr w.heap.size 137 .u8 (cutL zs q j) ∧ Below w.heap.size w wr) (fun a _ => q - (intOf a).toNat)
  case atStart => exact ⟨0, by omega, rfl, BlkI.new _ _ _ _, (Below.refl _ _).alloc (Nat.le_refl _) _⟩
  case round =>
    obtain ⟨j, hj, rfl, hblk, hb⟩ := hrel
    by_cases hlt : j < q
    · obtain ⟨m, hm⟩ : ∃ m, 64 * j = m := ⟨_, rfl⟩
      have e64 : IntKind.i64.wrap ((j : Int) * 64) = (m : Int) := by rw [IntWalk.i64_in _ (by omega)]; omega
      have m0 : (0 : Int) ≤ (m : Int) := by omega
      have m1 : (m : Int) ≤ (L : Int) := by omega
      have m2 : m + 64 ≤ L := by omega
      have m3 : ¬ c = m := by omega
      have j0 : (0 : Int) ≤ (j : Int) := by omega
      have j1 : (j : Int) < (q : Int) := by omega
      have hsrc := ((HR.out.below hb).from_ (i := m) (by omega) hc).upto (j := 64) (by omega)
      rw [if_neg m3] at hsrc
      obtain ⟨b0, off, rfl, hb0, _⟩ := HR.out.at_ (by omega)
      rw [Option.map_some, Nat.mul_one, add_flat] at hsrc
      have hnx := cutL_next zs q j hlt (by rw [hlen.out]; exact hq1)
      rw [hm] at hnx
      obtain ⟨x, hx⟩ : ∃ x, (zs.drop m).take 64 = x := ⟨_, rfl⟩
      rw [hx] at hnx hsrc
      have hcl := cutL_len zs q j hj (by rw [hlen.out]; exact hq1)
      have HNX := Lib.hid hnx
      have HCL := Lib.hid hcl
      have HSR := Lib.hid hsrc
      have HBL := Lib.hid hblk
      have HB := Lib.hid hb
      clear hnx hcl hsrc hblk hx hm hb
      go_wp2
      go_region_law (refine step_dst 24 rfl ?_; refine step_copy_ints rfl (.tmp 19) (.tmp 23) 23 23 rfl 5 Tryz.underlying23 size_u8 (some ⟨w.heap.size, j * 64, none⟩) (some ⟨b0, off + m, none⟩) 64 64 (L - m) (c - m) (by kernel_rfl) (by kernel_rfl) w.heap.size (j * 64) .u8 _ 137 HBL.out.drew 64 (by omega) _ x HSR.out.drew (fun _ => rfl) (by rw [HCL.out]; omega) w.heap.size w HB.out.drew (Nat.le_refl _) ?_; intro w6 HK6 hb6)
      all_goals
        go_wp2
        go_roundw
        case rel => exact ⟨j + 1, by omega, by go_num, by rw [← HNX.out]; exact HK6.out, hb6⟩
        case measure => simp [intOf]; omega
    · obtain rfl : j = q := by omega
      have hk1 := HK.out
      have hfr : Rd .u8 wr w.heap.size (if c = L - k then A else A.map (·.add ((L - k) * 1))) k (zs.drop (64 * j)) := by
        have h := (HR.out.below hb).from_ (i := L - k) (by omega) hc
        rw [show L - (L - k) = k by omega, show zs.drop (L - k) = zs.drop (64 * j) by congr 1; omega] at h
        exact h
      rw [Nat.mul_one] at hfr
      have hdl : (zs.drop (64 * j)).length = k := by rw [List.length_drop, hlen.out]; exact hk1
      obtain ⟨y, hy⟩ : ∃ y, zs.drop (64 * j) = y := ⟨_, rfl⟩
      have hsp := splice_all ks y (by rw [← HKS.out, ← hy, hdl]; simp)
      have hkl : ks.length = k := by rw [← HKS.out]; simp
      have HY := Lib.hid hy
      rw [hy] at hfr hdl
      have HDL := Lib.hid hdl
      have HSP := Lib.hid hsp
      have HKL := Lib.hid hkl
      have HBL := Lib.hid hblk
      have HB := Lib.hid hb
      have hkL : k ≤ L := by omega
      clear hdl hsp hkl hblk hb hk1 hy HKS
      by_cases hck : c = L - k
      all_goals
        first | rw [if_pos hck] at hfr | rw [if_neg hck] at hfr
        have HF := Lib.hid hfr
        clear hfr
        go_wp2_with (with_reducible refine at_any ?_; refine at_dst 38 rfl ?_; refine wpList_copy_ints rfl (.tmp 30) (.tmp 37) 23 23 rfl 5 Tryz.underlying23 size_u8 _ _ _ _ _ _ rfl rfl wr.heap.size 0 .u8 ks 5 (BlkI.new _ _ _ _) k (by omega) w.heap.size y (HF.out.alloc HB.out.size _) (fun _ => rfl) (by rw [HKL.out]; omega) wr.heap.size wr ((Below.refl _ _).alloc (Nat.le_refl _) _) (Nat.le_refl _) ?_; intro w7 HK7 hb7)
        go_ret2
        have hcn : (cutN zs j).length = j := by simp [cutN]
        have hkk := HK7.out
        rw [HSP.out] at hkk
        have hr2 := hkk.rd
        rw [HDL.out] at hr2
        have hr1 := (HBL.out.below hb7 HBL.out.lt).rdA (s := 64) (bs := cutN zs j) (by rw [cutL_full, cutN_flat]) (cutN_len zs j (by rw [hlen.out]; exact hq1))
        rw [hcn] at hr1
        exact ⟨some ⟨w.heap.size, 0, none⟩, j, some ⟨wr.heap.size, 0, none⟩, k, by rw [hcn, HK.out]; rfl, by rw [hcn]; exact hr1, by rw [HK.out, HY.out]; exact hr2, by rw [HK.out]; exact Nat.le_refl _, HB.out.trans (hb7.mono HB.out.size)⟩
end
section
open Go.ChangeShapes Go.WideShapes Go.ChangeAt Go.RowKit
theorem zero_b64h : ∀ W, (zeroValue 137).run Tryz.prog W = .ok (.agg (intsA .u8 (List.replicate 64 0))) W := (zero_of_info (n := 64) (by kernel_rfl)).1
theorem RdA.onlyW {w w' : World} {A : Option Addr} {n g : Nat} {bs : List (List Int)} {t : TypeId} {s : List Int} {A' : Option Addr} {r c : Nat} {m : Int} (h : RdA .u8 64 w w.heap.size A n bs) (hk : Blk w g t (wrV s A' r c m)) (ho : Only g w w') : RdA .u8 64 w' w'.heap.size A n bs := by
  refine ⟨h.1, h.2.1, fun hn => ?_⟩
  obtain ⟨b, off, e, hlt, hc⟩ := h.2.2 hn
  have hne : b ≠ g := by
    rintro rfl
    obtain ⟨b1, off1, e1, _, h1⟩ := h.at_ hn
    rw [e] at e1
    injection e1 with e1
    injection e1 with e2 e3
    have hl : (bs.getD 0 []).length = 64 := h.2.1 _ (by
      have : 0 < bs.length := by rw [h.1]; exact hn
      simp [List.getD, List.getElem?_eq_getElem this])
    obtain ⟨x, hx⟩ : ∃ x, bs.getD 0 [] = x := ⟨_, rfl⟩
    rw [hx] at h1 hl
    cases x with
    | nil => simp at hl
    | cons y ys =>
    have h0 := h1 0 (.int .u8 y) rfl
    rw [← e2, hk.cell] at h0
    exact wrV_kind _ _ _ _ _ _ _ h0
  refine ⟨b, off, e, Nat.lt_of_lt_of_le hlt ho.size, fun j u hu => ?_⟩
  rw [World.cell?_of_block (w := w) (w' := w') (a := ⟨b, off + j, none⟩) (ho.block b hlt hne)]
  exact hc j u hu
def Hs (w0 : World) (g g2 : Nat) (A : Option Addr) (c : Nat) (s r : List Int) (n : Int) (A4 : Option Addr) (BS : List (List Int)) (Z : List Int) (w : World) : Prop :=
  Wrt w0 g A c s r n w ∧ RdA .u8 64 w w.heap.size A4 BS.length BS ∧ BlkI w g2 26 .u8 Z ∧ g2 ≠ g
theorem Hs.below {w0 w w' : World} {g g2 : Nat} {A : Option Addr} {c : Nat} {s r : List Int} {n : Int} {A4 : Option Addr} {BS : List (List Int)} {Z : List Int} (h : Hs w0 g g2 A c s r n A4 BS Z w) (hb : Below w.heap.size w w') : Hs w0 g g2 A c s r n A4 BS Z w' :=
  ⟨h.1.below hb, (h.2.1.below hb).mono hb.size, h.2.2.1.below hb h.2.2.1.lt, h.2.2.2⟩
theorem Hs.only {w0 w w' : World} {g g2 : Nat} {A : Option Addr} {c : Nat} {s s' r : List Int} {n : Int} {A4 : Option Addr} {BS : List (List Int)} {Z : List Int} (h : Hs w0 g g2 A c s r n A4 BS Z w) (ho : Only g w w') (hk : Blk w' g 176 (wrV s' A r.length c n)) : Hs w0 g g2 A c s' r n A4 BS Z w' :=
  ⟨h.1.only ho hk, h.2.1.onlyW h.1.1 ho, Blk.only h.2.2.1 ho h.2.2.2, h.2.2.2⟩
theorem Wrt.blk {w0 w : World} {g : Nat} {A : Option Addr} {c : Nat} {s r : List Int} {n : Int} (h : Wrt w0 g A c s r n w) : Blk w g 176 (wrV s A r.length c n) := h.1
theorem Hs.wrt {w0 w : World} {g g2 : Nat} {A : Option Addr} {c : Nat} {s r : List Int} {n : Int} {A4 : Option Addr} {BS : List (List Int)} {Z : List Int} (h : Hs w0 g g2 A c s r n A4 BS Z w) : Wrt w0 g A c s r n w := h.1
theorem Hs.res {w0 w : World} {g g2 : Nat} {A : Option Addr} {c : Nat} {s r : List Int} {n : Int} {A4 : Option Addr} {BS : List (List Int)} {Z : List Int} (h : Hs w0 g g2 A c s r n A4 BS Z w) : BlkI w g2 26 .u8 Z := h.2.2.1
set_option maxHeartbeats 2000000 in
theorem qhash_c (w0 : World) (g : Nat) (A : Option Addr) (c : Nat) (s r : List Int) (n : Int) (hl : s.length = 8) (hs : WIn s) (hri : ∀ z ∈ r, 0 ≤ z ∧ z < 256) (n0 : 0 ≤ n) (n1 : n < 2305843009213693952) (hn : (r.length : Int) = n % 64) (w : World) (hw : Wrt w0 g A c s r n w) (hkst : Kst w0) :
    Calls Tryz.prog 127 #[.pointer (some ⟨g, 0, none⟩)] w fun e w' => e = .returned (.agg (intsA .u8 (finL s r n))) ∧ Below w0.heap.size w0 w' := by
  have htl := tailL_len r n
  have htz := zer_le r.length
  have hti := tailL_in r n hri n0 n1
  have HTL := Lib.hid (fun W h => ptail_c A c r.length r n W h hw.cap n0 n1 hn)
  obtain ⟨T, hT⟩ : ∃ T, tailL r n = T := ⟨_, rfl⟩
  obtain ⟨q, hq⟩ : ∃ q, T.length / 64 = q := ⟨_, rfl⟩
  obtain ⟨BS, hBS⟩ : ∃ BS, cutN T q = BS := ⟨_, rfl⟩
  have hR : finL s r n = hashL (takesL s BS) := by unfold finL; rw [hT, hq, hBS]
  rw [hR]
  rw [hT] at htl hti HTL
  have hbi := cutN_in T q hti
  have hbl := cutN_length T q
  have hb64 := cutN_len T q (by omega)
  rw [hBS] at hbi hbl hb64
  have HC1 := Lib.hid (fun A c W h1 h2 => pcut_c A c T.length T W h1 h2 (by omega))
  rw [hq, hBS] at HC1
  have HXL := Lib.hid (fun i => takesL_len s (BS.take i) hl)
  have HXI := Lib.hid (fun i => takesL_in s (BS.take i) hs)
  have HXN := Lib.hid (fun i (h : i < BS.length) => takesL_next s BS i h)
  have HBI := Lib.hid hbi
  have HB64 := Lib.hid hb64
  have HW := Lib.hid hw
  have hq1 : q ≤ 10000 := by omega
  have hqT : 64 * q ≤ 1000000 := by omega
  have HBL := Lib.hid hbl
  have HHL := Lib.hid (hashL_len (takesL s BS))
  have HJ := Lib.hid (fun W => qjoined_c (takesL s BS) (takesL_len s BS hl) (takesL_in s BS hs) W)
  have HX0 := Lib.hid (show takesL s (BS.take 0) = s from rfl)
  have HXA := Lib.hid (show takesL s (BS.take BS.length) = takesL s BS by rw [List.take_length])
  have HKS := Lib.hid hkst
  have SXS := Lib.hid (sized (takesL s BS) (takesL_len s BS hl))
  obtain ⟨Z, hZ⟩ : ∃ Z : List Int, List.replicate 32 0 = Z := ⟨_, rfl⟩
  have HZ0 := Lib.hid zero_hash
  rw [hZ] at HZ0
  have HZL := Lib.hid (show Z.length = 32 by rw [← hZ]; simp)
  obtain ⟨Y, hY⟩ : ∃ Y : List Int, List.replicate 64 0 = Y := ⟨_, rfl⟩
  have HY0 := Lib.hid zero_b64h
  rw [hY] at HY0
  have HYL := Lib.hid (show Y.length = 64 by rw [← hY]; simp)
  have HTlen : Hid (T.length ≤ 1000000) := Lib.hid (by omega)
  have HSL := Lib.hid hl
  clear htl htz hti hq hBS hR hbi hbl hb64 hw hkst hZ hY hT hri hs hn
  go_enter Tryz.func127, Tryz.ntmps127
  go_wp2_with (with_reducible refine at_any ?_; refine at_dst 2 rfl ?_; refine wpList_alloc_ints rfl 26 rfl .u8 Z HZ0.out ?_; intro w1 hk1 hs1 hb1)
  have hW1 := HW.out.below hb1
  have hZ1 := hk1.out
  have hne : w.heap.size ≠ g := by have := HW.out.lt; omega
  have HGE : Hid (w0.heap.size ≤ w.heap.size) := Lib.hid HW.out.size
  obtain ⟨g2, hg2⟩ : ∃ g, w.heap.size = g := ⟨_, rfl⟩
  rw [hg2] at hZ1 hne HGE
  rw [hg2]
  clear hk1 hs1 hb1 hg2
  refine wp_region_held_drew (S := Wrt w0 g A c s r n) (by kernel_rfl) (hW1.drew) (fun hH => ?_)
  refine held_v 0 (some 10) rfl rfl (by kernel_rfl) (by kernel_rfl) (by kernel_rfl) (fun _ _ _ _ h => h) (by kernel_rfl) (.pointer (some ⟨g, 0, none⟩)) (fun W h => by go_simp) hH ?_
  try simp only [Act.put, List.setIfInBounds_toArray, List.set_cons_zero, List.set_cons_succ]
  refine held_v 1 (some 11) rfl rfl (by kernel_rfl) (by kernel_rfl) (by kernel_rfl) (fun _ _ _ _ h => h) (by kernel_rfl) (.pointer (some ⟨g, 0, none⟩)) (fun W h => by go_simp) hH ?_
  try simp only [Act.put, List.setIfInBounds_toArray, List.set_cons_zero, List.set_cons_succ]
  refine held_v 2 (some 12) rfl rfl (by kernel_rfl) (by kernel_rfl) (by kernel_rfl) (fun _ _ _ _ h => h) (by kernel_rfl) (.pointer (some ⟨g, 0, none⟩)) (fun W h => by go_simp) hH ?_
  try simp only [Act.put, List.setIfInBounds_toArray, List.set_cons_zero, List.set_cons_succ]
  refine held_v 3 (some 13) rfl rfl (by kernel_rfl) (by kernel_rfl) (by kernel_rfl) (fun _ _ _ _ h => h) (by kernel_rfl) (.pointer (some ⟨g, 8, none⟩)) (fun W h => by go_simp) hH ?_
  try simp only [Act.put, List.setIfInBounds_toArray, List.set_cons_zero, List.set_cons_succ]
  refine held_v 4 (some 14) rfl rfl (by kernel_rfl) (by kernel_rfl) (by kernel_rfl) (fun _ _ _ _ h => h) (by kernel_rfl) (.slice A r.length c) (fun W h => by have c8 := h.cell8 HSL.out; go_simp) hH ?_
  try simp only [Act.put, List.setIfInBounds_toArray, List.set_cons_zero, List.set_cons_succ]
  refine held_v 5 (some 15) rfl rfl (by kernel_rfl) (by kernel_rfl) (by kernel_rfl) (fun _ _ _ _ h => h) (by kernel_rfl) (.pointer (some ⟨g, 0, none⟩)) (fun W h => by go_simp) hH ?_
  try simp only [Act.put, List.setIfInBounds_toArray, List.set_cons_zero, List.set_cons_succ]
  refine held_v 6 (some 16) rfl rfl (by kernel_rfl) (by kernel_rfl) (by kernel_rfl) (fun _ _ _ _ h => h) (by kernel_rfl) (.pointer (some ⟨g, 0, none⟩)) (fun W h => by go_simp) hH ?_
  try simp only [Act.put, List.setIfInBounds_toArray, List.set_cons_zero, List.set_cons_succ]
  refine held_v 7 (some 17) rfl rfl (by kernel_rfl) (by kernel_rfl) (by kernel_rfl) (fun _ _ _ _ h => h) (by kernel_rfl) (.pointer (some ⟨g, 0, none⟩)) (fun W h => by go_simp) hH ?_
  try simp only [Act.put, List.setIfInBounds_toArray, List.set_cons_zero, List.set_cons_succ]
  refine held_v 8 (some 18) rfl rfl (by kernel_rfl) (by kernel_rfl) (by kernel_rfl) (fun _ _ _ _ h => h) (by kernel_rfl) (.pointer (some ⟨g, 9, none⟩)) (fun W h => by go_simp) hH ?_
  try simp only [Act.put, List.setIfInBounds_toArray, List.set_cons_zero, List.set_cons_succ]
  refine held_v 9 (some 19) rfl rfl (by kernel_rfl) (by kernel_rfl) (by kernel_rfl) (fun _ _ _ _ h => h) (by kernel_rfl) (.int .u64 n) (fun W h => by have c9 := h.cell9 HSL.out; go_simp) hH ?_
  try simp only [Act.put, List.setIfInBounds_toArray, List.set_cons_zero, List.set_cons_succ]
  refine wpAnyH_ready (rs := [10]) (by kernel_rfl) (by decide) ?_
  refine AllReadyH.cons rfl (fun K hK => ?_) AllReadyH.nil
  refine step_call (some 20) rfl (by kernel_rfl) _ _ (by kernel_rfl) _ (HTL.out w1.drew hH.rd) ?_
  rintro e w3 ⟨A3, c3, rfl, hrd3, hc3, hb3⟩
  have hW3 := hH.below hb3
  have hZ3 : BlkI w3 g2 26 .u8 Z := hZ1.drew.below hb3 hZ1.lt
  refine ⟨_, rfl, ?_⟩
  refine hK.out _ _ hW3 (fun hH3 => ?_)
  clear hK K
  try simp only [Act.put, List.setIfInBounds_toArray, List.set_cons_zero, List.set_cons_succ]
  refine held_v 11 (some 9) rfl rfl (by kernel_rfl) (by kernel_rfl) (by kernel_rfl) (fun _ _ _ _ h => h) (by kernel_rfl) (.tuple #[.slice A3 T.length c3, .bool true]) (fun W h => by go_simp) hH3 ?_
  try simp only [Act.put, List.setIfInBounds_toArray, List.set_cons_zero, List.set_cons_succ]
  refine held_v 12 (some 21) rfl rfl (by kernel_rfl) (by kernel_rfl) (by kernel_rfl) (fun _ _ _ _ h => h) (by kernel_rfl) (.slice A3 T.length c3) (fun W h => by go_simp) hH3 ?_
  try simp only [Act.put, List.setIfInBounds_toArray, List.set_cons_zero, List.set_cons_succ]
  refine held_v 13 (some 22) rfl rfl (by kernel_rfl) (by kernel_rfl) (by kernel_rfl) (fun _ _ _ _ h => h) (by kernel_rfl) (.bool true) (fun W h => by go_simp) hH3 ?_
  try simp only [Act.put, List.setIfInBounds_toArray, List.set_cons_zero, List.set_cons_succ]
  refine held_v 14 (some 3) rfl rfl (by kernel_rfl) (by kernel_rfl) (by kernel_rfl) (fun _ _ _ _ h => h) (by kernel_rfl) (.slice A3 T.length c3) (fun W h => by go_simp) hH3 ?_
  try simp only [Act.put, List.setIfInBounds_toArray, List.set_cons_zero, List.set_cons_succ]
  refine held_v 15 (some 4) rfl rfl (by kernel_rfl) (by kernel_rfl) (by kernel_rfl) (fun _ _ _ _ h => h) (by kernel_rfl) (.bool true) (fun W h => by go_simp) hH3 ?_
  try simp only [Act.put, List.setIfInBounds_toArray, List.set_cons_zero, List.set_cons_succ]
  refine wpAnyH_done (by kernel_rfl) ?_ _
  have HRD3 := Lib.hid hrd3
  have HW3 := Lib.hid hW3
  have HZ3 := Lib.hid hZ3
  clear hW1 hZ1 hH hrd3 hb3 hW3 hZ3 hH3
  go_wp2_with (go_at_call 134; (with_reducible refine (HC1.out A3 c3 w3 HRD3.out hc3).mono ?_); rintro e w4 ⟨A4, c4, A5, c5, rfl, hrd4, hrd5, hc5, hb4⟩; have HRD4 := Lib.hid hrd4; have HW4 := Lib.hid (HW3.out.below hb4); have HZ4 := Lib.hid (HZ3.out.below hb4 HZ3.out.lt); clear hrd4 hrd5 hc5)
  have HI : Hs w0 g g2 A c (takesL s (BS.take 0)) r n A4 BS Z w4 := by rw [HX0.out]; exact ⟨HW4.out, HRD4.out, HZ4.out, hne⟩
  have hlen : BS.length ≤ 10000 := by rw [HBL.out]; exact hq1
  obtain ⟨m, hm⟩ : ∃ m, BS.length = m := ⟨_, rfl⟩
  have HM := Lib.hid hm
  rw [hm] at hlen
  rw [hm]
  clear HRD3 HW3 HZ3 HRD4 HW4 HZ4 hb4 hm hc3
  go_loopw [30] (fun v wr => ∃ i : Nat, i ≤ m ∧ v = .int .i64 i ∧ Hs w0 g g2 A c (takesL s (BS.take i)) r n A4 BS Z wr) (fun v _ => m - (intOf v).toNat)
  case atStart => exact ⟨0, by omega, rfl, HI⟩
  case round =>
    clear HI
    obtain ⟨i, hi, rfl, HI⟩ := hrel
    by_cases hlt : i < m
    · have hil : i < BS.length := by rw [HM.out]; exact hlt
      obtain ⟨b0, off, hA4, hb0, hrg⟩ := HI.2.1.at_ hil
      have hmem : BS.getD i [] ∈ BS := by simp [List.getD, List.getElem?_eq_getElem hil]
      have hbl := HB64.out _ hmem
      have hbi := HBI.out _ hmem
      have hnx := HXN.out i hil
      have hxl := HXL.out i
      have hxi := HXI.out i
      obtain ⟨x, hx⟩ : ∃ x, takesL s (BS.take i) = x := ⟨_, rfl⟩
      obtain ⟨b, hb⟩ : ∃ b, BS.getD i [] = b := ⟨_, rfl⟩
      rw [hx] at hnx hxl hxi HI
      rw [hb] at hnx hbl hbi hrg
      have HNX := Lib.hid hnx
      have HRG := Lib.hid hrg
      have HII := Lib.hid HI
      have SB := Lib.hid (show (Tryz.prog.info? 137).map (·.size) = some b.length by rw [hbl]; exact size_blk)
      have LB := Lib.hid (show Y.length = b.length by rw [hbl, HYL.out])
      have HTK := Lib.hid (fun W h k => qtake_c g A r.length c x b n hxl hxi hbl hbi W h k)
      have q0 : (0 : Int) ≤ (i : Int) ∧ (i : Int) < (m : Int) := by omega
      subst hA4
      clear hnx hrg hxl hxi hbl hbi hmem hx hb HI
      go_wp2_with (first
        | (with_reducible refine at_any ?_; refine at_dst 33 rfl ?_; refine wpList_load_at rfl 137 (.tmp 32) rfl b0 (off + i * 64) rfl .u8 b HRG.out _ Tryz.underlying137 rfl SB.out ?_)
        | (with_reducible refine at_any ?_; refine at_dst 8 rfl ?_; refine wpList_alloc_ints rfl 137 rfl .u8 Y HY0.out ?_; intro w5 hk5 hs5 hb5; have HI5 := Lib.hid (HII.out.below hb5))
        | (with_reducible refine at_any ?_; refine at_store 8 rfl ?_; refine wpList_store_ints rfl 137 (.tmp 8) (.tmp 33) rfl wr.heap.size rfl 137 .u8 Y b hk5.out rfl LB.out SB.out ?_; intro w6 hk6 hs6 hb6 ho6; have HI6 := Lib.hid (HII.out.below (hb5.trans (hb6 _ (Nat.le_refl _)))))
        | (with_reducible refine at_any ?_; refine at_dst 35 rfl ?_; refine wpList_load_ints rfl 137 (.tmp 8) rfl wr.heap.size rfl 137 .u8 b hk6.out _ Tryz.underlying137 rfl SB.out ?_)
        | (go_at_call 135; (with_reducible refine (HTK.out w6 HI6.out.wrt.blk (HKS.out.below HI6.out.wrt.bel)).mono ?_); rintro e w7 ⟨rfl, hk7, ho7⟩; have HI7 := Lib.hid (HI6.out.only ho7 hk7)))
      rw [← HNX.out] at HI7
      go_roundw
      case rel => exact ⟨i + 1, by omega, by go_num, HI7.out⟩
      case measure => simp [intOf]; omega
    · obtain rfl : i = m := by omega
      have hi2 := HI
      rw [← HM.out, HXA.out] at hi2
      have HI2 := Lib.hid hi2
      obtain ⟨X, hX⟩ : ∃ X, takesL s BS = X := ⟨_, rfl⟩
      obtain ⟨R, hRR⟩ : ∃ R, hashL X = R := ⟨_, rfl⟩
      rw [hX] at HI2 HJ SXS HHL
      rw [hRR] at HJ HHL
      have HRX := Lib.hid (show hashL (takesL s BS) = R by rw [hX, hRR])
      have SR := Lib.hid (show (Tryz.prog.info? 26).map (·.size) = some R.length by rw [HHL.out]; exact size_hash)
      have ZR := Lib.hid (show Z.length = R.length by rw [HHL.out, HZL.out])
      clear hi2 HI hX hRR HXN HXL HXI HXA HX0
      go_wp2_with (first
        | (with_reducible refine at_any ?_; refine at_dst 42 rfl ?_; refine wpList_load_at rfl 159 (.tmp 41) rfl g 0 rfl .u32 X (wrV_range HI2.out.wrt.blk) _ Tryz.underlying159 rfl SXS.out ?_)
        | (go_at_call 136; (with_reducible refine (HJ.out _).mono ?_); rintro e w7 ⟨rfl, hb7⟩; have HI7 := Lib.hid (HI2.out.below hb7))
        | (with_reducible refine at_any ?_; refine at_store 2 rfl ?_; refine wpList_store_ints rfl 26 (.tmp 2) (.tmp 43) rfl g2 rfl 26 .u8 Z R HI7.out.res rfl ZR.out SR.out ?_; intro w9 hk9 hs9 hb9 ho9)
        | (refine bodyPost_cell 2 26 rfl g2 rfl 26 .u8 R hk9.out _ Tryz.underlying26 rfl SR.out rfl ?_))
      exact ⟨by rw [HRX.out], HI7.out.wrt.bel.trans (hb9 _ HGE.out)⟩
end
section
open Go.ChangeShapes Go.WideShapes Go.ChangeAt Go.RowKit
theorem more_parts (z b : List Int) : (z ++ b).length / 64 = z.length / 64 + (z.drop (64 * (z.length / 64)) ++ b).length / 64 := by
  rw [List.length_append, List.length_append, List.length_drop]; omega
theorem more_split (z b : List Int) : z ++ b = z.take (64 * (z.length / 64)) ++ (z.drop (64 * (z.length / 64)) ++ b) := by
  rw [← List.append_assoc, List.take_append_drop]
theorem nextS_more (s r a b : List Int) : nextS s r (a ++ b) = nextS (nextS s r a) (nextR r a) b := by
  unfold nextS nextR
  rw [← List.append_assoc]
  obtain ⟨z, hz⟩ : ∃ z, r ++ a = z := ⟨_, rfl⟩
  rw [hz, more_parts z b, ← takesL_append, ← cutN_take z, ← cutN_append _ _ _ _ (by rw [List.length_take]; omega), ← more_split]
theorem nextR_more (r a b : List Int) : nextR r (a ++ b) = nextR (nextR r a) b := by
  unfold nextR
  rw [← List.append_assoc]
  obtain ⟨z, hz⟩ : ∃ z, r ++ a = z := ⟨_, rfl⟩
  rw [hz]
  have h := more_parts z b
  have e := more_split z b
  obtain ⟨m, hm⟩ : ∃ m, z.drop (64 * (z.length / 64)) ++ b = m := ⟨_, rfl⟩
  rw [hm] at e h
  rw [h, hm, e, List.drop_append, List.drop_eq_nil_of_le (by rw [List.length_take]; omega), List.nil_append, List.length_take]
  congr 1
  omega
theorem nextS_few (s r y : List Int) (h : (r ++ y).length < 64) : nextS s r y = s := by
  unfold nextS
  rw [show (r ++ y).length / 64 = 0 by omega]
  rfl
theorem nextR_few (r y : List Int) (h : (r ++ y).length < 64) : nextR r y = r ++ y := by
  unfold nextR
  rw [show (r ++ y).length / 64 = 0 by omega]
  rfl
theorem nextS_full (s r y : List Int) (h : (r ++ y).length = 64) : nextS s r y = takeL s (r ++ y) := by
  unfold nextS
  rw [show (r ++ y).length / 64 = 1 by omega]
  have : cutN (r ++ y) 1 = [r ++ y] := by
    simp only [cutN, List.range_one, List.map_cons, List.map_nil, Nat.mul_zero, List.drop_zero]
    rw [List.take_of_length_le (by omega)]
  rw [this]
  rfl
theorem nextR_full (r y : List Int) (h : (r ++ y).length = 64) : nextR r y = [] := by
  unfold nextR
  rw [show (r ++ y).length / 64 = 1 by omega, List.drop_eq_nil_of_le (by omega)]
theorem nextS_nil (s r : List Int) (h : r.length < 64) : nextS s r [] = s := nextS_few s r [] (by simpa using h)
theorem nextR_nil (r : List Int) (h : r.length < 64) : nextR r [] = r := by rw [nextR_few r [] (by simpa using h), List.append_nil]
theorem nextS_len (s r b : List Int) (hl : s.length = 8) : (nextS s r b).length = 8 := takesL_len _ _ hl
theorem nextS_in (s r b : List Int) (hs : WIn s) : WIn (nextS s r b) := takesL_in _ _ hs
theorem nextR_len (r b : List Int) : (nextR r b).length = (r.length + b.length) % 64 := by unfold nextR; rw [List.length_drop, List.length_append]; omega
theorem nextR_in (r b : List Int) (hr : ∀ z ∈ r, 0 ≤ z ∧ z < 256) (hb : ∀ z ∈ b, 0 ≤ z ∧ z < 256) : ∀ z ∈ nextR r b, 0 ≤ z ∧ z < 256 := fun z h => by
  have := List.mem_of_mem_drop h
  rcases List.mem_append.1 this with h1 | h1
  · exact hr z h1
  · exact hb z h1
end
section
open Go.ChangeShapes Go.WideShapes Go.ChangeAt Go.RowKit
theorem size_u64w : (Tryz.prog.info? 24).map (·.size) = some 1 := by kernel_rfl
section
variable {P : Program} {w w' : World} {ops : Array Oper} {rest : List Oper} {o : Oper} {a : Act} {Q : Exit → Act → World → Prop}
theorem wpList_min (hgd : o.guard = none) (x y : Operand) (t : TypeId) (ho : o.op = .call { callee := .builtin .min, args := #[x, y], argTypes := #[t, t] }) (f j q : Int) (hx : a.eval x = .int .i64 f) (hy : a.eval y = .int .i64 j) (hq : (if j < f then j else f) = q)
    (h : wpList P ops Q rest (a.put o.dst (.int .i64 q)) w) : wpList P ops Q (o :: rest) a w := by
  refine wpList_plain hgd fun K hK => ?_
  unfold Oper.wp execOp
  simp only [ho, resolve, invoke, builtin, Sem.run_bind, Sem.run_pure, Result.andThen_ok, List.map_toArray, List.map_cons, List.map_nil, hx, hy, run_min_int2, hq]
  exact hK _ _ h
end
theorem Rd.range {w : World} {B n b off : Nat} {k : IntKind} {zs : List Int} (h : Rd k w B (some ⟨b, off, none⟩) n zs) : w.rangeAt b off (zs.map (Value.int k)) := fun j u hu => by
  have := h.news j u hu
  rwa [add_flat] at this
def Wq (w0 : World) (g : Nat) (s r zs : List Int) (N : Int) (k : Nat) (p : Value) (w : World) : Prop :=
  ∃ Ak ck A' c', p = .slice Ak (zs.length - k) ck ∧ zs.length - k ≤ ck ∧ Rd .u8 w w0.heap.size Ak (zs.length - k) (zs.drop k) ∧ Wrt w0 g A' c' (nextS s r (zs.take k)) (nextR r (zs.take k)) N w
def RetWrN (w0 : World) (g : Nat) (s r : List Int) (n : Int) (e : Ending) (w' : World) : Prop := e = .returned (.tuple #[]) ∧ ∃ A c, Wrt w0 g A c s r n w'
theorem Wrt.blk' {w0 w : World} {g : Nat} {A : Option Addr} {c u : Nat} {s r : List Int} {n : Int} (h : Wrt w0 g A c s r n w) (hu : r.length = u) : Blk w g 176 (wrV s A u c n) := by subst hu; exact h.1
theorem Wrt.own {w0 w : World} {g : Nat} {A : Option Addr} {c : Nat} {s r : List Int} {n : Int} (h : Wrt w0 g A c s r n w) : OwnI w w0.heap.size 5 .u8 (.slice A r.length c) r := h.2.1
theorem Wrt.ge {w0 w : World} {g : Nat} {A : Option Addr} {c : Nat} {s r : List Int} {n : Int} (h : Wrt w0 g A c s r n w) : w0.heap.size ≤ g := h.2.2.2
theorem Wrt.more {w0 w w1 w2 : World} {g : Nat} {A A' : Option Addr} {c c' u : Nat} {s r r' : List Int} {n : Int} (h : Wrt w0 g A c s r n w) (hs : s.length = 8) (hu : r'.length = u) (hown : OwnI w1 w0.heap.size 5 .u8 (.slice A' u c') r') (hg : w.grownBy w1 (Value.slice A r.length c).ownBlock)
    (hk : Blk w2 g 176 ((wrV s A r.length c n).setIfInBounds 8 (.slice A' u c'))) (ho : Only g w1 w2) : Wrt w0 g A' c' s r' n w2 ∧ Below w0.heap.size w w2 := by
  subst hu
  rw [wrV_set8 s hs] at hk
  have hb1 : Blk w1 g 176 (wrV s A r.length c n) := h.1.grown h.2.1 (by decide) hg
  have hl1 : Below w0.heap.size w w1 := h.2.1.below_ (Below.refl _ _) h.size hg
  have hl2 : Below w0.heap.size w1 w2 := ho.below h.2.2.2 (Nat.le_trans h.size hl1.size)
  exact ⟨⟨hk, hown.only hb1 (by decide) ho, h.bel.trans (hl1.trans hl2), h.2.2.2⟩, hl1.trans hl2⟩
theorem Wrt.empty {w0 w w2 : World} {g : Nat} {A : Option Addr} {c : Nat} {s r : List Int} {n : Int} (h : Wrt w0 g A c s r n w) (hs : s.length = 8) (hr : 0 < r.length)
    (hk : Blk w2 g 176 ((wrV s A r.length c n).setIfInBounds 8 (.slice A 0 c))) (ho : Only g w w2) : Wrt w0 g A c s [] n w2 ∧ Below w0.heap.size w w2 := by
  rw [wrV_set8 s hs] at hk
  have hl2 : Below w0.heap.size w w2 := ho.below h.2.2.2 h.size
  exact ⟨⟨hk, (h.2.1.zero hr).only h.1 (by decide) ho, h.bel.trans hl2, h.2.2.2⟩, hl2⟩
theorem Wrt.bytes {w0 w w2 : World} {g : Nat} {A : Option Addr} {c : Nat} {s r : List Int} {n m : Int} (h : Wrt w0 g A c s r n w) (hs : s.length = 8) (hk : Blk w2 g 176 ((wrV s A r.length c n).setIfInBounds 9 (.int .u64 m))) (ho : Only g w w2) : Wrt w0 g A c s r m w2 := by
  rw [wrV_set9 s hs] at hk
  exact h.only ho hk
theorem Wrt.head {w0 w : World} {g : Nat} {A : Option Addr} {c : Nat} {s r : List Int} {n : Int} (h : Wrt w0 g A c s r n w) (hr : 0 < r.length) : ∃ b, A = some ⟨b, 0, none⟩ := by
  obtain ⟨g', cap, hv, _, _⟩ := World.ownsRow.form (show w.ownsRow w0.heap.size 5 1 (.slice A r.length c) r.length (r.map (Value.int .u8)) from h.2.1) hr
  exact ⟨g', by injection hv⟩
theorem take_more (zs : List Int) (k q : Nat) : zs.take (k + q) = zs.take k ++ (zs.drop k).take q := List.take_add
set_option maxHeartbeats 4000000 in
theorem qwr_c (w0 : World) (g : Nat) (A : Option Addr) (c : Nat) (s r zs : List Int) (n : Int) (hl : s.length = 8) (hs : WIn s) (hri : ∀ z ∈ r, 0 ≤ z ∧ z < 256) (hr : r.length ≤ 63) (Ap : Option Addr) (m cp : Nat) (hzi : ∀ z ∈ zs, 0 ≤ z ∧ z < 256) (n0 : 0 ≤ n) (n1 : n + m < 2305843009213693952)
    (w : World) (hw : Wrt w0 g A c s r n w) (hp : Rd .u8 w w0.heap.size Ap m zs) (hmc : m ≤ cp) (hm : m ≤ 1000000) (hkst : Kst w0) :
    Calls Tryz.prog 132 #[.pointer (some ⟨g, 0, none⟩), .slice Ap m cp] w (RetWrN w0 g (nextS s r zs) (nextR r zs) (n + m)) := by
  obtain ⟨i0, hi, hz0, hz1, hzb⟩ := info_parts info_u8'
  have hpl := hp.len
  have w1e : IntKind.u64.wrap (m : Int) = m := by rw [IntKind.wrap_u64]; omega
  obtain ⟨N, hN⟩ : ∃ N, n + (m : Int) = N := ⟨_, rfl⟩
  have w2e : IntKind.u64.wrap (n + (m : Int)) = N := by rw [IntKind.wrap_u64]; omega
  rw [hN]
  have c9 := hw.cell9 hl
  have HW := Lib.hid hw
  have HP := Lib.hid hp
  have SV := Lib.hid (wrV_size s hl A r.length c n)
  have HL := Lib.hid hl
  have HPL := Lib.hid hpl
  have HKS := Lib.hid hkst
  have HSL := Lib.hid (fun k => nextS_len s r (zs.take k) hl)
  have HSI := Lib.hid (fun k => nextS_in s r (zs.take k) hs)
  have HRL := Lib.hid (fun k => nextR_len r (zs.take k))
  have HRI := Lib.hid (fun k => nextR_in r (zs.take k) hri (fun z h => hzi z (List.mem_of_mem_take h)))
  have HZI := Lib.hid hzi
  have HNM := Lib.hid (fun k q => (show nextS s r (zs.take (k + q)) = nextS (nextS s r (zs.take k)) (nextR r (zs.take k)) ((zs.drop k).take q) ∧ nextR r (zs.take (k + q)) = nextR (nextR r (zs.take k)) ((zs.drop k).take q) by rw [take_more]; exact ⟨nextS_more _ _ _ _, nextR_more _ _ _⟩))
  have HST := Lib.hid (show nextS s r (zs.take 0) = s ∧ nextR r (zs.take 0) = r from ⟨nextS_nil s r (by omega), nextR_nil r (by omega)⟩)
  have HZA := Lib.hid (show zs.take m = zs by rw [← hpl, List.take_length])
  clear hw hp hl hs hri hr hzi hpl hN hkst n1
  go_enter Tryz.func132, Tryz.ntmps132
  go_wp2_with (with_reducible refine at_any ?_; refine at_store 16 rfl ?_; refine wpList_store_cell rfl 24 (.tmp 16) (.tmp 13) rfl g 9 rfl 176 (wrV s A r.length c n) HW.out.blk (.int .u64 N) rfl (by rw [SV.out]; omega) size_u64w rfl rfl ?_; intro w1 hk1 ho1)
  have hW1 := HW.out.bytes HL.out hk1.out ho1
  have HQ : Wq w0 g s r zs N 0 (.slice Ap m cp) w1 := by
    refine ⟨Ap, cp, A, c, by rw [Nat.sub_zero, HPL.out], by rw [Nat.sub_zero, HPL.out]; exact hmc, ?_, ?_⟩
    · rw [Nat.sub_zero, HPL.out, List.drop_zero]
      exact HP.out.below (ho1.below HW.out.ge HW.out.size)
    · rw [HST.out.1, HST.out.2]; exact hW1
  clear hk1 ho1 hW1 c9 w2e
  try simp only [Act.put]
  go_loopw [1] (fun p wr => ∃ k : Nat, k ≤ m ∧ Wq w0 g s r zs N k p wr) (fun p _ => lenV p)
  case atStart => exact ⟨0, by omega, HQ⟩
  case round =>
    clear HQ
    obtain ⟨k, hk, Ak, ck, A', c', rfl, hck, hrd, hW⟩ := hrel
    rw [HPL.out] at hck hrd ⊢
    by_cases hlt : k < m
    · obtain ⟨j, hj⟩ : ∃ j, m - k = j := ⟨_, rfl⟩
      rw [hj] at hck hrd ⊢
      have hsl := HSL.out k
      have hsi := HSI.out k
      have hrl := HRL.out k
      have hri := HRI.out k
      have hnm := HNM.out k
      obtain ⟨σ, hσ⟩ : ∃ x, nextS s r (zs.take k) = x := ⟨_, rfl⟩
      obtain ⟨ρ, hρ⟩ : ∃ x, nextR r (zs.take k) = x := ⟨_, rfl⟩
      rw [hσ] at hsl hsi hW hnm
      rw [hρ] at hrl hri hW hnm
      obtain ⟨v, hv⟩ : ∃ v, ρ.length = v := ⟨_, rfl⟩
      rw [hv] at hrl
      have hv63 : v ≤ 63 := by omega
      obtain ⟨f, hf⟩ : ∃ f, 64 - v = f := ⟨_, rfl⟩
      obtain ⟨q, hq⟩ : ∃ q, min f j = q := ⟨_, rfl⟩
      have hq1 : 1 ≤ q := by omega
      have hqj : q ≤ j := by omega
      have hqf : q ≤ f := by omega
      have e26 : IntKind.i64.wrap (64 - (v : Int)) = (f : Int) := by rw [IntWalk.i64_in _ (by omega)]; omega
      have HMIN := Lib.hid (show (if (j : Int) < (f : Int) then (j : Int) else (f : Int)) = (q : Int) by split <;> omega)
      obtain ⟨b0, off0, rfl, hb0, _⟩ := hrd.at_ (by omega)
      have hup := hrd.upto hqj
      have hdn := hrd.from_ (cap := ck) hqj hck
      have hnk := hnm q
      obtain ⟨y, hy⟩ : ∃ y, (zs.drop k).take q = y := ⟨_, rfl⟩
      rw [hy] at hup hnk
      have hyl := hup.len
      have hyi : ∀ z ∈ y, 0 ≤ z ∧ z < 256 := by rw [← hy]; intro z h; exact HZI.out z (List.mem_of_mem_drop (List.mem_of_mem_take h))
      obtain ⟨u, hu⟩ : ∃ u, v + q = u := ⟨_, rfl⟩
      have hul : (ρ ++ y).length = u := by rw [List.length_append, hv, hyl]; exact hu
      have hu64 : u ≤ 64 := by omega
      have c8 := hW.cell8 hsl
      rw [hv] at c8
      have q0 : (0 : Int) < (j : Int) := by omega
      have q2 : (0 : Int) ≤ (q : Int) := by omega
      have q3 : (q : Int) ≤ (ck : Int) := by omega
      have q4 : (q : Int) ≤ (j : Int) := by omega
      have q5 : q ≤ ck := by omega
      have q6 : q ≤ j := hqj
      have HWk := Lib.hid hW
      have HUP := Lib.hid hup
      have HDN := Lib.hid hdn
      have HNK := Lib.hid hnk
      have HYI := Lib.hid hyi
      have HUL := Lib.hid hul
      have HVL := Lib.hid hv
      have HSLk := Lib.hid hsl
      have HSIk := Lib.hid hsi
      have HRIk := Lib.hid hri
      have HYL := Lib.hid hyl
      have HDD := Lib.hid (show (zs.drop k).drop q = zs.drop (k + q) by rw [List.drop_drop])
      have HJK := Lib.hid (show k + j = m by omega)
      have HKQ := Lib.hid (show j - q = zs.length - (k + q) by rw [HPL.out]; omega)
      clear hrd hW hup hdn hnm hnk hyi hul hsl hsi hrl hri hy hσ hρ hf hq hj hyl hv
      go_wp2_with (with_reducible refine at_any ?_; refine at_dst 29 rfl ?_; refine wpList_min rfl (.tmp 26) (.tmp 28) 3 rfl (f : Int) (j : Int) (q : Int) rfl rfl HMIN.out ?_)
      have hWd := HWk.out.drew
      refine wp_region_held_drew (S := AnyW) (by kernel_rfl) trivial (fun hH => ?_)
      refine wpAnyH_letter #[false, false, false, false, false, false, false, false, false, false, false, false, false, false] (by kernel_rfl) (fun _ _ d _ _ h => by cases d <;> exact h) (fun QL HQ1 HQ2 => ?_)
      refine held_v 0 (some 30) rfl rfl (by kernel_rfl) (by kernel_rfl) (by kernel_rfl) (fun c a v w h => HQ2.out c a _ v w h) (by kernel_rfl) (.pointer (some ⟨g, 0, none⟩)) (fun W h => by go_simp) hH ?_
      try simp only [Act.put, List.setIfInBounds_toArray, List.set_cons_zero, List.set_cons_succ]
      refine held_v 1 (some 31) rfl rfl (by kernel_rfl) (by kernel_rfl) (by kernel_rfl) (fun c a v w h => HQ2.out c a _ v w h) (by kernel_rfl) (.pointer (some ⟨g, 0, none⟩)) (fun W h => by go_simp) hH ?_
      try simp only [Act.put, List.setIfInBounds_toArray, List.set_cons_zero, List.set_cons_succ]
      refine held_v 2 (some 32) rfl rfl (by kernel_rfl) (by kernel_rfl) (by kernel_rfl) (fun c a v w h => HQ2.out c a _ v w h) (by kernel_rfl) (.pointer (some ⟨g, 0, none⟩)) (fun W h => by go_simp) hH ?_
      try simp only [Act.put, List.setIfInBounds_toArray, List.set_cons_zero, List.set_cons_succ]
      refine held_v 3 (some 33) rfl rfl (by kernel_rfl) (by kernel_rfl) (by kernel_rfl) (fun c a v w h => HQ2.out c a _ v w h) (by kernel_rfl) (.pointer (some ⟨g, 0, none⟩)) (fun W h => by go_simp) hH ?_
      try simp only [Act.put, List.setIfInBounds_toArray, List.set_cons_zero, List.set_cons_succ]
      refine held_v 4 (some 34) rfl rfl (by kernel_rfl) (by kernel_rfl) (by kernel_rfl) (fun c a v w h => HQ2.out c a _ v w h) (by kernel_rfl) (.pointer (some ⟨g, 8, none⟩)) (fun W h => by go_simp) hH ?_
      try simp only [Act.put, List.setIfInBounds_toArray, List.set_cons_zero, List.set_cons_succ]
      refine held_v 6 (some 36) rfl rfl (by kernel_rfl) (by kernel_rfl) (by kernel_rfl) (fun c a v w h => HQ2.out c a _ v w h) (by kernel_rfl) (.slice (some ⟨b0, off0, none⟩) j ck) (fun W h => by go_simp) hH ?_
      try simp only [Act.put, List.setIfInBounds_toArray, List.set_cons_zero, List.set_cons_succ]
      refine held_v 7 (some 37) rfl rfl (by kernel_rfl) (by kernel_rfl) (by kernel_rfl) (fun c a v w h => HQ2.out c a _ v w h) (by kernel_rfl) (.int .i64 (q : Int)) (fun W h => by go_simp) hH ?_
      try simp only [Act.put, List.setIfInBounds_toArray, List.set_cons_zero, List.set_cons_succ]
      refine held_v 8 (some 38) rfl rfl (by kernel_rfl) (by kernel_rfl) (by kernel_rfl) (fun c a v w h => HQ2.out c a _ v w h) (by kernel_rfl) (.slice (some ⟨b0, off0, none⟩) q ck) (fun W h => by go_simp) hH ?_
      try simp only [Act.put, List.setIfInBounds_toArray, List.set_cons_zero, List.set_cons_succ]
      refine wpAnyH_ready (rs := [5]) (by kernel_rfl) (by decide) ?_
      refine AllReadyH.cons rfl (fun K hK => ?_) AllReadyH.nil
      refine step_v (some 35) rfl (by kernel_rfl) (.slice A' v c') (by go_simp) ?_
      refine hK.out _ _ hH (fun _ => ?_)
      clear hK K
      try simp only [Act.put, List.setIfInBounds_toArray, List.set_cons_zero, List.set_cons_succ]
      refine wpAnyH_ready (rs := [9]) (by kernel_rfl) (by decide) ?_
      refine AllReadyH.cons rfl (fun K hK => ?_) AllReadyH.nil
      refine step_append_d wr.drew (some 39) rfl rfl (.tmp 35) (.tmp 38) 23 rfl w0.heap.size 5 i0 _ 1 .u8 Tryz.underlying23 hi hz0 hz1 hzb rfl (.slice A' v c') ρ (by kernel_rfl) (by have := hWd.own; rw [HVL.out] at this; exact this) w0.heap.size (some ⟨b0, off0, none⟩) q ck y (by kernel_rfl) HUP.out.drew (by rw [HVL.out]; simp [maxLen]; omega) (by rw [HVL.out]; omega) hWd.size ?_
      intro v6 w6 hown6 hg6 hat6
      obtain ⟨A6, c6, rfl, hc6, _⟩ := hown6.form
      rw [HUL.out] at hown6 hc6 hat6 ⊢
      have HK6 : Blk w6 g 176 (wrV σ A' v c' N) := by
        have h1 := hWd.blk.grown hWd.own (by decide) (by rw [HVL.out]; exact hg6)
        rwa [HVL.out] at h1
      have HO6 := Lib.hid hown6
      have HG6 := Lib.hid hg6
      clear hown6 hg6 hat6
      refine hK.out _ _ hH (fun hH => ?_)
      clear hK K
      try simp only [Act.put, List.setIfInBounds_toArray, List.set_cons_zero, List.set_cons_succ]
      refine held_v 10 (some 40) rfl rfl (by kernel_rfl) (by kernel_rfl) (by kernel_rfl) (fun c a v w h => HQ2.out c a _ v w h) (by kernel_rfl) (.pointer (some ⟨g, 0, none⟩)) (fun W h => by go_simp) hH ?_
      try simp only [Act.put, List.setIfInBounds_toArray, List.set_cons_zero, List.set_cons_succ]
      refine held_v 11 (some 41) rfl rfl (by kernel_rfl) (by kernel_rfl) (by kernel_rfl) (fun c a v w h => HQ2.out c a _ v w h) (by kernel_rfl) (.pointer (some ⟨g, 0, none⟩)) (fun W h => by go_simp) hH ?_
      try simp only [Act.put, List.setIfInBounds_toArray, List.set_cons_zero, List.set_cons_succ]
      refine held_v 12 (some 42) rfl rfl (by kernel_rfl) (by kernel_rfl) (by kernel_rfl) (fun c a v w h => HQ2.out c a _ v w h) (by kernel_rfl) (.pointer (some ⟨g, 8, none⟩)) (fun W h => by go_simp) hH ?_
      try simp only [Act.put, List.setIfInBounds_toArray, List.set_cons_zero, List.set_cons_succ]
      refine wpAnyH_ready (rs := [13]) (by kernel_rfl) (by decide) ?_
      refine AllReadyH.cons rfl (fun K hK => ?_) AllReadyH.nil
      refine step_store_cell none rfl (by kernel_rfl) 23 (.tmp 42) (.tmp 39) rfl g 8 (by kernel_rfl) 176 (wrV σ A' v c' N) HK6 (.slice A6 u c6) (by kernel_rfl) (by rw [wrV_size σ HSLk.out]; omega) size_sl rfl rfl ?_
      intro w7 hk7 ho7
      have hm7 := hWd.more HSLk.out HUL.out HO6.out (by rw [HVL.out]; exact HG6.out) (by rw [HVL.out]; exact hk7.out) ho7
      refine hK.out _ _ hH (fun hH => ?_)
      clear hK K
      try simp only [Act.put, List.setIfInBounds_toArray, List.set_cons_zero, List.set_cons_succ]
      refine wpAnyH_done (by kernel_rfl) ?_ _
      refine HQ1.out _ _ ?_
      clear HQ1 HQ2
      obtain ⟨hW7, hb7⟩ := hm7
      have d8 := hW7.cell8 HSLk.out
      rw [HUL.out] at d8
      have HW7 := Lib.hid hW7
      have HDN7 := Lib.hid (HDN.out.drew.below hb7)
      clear hk7 ho7 HK6 HO6 HG6 hWd hH c8 HWk HUP HDN hW7 hb7 e26
      have HU := Lib.hid hu
      have hkm : k + q ≤ m := by have := HJK.out; omega
      have hrel : ∀ (w9 : World) (σ' ρ' : List Int) (A9 : Option Addr) (c9 : Nat), Below w0.heap.size w7 w9 → nextS σ ρ y = σ' → nextR ρ y = ρ' → Wrt w0 g A9 c9 σ' ρ' N w9 → ∀ Aq : Option Addr, (if ck = q then some ⟨b0, off0, none⟩ else (some (⟨b0, off0, none⟩ : Addr)).map (·.add (q * 1))) = Aq → ∃ k : Nat, k ≤ m ∧ Wq w0 g s r zs N k (.slice Aq (j - q) (ck - q)) w9 := by
        intro w9 σ' ρ' A9 c9 hb9 hs9 hr9 hW9 Aq hA
        have h1 := HDN7.out.below hb9
        rw [hA, HDD.out, HKQ.out] at h1
        refine ⟨k + q, hkm, Aq, ck - q, A9, c9, by rw [HKQ.out], by rw [← HKQ.out]; omega, h1, ?_⟩
        rw [HNK.out.1, HNK.out.2, hs9, hr9]
        exact hW9
      have HREL := Lib.hid hrel
      have hif1 : ck = q → (if ck = q then some ⟨b0, off0, none⟩ else (some (⟨b0, off0, none⟩ : Addr)).map (·.add (q * 1))) = some ⟨b0, off0, none⟩ := fun h => if_pos h
      have hif2 : ¬ ck = q → (if ck = q then some ⟨b0, off0, none⟩ else (some (⟨b0, off0, none⟩ : Addr)).map (·.add (q * 1))) = some ⟨b0, off0 + q, none⟩ := fun h => by rw [if_neg h, Option.map_some, Nat.mul_one, add_flat]
      have HI1 := Lib.hid hif1
      have HI2 := Lib.hid hif2
      clear hrel hif1 hif2
      by_cases h64 : u = 64
      · have t64 : ((u : Int) == 64) = true := by rw [beq_iff_eq]; omega
        obtain ⟨b6, rfl⟩ := HW7.out.head (by rw [HUL.out]; omega)
        obtain ⟨T, hT⟩ : ∃ T, ρ ++ y = T := ⟨_, rfl⟩
        have hTi : ∀ z ∈ T, 0 ≤ z ∧ z < 256 := by
          rw [← hT]; intro z hz
          rcases List.mem_append.1 hz with h | h
          · exact HRIk.out z h
          · exact HYI.out z h
        have HFS := Lib.hid (nextS_full σ ρ y (by rw [HUL.out]; exact h64))
        have HFR := Lib.hid (nextR_full ρ y (by rw [HUL.out]; exact h64))
        rw [hT] at HW7 HUL HFS
        have HTL := Lib.hid (show T.length = 64 by rw [HUL.out]; exact h64)
        have HTK := Lib.hid (fun W h k => qtake_c g (some ⟨b6, 0, none⟩) u c6 σ T N HSLk.out HSIk.out HTL.out hTi W h k)
        have HRG := Lib.hid (HW7.out.rd.range)
        have SB := Lib.hid (show (Tryz.prog.info? 137).map (·.size) = some T.length by rw [HTL.out]; exact size_blk)
        obtain ⟨τ, hτ⟩ : ∃ τ, takeL σ T = τ := ⟨_, rfl⟩
        have HSτ := Lib.hid (show τ.length = 8 by rw [← hτ]; exact takeL_len σ T HSLk.out)
        rw [hτ] at HTK HFS
        have hu64i : (64 : Int) ≤ (u : Int) := by omega
        have hu64n : 64 ≤ u := by omega
        have hc0 : ¬ c6 = 0 := by omega
        have hat := fun W => run_arrayAt (P := Tryz.prog) W 137 _ 64 (some ⟨b6, 0, none⟩) u c6 Tryz.underlying137 hu64n
        clear hT hτ hTi h64
        by_cases hcq : ck = q
        all_goals
          go_wp2_with (first
            | (with_reducible refine at_any ?_; refine at_dst 60 rfl ?_; refine wpList_load_at rfl 137 (.tmp 59) rfl b6 0 rfl .u8 T HRG.out _ Tryz.underlying137 rfl SB.out ?_)
            | (go_at_call 135; (with_reducible refine (HTK.out w7 (HW7.out.blk' HUL.out) (HKS.out.below HW7.out.bel)).mono ?_); rintro e w8 ⟨rfl, hk8, ho8⟩; have e8 := hk8.cell 8; rw [wrV_rest τ HSτ.out] at e8; have f8 := hk8.frozen 8; have HO8 := Lib.hid ho8; have HB8 := Lib.hid hk8; clear ho8 hk8)
            | (with_reducible refine at_any ?_; refine at_store 71 rfl ?_; refine wpList_store_cell rfl 23 (.tmp 71) (.tmp 68) rfl g 8 rfl 176 (wrV τ (some ⟨b6, 0, none⟩) u c6 N) HB8.out (.slice (some ⟨b6, 0, none⟩) 0 c6) rfl (by rw [wrV_size τ HSτ.out]; omega) size_sl rfl rfl ?_; intro w9 hk9 ho9))
          try simp only [Act.put]
          go_roundw
          case rel =>
            have hW8 : Wrt w0 g (some ⟨b6, 0, none⟩) c6 τ T N w8 := HW7.out.only HO8.out (by rw [HUL.out]; exact HB8.out)
            obtain ⟨hW9, hb9⟩ := hW8.empty HSτ.out (by rw [HTL.out]; omega) (by rw [HUL.out]; exact hk9.out) ho9
            have hb79 : Below w0.heap.size w7 w9 := (HO8.out.below HW7.out.ge HW7.out.size).trans hb9
            first
              | (have h := HREL.out w9 τ [] _ c6 hb79 HFS.out HFR.out hW9 _ (HI1.out hcq); rw [show ck - q = 0 by omega] at h; exact h)
              | exact HREL.out w9 τ [] _ c6 hb79 HFS.out HFR.out hW9 _ (HI2.out hcq)
          case measure => simp only [lenV]; omega
      · have t64 : ((u : Int) == 64) = false := by rw [beq_eq_false_iff_ne]; omega
        have HFS := Lib.hid (nextS_few σ ρ y (by rw [HUL.out]; omega))
        have HFR := Lib.hid (nextR_few ρ y (by rw [HUL.out]; omega))
        by_cases hcq : ck = q
        · go_wp2
          go_roundw
          case rel =>
            have h := HREL.out w7 σ (ρ ++ y) A6 c6 (Below.refl _ _) HFS.out HFR.out HW7.out _ (HI1.out hcq)
            rw [show ck - q = 0 by omega] at h
            exact h
          case measure => simp only [lenV]; omega
        · go_wp2
          go_roundw
          case rel => exact HREL.out w7 σ (ρ ++ y) A6 c6 (Below.refl _ _) HFS.out HFR.out HW7.out _ (HI2.out hcq)
          case measure => simp only [lenV]; omega
    · obtain rfl : k = m := by omega
      rw [Nat.sub_self] at hrd ⊢
      have HWk := Lib.hid hW
      rw [HZA.out] at HWk
      clear hrd hW
      go_wp2
      go_end0
      exact ⟨rfl, A', c', HWk.out⟩
end
section
open Go.ChangeShapes Go.WideShapes Go.ChangeAt Go.RowKit
set_option maxHeartbeats 1000000 in
theorem qnew_c (w : World) : Calls Tryz.prog 125 #[] w fun e w' => e = .returned (.agg (wrV startL none 0 0 0)) ∧ Below w.heap.size w w' := by
  have ZS := Lib.hid (show (wrV Z8 none 0 0 0).size = (wrV startL none 0 0 0).size by rw [wrV_size _ rfl, wrV_size _ rfl])
  have SS := Lib.hid (sizedW startL rfl none 0 0 0)
  have OS := Lib.hid (wrV_ones startL none 0 0 0)
  have CS := Lib.hid (fun W => cstart_c W)
  have hsl : startL.length = 8 := rfl
  obtain ⟨S, hS⟩ : ∃ S, startL = S := ⟨_, rfl⟩
  rw [hS] at ZS SS OS CS hsl ⊢
  have HSL := Lib.hid hsl
  clear hS hsl
  go_enter Tryz.func125, Tryz.ntmps125
  go_wp2_with (first
    | (with_reducible refine at_any ?_; refine at_dst 0 rfl ?_; refine wpList_alloc_any rfl 166 rfl (wrV Z8 none 0 0 0) zero_wr ?_; intro w1 hk1 hs1 hb1)
    | (go_at_call 131; (with_reducible refine (CS.out _).mono ?_); rintro e w4 ⟨rfl, hb4⟩; have hk4 := Lib.hid (hk1.out.below hb4 hk1.out.lt); have bl4 := Lib.hid (hb1.trans (hb4.mono hb1.size)))
    | (with_reducible refine at_any ?_; refine at_dst 2 rfl ?_; refine wpList_val rfl (.agg (wrV S none 0 0 0)) (build_new _ S HSL.out rfl rfl) ?_)
    | (with_reducible refine at_any ?_; refine at_store 0 rfl ?_; refine wpList_store_any rfl 166 (.tmp 0) (.tmp 2) rfl w.heap.size rfl 166 (wrV Z8 none 0 0 0) (wrV S none 0 0 0) hk4.out rfl ZS.out SS.out OS.out ?_; intro w9 hk9 hs9 hb9 ho9)
    | (refine bodyPost_any 0 166 rfl w.heap.size rfl 166 (wrV S none 0 0 0) hk9.out _ Tryz.underlying166 rfl SS.out rfl ?_))
  exact bl4.out.trans (hb9 _ (Nat.le_refl _))
end
section
open Go.ChangeShapes Go.WideShapes Go.ChangeAt Go.RowKit
def RowsOk (rs : List Row) : Prop := rs.length ≤ 20 ∧ ∀ r ∈ rs, r.zs.length ≤ 1000 ∧ ∀ z ∈ r.zs, 0 ≤ z ∧ z < 256
theorem joinL_in (rs : List Row) (h : RowsOk rs) (i : Nat) : ∀ z ∈ joinL (rs.take i), 0 ≤ z ∧ z < 256 := by
  intro z hz
  unfold joinL at hz
  obtain ⟨l, hl, hzl⟩ := List.mem_flatten.1 hz
  obtain ⟨r, hr, rfl⟩ := List.mem_map.1 hl
  exact (h.2 r (List.mem_of_mem_take hr)).2 z hzl
theorem joinL_take_le (rs : List Row) (i : Nat) : (joinL (rs.take i)).length ≤ (joinL rs).length := by
  have h : joinL rs = joinL (rs.take i) ++ joinL (rs.drop i) := by
    unfold joinL
    rw [← List.flatten_append, ← List.map_append, List.take_append_drop]
  rw [h, List.length_append]
  omega
theorem joinL_small (rs : List Row) (h : RowsOk rs) : (joinL rs).length ≤ 20000 := by
  have h1 := joinL_len rs 1000 fun r hr => (h.2 r hr).1
  have h2 := h.1
  omega
set_option maxHeartbeats 2000000 in
theorem qwa_c (w0 : World) (g : Nat) (A : Option Addr) (c : Nat) (s r : List Int) (n : Int) (hl : s.length = 8) (hs : WIn s) (hri : ∀ z ∈ r, 0 ≤ z ∧ z < 256) (hr : r.length ≤ 63) (n0 : 0 ≤ n) (Ar : Option Addr) (m cr : Nat) (rs : List Row) (hrr : RdRows w0 w0.heap.size Ar m rs) (hk : RowsOk rs)
    (n1 : n + (joinL rs).length < 2305843009213693952) (w : World) (hw : Wrt w0 g A c s r n w) (hkst : Kst w0) :
    Calls Tryz.prog 126 #[.pointer (some ⟨g, 0, none⟩), .slice Ar m cr] w (RetWrN w0 g (nextS s r (joinL rs)) (nextR r (joinL rs)) (n + (joinL rs).length)) := by
  have HR := Lib.hid hrr
  have hm20 : m ≤ 20 := by rw [← hrr.1]; exact hk.1
  have HM := Lib.hid hrr.1
  have HK := Lib.hid hk
  have HKS := Lib.hid hkst
  have HJ := Lib.hid (fun i => joinL_take_le rs i)
  have HJI := Lib.hid (fun i => joinL_in rs hk i)
  have HN1 := Lib.hid n1
  have HSL := Lib.hid (fun i => nextS_len s r (joinL (rs.take i)) hl)
  have HSI := Lib.hid (fun i => nextS_in s r (joinL (rs.take i)) hs)
  have HRL := Lib.hid (fun i => nextR_len r (joinL (rs.take i)))
  have HRI := Lib.hid (fun i => nextR_in r (joinL (rs.take i)) hri (joinL_in rs hk i))
  have HMO := Lib.hid (fun i b => And.intro (nextS_more s r (joinL (rs.take i)) b) (nextR_more r (joinL (rs.take i)) b))
  have HW0 : Wrt w0 g A c (nextS s r (joinL (rs.take 0))) (nextR r (joinL (rs.take 0))) (n + ((joinL (rs.take 0)).length : Int)) w := by
    rw [List.take_zero, show joinL [] = [] from rfl, nextS_nil s r (by omega), nextR_nil r (by omega), List.length_nil, Int.natCast_zero, Int.add_zero]
    exact hw
  clear hrr hk hkst n1 hw hl hs hri hr
  go_enter Tryz.func126, Tryz.ntmps126
  go_wp2
  go_loopw [8] (fun v wr => ∃ (i : Nat) (A' : Option Addr) (c' : Nat), i ≤ m ∧ v = .int .i64 i ∧ Wrt w0 g A' c' (nextS s r (joinL (rs.take i))) (nextR r (joinL (rs.take i))) (n + ((joinL (rs.take i)).length : Int)) wr) (fun v _ => m - (intOf v).toNat)
  case atStart => exact ⟨0, A, c, by omega, rfl, HW0⟩
  case round =>
    clear HW0
    obtain ⟨i, A', c', hi, rfl, hW⟩ := hrel
    by_cases hlt : i < m
    · obtain ⟨b0, off, hAr, hb0, hcell⟩ := (HR.out.below hW.bel).2.1 (by omega)
      obtain ⟨R, hRi⟩ : ∃ R, rs[i]? = some R := ⟨_, List.getElem?_eq_getElem (by rw [HM.out]; exact hlt)⟩
      have hmem := List.mem_of_getElem? hRi
      have c0 := hcell i R hRi
      obtain ⟨hrd, hcap⟩ := (HR.out.below hW.bel).2.2 R hmem
      obtain ⟨hzl, hzi⟩ := HK.out.2 R hmem
      have hnx := joinL_next rs i R hRi
      have hle := HJ.out (i + 1)
      have hsl := HSL.out i
      have hsi := HSI.out i
      have hrl := HRL.out i
      have hri := HRI.out i
      have hmo := HMO.out i R.zs
      rw [← hnx] at hmo
      have hn1 := HN1.out
      obtain ⟨J, hJ⟩ : ∃ J, joinL (rs.take i) = J := ⟨_, rfl⟩
      obtain ⟨J1, hJ1⟩ : ∃ J, joinL (rs.take (i + 1)) = J := ⟨_, rfl⟩
      rw [hJ] at hnx hsl hsi hrl hri hmo hW
      rw [hJ1] at hnx hle hmo
      obtain ⟨σ, hσ⟩ : ∃ x, nextS s r J = x := ⟨_, rfl⟩
      obtain ⟨ρ, hρ⟩ : ∃ x, nextR r J = x := ⟨_, rfl⟩
      rw [hσ] at hsl hsi hmo hW
      rw [hρ] at hrl hri hmo hW
      obtain ⟨N, hN⟩ : ∃ N, n + (J.length : Int) = N := ⟨_, rfl⟩
      rw [hN] at hW
      obtain ⟨⟨RA, Rn, Rc, Rz⟩, hre⟩ : ∃ X : Row, R = X := ⟨_, rfl⟩
      subst hre
      dsimp only at c0 hrd hcap hzl hzi hnx hmo
      have hrzl := hrd.len
      have hJl : J1.length = J.length + Rn := by rw [hnx, List.length_append, hrzl]
      have HWR := Lib.hid (fun W h1 h2 => qwr_c w0 g A' c' σ ρ Rz N hsl hsi hri (by omega) RA Rn Rc hzi (by omega) (by omega) W h1 h2 hcap (by omega) HKS.out)
      have HRD := Lib.hid hrd
      have HWk := Lib.hid hW
      have HMOk := Lib.hid hmo
      have HNE := Lib.hid (show N + (Rn : Int) = n + ((joinL (rs.take (i + 1))).length : Int) by rw [hJ1]; omega)
      have HJ1 := Lib.hid hJ1
      have q0 : (0 : Int) ≤ (i : Int) ∧ (i : Int) < (m : Int) := by omega
      subst hAr
      clear hrd hW hmo hnx hle hsl hsi hrl hri hσ hρ hN hJ hJ1 hJl hzl hzi hmem hRi hcell hrzl hn1
      go_wp2_with (go_at_call 132; (with_reducible refine (HWR.out _ HWk.out HRD.out).mono ?_); rintro e w1 ⟨rfl, A1, c1, hW1⟩; rw [← HMOk.out.1, ← HMOk.out.2, ← HJ1.out, HNE.out] at hW1; have HW1 := Lib.hid hW1; clear hW1)
      go_roundw
      case rel => exact ⟨i + 1, A1, c1, by omega, by go_num, HW1.out⟩
      case measure => simp [intOf]; omega
    · obtain rfl : i = m := by omega
      rw [List.take_of_length_le (by rw [HM.out]; exact Nat.le_refl _)] at hW
      have HWk := Lib.hid hW
      clear hW
      go_wp2
      go_end0
      exact ⟨rfl, A', c', HWk.out⟩
theorem sha_all (J : List Int) : finL (nextS startL [] J) (nextR [] J) (0 + (J.length : Int)) = shaL J := by
  rw [Int.zero_add]
  exact sha_fin J
set_option maxHeartbeats 1000000 in
theorem qsum_c (A : Option Addr) (n c : Nat) (rs : List Row) (w : World) (hr : RdRows w w.heap.size A n rs) (hnc : n ≤ c) (hk : RowsOk rs) (hkst : Kst w) :
    Calls Tryz.prog 118 #[.slice A n c] w fun e w' => e = .returned (.agg (intsA .u8 (shaL (joinL rs)))) ∧ Below w.heap.size w w' := by
  have hJl := joinL_small rs hk
  have hJi : ∀ z ∈ joinL rs, 0 ≤ z ∧ z < 256 := by
    have := joinL_in rs hk rs.length
    rwa [List.take_length] at this
  have HR := Lib.hid hr
  have HKS := Lib.hid hkst
  have HWA := Lib.hid (fun w0 g A3 c3 h W hw k => qwa_c w0 g A3 c3 startL [] 0 rfl startL_in (by simp) (by simp) (by omega) A n c rs h hk (by omega) W hw k)
  have HHA := Lib.hid (fun w0 g A4 c4 W hw k => qhash_c w0 g A4 c4 (nextS startL [] (joinL rs)) (nextR [] (joinL rs)) (0 + ((joinL rs).length : Int)) (nextS_len _ _ _ rfl) (nextS_in _ _ _ startL_in) (nextR_in _ _ (by simp) hJi) (by omega) (by omega) (by rw [nextR_len, List.length_nil, Nat.zero_add]; omega) W hw k)
  rw [sha_all] at HHA
  have HNW := Lib.hid (fun W => qnew_c W)
  have HBG := Lib.hid (fun W => qbegin_c startL [] rfl none 0 0 0 (by omega) (by omega) W Rd.none_)
  obtain ⟨Z, hZ⟩ : ∃ Z : List Int, List.replicate 32 0 = Z := ⟨_, rfl⟩
  have HZ0 := Lib.hid zero_hash
  rw [hZ] at HZ0
  have hRl := shaL_len (joinL rs)
  obtain ⟨R, hR⟩ : ∃ R, shaL (joinL rs) = R := ⟨_, rfl⟩
  rw [hR] at HHA hRl ⊢
  have SR := Lib.hid (show (Tryz.prog.info? 26).map (·.size) = some R.length by rw [hRl]; exact size_hash)
  have ZR := Lib.hid (show Z.length = R.length by rw [hRl, ← hZ]; simp)
  obtain ⟨σ, hσ⟩ : ∃ x, nextS startL [] (joinL rs) = x := ⟨_, rfl⟩
  obtain ⟨ρ, hρ⟩ : ∃ x, nextR [] (joinL rs) = x := ⟨_, rfl⟩
  obtain ⟨N, hN⟩ : ∃ x : Int, 0 + ((joinL rs).length : Int) = x := ⟨_, rfl⟩
  rw [hσ, hρ, hN] at HWA HHA
  obtain ⟨V, hV⟩ : ∃ V, wrV startL none 0 0 0 = V := ⟨_, rfl⟩
  rw [hV] at HNW HBG
  clear hr hk hkst hJl hJi hZ hR hRl hσ hρ hN hV
  go_enter Tryz.func118, Tryz.ntmps118
  go_wp2_with (first
    | (with_reducible refine at_any ?_; refine at_dst 2 rfl ?_; refine wpList_alloc_ints rfl 26 rfl .u8 Z HZ0.out ?_; intro w1 hk1 hs1 hb1)
    | (go_at_call 125; (with_reducible refine (HNW.out _).mono ?_); rintro e w2 ⟨rfl, hb2⟩; have hk2 := Lib.hid (hk1.out.below hb2 hk1.out.lt); have bl2 := Lib.hid (hb1.trans (hb2.mono hb1.size)))
    | (go_at_call 124; (with_reducible refine (HBG.out _).mono ?_); rintro e w3 ⟨g, A3, c3, rfl, hW3⟩; have HW3 := Lib.hid hW3; clear hW3)
    | (go_at_call 126; (with_reducible refine (HWA.out w2 g A3 c3 ((HR.out.below bl2.out).monoB bl2.out.size) w3 HW3.out (HKS.out.below bl2.out)).mono ?_); rintro e w4 ⟨rfl, A4, c4, hW4⟩; have HW4 := Lib.hid hW4; clear hW4)
    | (go_at_call 127; (with_reducible refine (HHA.out w2 g A4 c4 w4 HW4.out (HKS.out.below bl2.out)).mono ?_); rintro e w5 ⟨rfl, hb5⟩; have hk5 := Lib.hid (hk2.out.below hb5 hk2.out.lt); have bl5 := Lib.hid (bl2.out.trans (hb5.mono bl2.out.size)))
    | (with_reducible refine at_any ?_; refine at_store 2 rfl ?_; refine wpList_store_ints rfl 26 (.tmp 2) (.tmp 10) rfl w.heap.size rfl 26 .u8 Z R hk5.out rfl ZR.out SR.out ?_; intro w9 hk9 hs9 hb9 ho9)
    | (refine bodyPost_cell 2 26 rfl w.heap.size rfl 26 .u8 R hk9.out _ Tryz.underlying26 rfl SR.out rfl ?_))
  exact bl5.out.trans (hb9 _ (Nat.le_refl _))
end
section
open Go.ChangeShapes Go.WideShapes Go.ChangeAt Go.RowKit
theorem qput64_c (x : Int) (h0 : 0 ≤ x) (h1 : x < 18446744073709551616) (w : World) : Calls Tryz.prog 117 #[.int .u64 x] w fun e w' => e = .returned (.agg (intsA .u8 (put8L x))) ∧ Below w.heap.size w w' :=
  (put64_c x h0 h1 w).mono fun _ _ ⟨h, h2, _⟩ => ⟨h, h2⟩
set_option maxHeartbeats 2000000 in
theorem qblock_c (s : List Int) (d i : Int) (hl : s.length = 32) (hs : ∀ z ∈ s, 0 ≤ z ∧ z < 256) (d0 : 0 ≤ d) (d1 : d < 18446744073709551616) (i0 : 0 ≤ i) (i1 : i < 18446744073709551616) (w : World) (hkst : Kst w) :
    Calls Tryz.prog 114 #[.agg (intsA .u8 s), .int .u64 d, .int .u64 i] w fun e w' => e = .returned (.agg (intsA .u8 (blkL s d i))) ∧ Below w.heap.size w w' := by
  have HPD := Lib.hid (fun W => qput64_c d d0 d1 W)
  have HPI := Lib.hid (fun W => qput64_c i i0 i1 W)
  have hin := blkIn_in s d i hs d0 d1 i0 i1
  have hxl : (put8L d).length = 8 := rfl
  have hyl : (put8L i).length = 8 := rfl
  have hX : ∀ z ∈ put8L d, 0 ≤ z ∧ z < 256 := put8L_in d d0 d1
  have hY : ∀ z ∈ put8L i, 0 ≤ z ∧ z < 256 := put8L_in i i0 i1
  have hj : blkL s d i = shaL (s ++ put8L d ++ put8L i) := rfl
  have hRl := blkL_len s d i
  obtain ⟨X, hXe⟩ : ∃ X, put8L d = X := ⟨_, rfl⟩
  obtain ⟨Y, hYe⟩ : ∃ Y, put8L i = Y := ⟨_, rfl⟩
  obtain ⟨R, hRe⟩ : ∃ R, blkL s d i = R := ⟨_, rfl⟩
  rw [hXe] at HPD hxl hX hj
  rw [hYe] at HPI hyl hY hj
  rw [hRe] at hj hRl ⊢
  obtain ⟨Z, hZ⟩ : ∃ Z : List Int, List.replicate 32 0 = Z := ⟨_, rfl⟩
  obtain ⟨V, hV⟩ : ∃ V : List Int, List.replicate 8 0 = V := ⟨_, rfl⟩
  have HZ0 := Lib.hid zero_hash
  have HV0 := Lib.hid zero_b8s
  rw [hZ] at HZ0
  rw [hV] at HV0
  have hZl : Z.length = 32 := by rw [← hZ]; simp
  have hVl : V.length = 8 := by rw [← hV]; simp
  have SR := Lib.hid (show (Tryz.prog.info? 26).map (·.size) = some R.length by rw [hRl]; exact size_hash)
  have SRA := Lib.hid (show (Tryz.prog.info? 26).map (·.size) = some (intsA .u8 R).size by rw [intsA_size, hRl]; exact size_hash)
  have ZRA := Lib.hid (show (intsA .u8 Z).size = (intsA .u8 R).size by rw [intsA_size, intsA_size, hRl, hZl])
  have SX := Lib.hid (show (Tryz.prog.info? 149).map (·.size) = some X.length by rw [hxl]; exact size_b8s)
  have SY := Lib.hid (show (Tryz.prog.info? 149).map (·.size) = some Y.length by rw [hyl]; exact size_b8s)
  have VX := Lib.hid (show V.length = X.length by rw [hxl, hVl])
  have VY := Lib.hid (show V.length = Y.length by rw [hyl, hVl])
  have HSM := Lib.hid (fun (g3 g7 g8 : Nat) A W h (k : Kst W) => qsum_c A 3 3 [⟨some ⟨g3, 0, none⟩, 32, 32, s⟩, ⟨some ⟨g7, 0, none⟩, 8, 8, X⟩, ⟨some ⟨g8, 0, none⟩, 8, 8, Y⟩] W h (Nat.le_refl _)
    ⟨by simp, fun r hr => by
      simp only [List.mem_cons, List.not_mem_nil, or_false] at hr
      rcases hr with rfl | rfl | rfl
      · exact ⟨by dsimp only; omega, hs⟩
      · exact ⟨by dsimp only; omega, hX⟩
      · exact ⟨by dsimp only; omega, hY⟩⟩ k)
  have HJ := Lib.hid (show ∀ g3 g7 g8 : Nat, shaL (joinL [⟨some ⟨g3, 0, none⟩, 32, 32, s⟩, ⟨some ⟨g7, 0, none⟩, 8, 8, X⟩, ⟨some ⟨g8, 0, none⟩, 8, 8, Y⟩]) = R from fun _ _ _ => by rw [hj]; simp [joinL])
  have HSL := Lib.hid hl
  have HXL := Lib.hid hxl
  have HYL := Lib.hid hyl
  have HKS := Lib.hid hkst
  clear hin hxl hyl hX hY hj hRl hXe hYe hRe hZ hV hZl hVl hl hs hkst
  go_enter Tryz.func114, Tryz.ntmps114
  go_wp2_with (first
    | (with_reducible refine at_any ?_; refine at_dst 3 rfl ?_; refine wpList_box_ints rfl 26 (.tmp 0) rfl .u8 s rfl ?_; intro w1 hk1 hs1 hb1; have F1 := Lib.hid (Fx.box hk1.out hb1); clear hk1 hs1 hb1)
    | (with_reducible refine at_any ?_; refine at_dst 6 rfl ?_; refine wpList_alloc_ints rfl 26 rfl .u8 Z HZ0.out ?_; intro w2 hk2 hs2 hb2; have U1 := Lib.hid (Fx.under_new F1.out rfl); have F2 := Lib.hid (Fx.new F1.out hk2.out hb2); clear hk2 hs2 F1 hb2)
    | (go_at_call 117; (with_reducible refine (HPD.out _).mono ?_); rintro e w3 ⟨rfl, hb3⟩; have F3 := Lib.hid (F2.out.below hb3); clear F2 hb3)
    | (go_at_call 117; (with_reducible refine (HPI.out _).mono ?_); rintro e w4 ⟨rfl, hb4⟩; have F4 := Lib.hid (F3.out.below hb4); clear F3 hb4)
    | (with_reducible refine at_any ?_; refine at_dst 7 rfl ?_; refine wpList_alloc_ints rfl 149 rfl .u8 V HV0.out ?_; intro w5 hk5 hs5 hb5; have U4 := Lib.hid (Fx.under_new F4.out rfl); have F5 := Lib.hid (Fx.new F4.out hk5.out hb5); clear hk5 hs5 F4 hb5)
    | (with_reducible refine at_any ?_; refine at_dst 8 rfl ?_; refine wpList_alloc_ints rfl 149 rfl .u8 V HV0.out ?_; intro w6 hk6 hs6 hb6; have U5 := Lib.hid (Fx.under_new F5.out rfl); have F6 := Lib.hid (Fx.new F5.out hk6.out hb6); clear hk6 hs6 F5 hb6)
    | (with_reducible refine at_any ?_; refine at_store 7 rfl ?_; refine wpList_store_ints rfl 149 (.tmp 7) (.tmp 10) rfl w4.heap.size rfl 149 .u8 V X (Fx.snd F6.out) rfl VX.out SX.out ?_; intro w7 hk7 hs7 hb7 ho7; have F7 := Lib.hid (Fx.put2 F6.out U5.out U4.out hk7.out hs7.out hb7 ho7); have U7 := Lib.hid (Fx.under_put U5.out (intsA .u8 X)); clear hk7 hs7 hb7 ho7 F6 U5)
    | (with_reducible refine at_any ?_; refine at_store 8 rfl ?_; refine wpList_store_ints rfl 149 (.tmp 8) (.tmp 12) rfl w5.heap.size rfl 149 .u8 V Y (Fx.fst F7.out) rfl VY.out SY.out ?_; intro w8 hk8 hs8 hb8 ho8; have F8 := Lib.hid (Fx.put1 F7.out U7.out hk8.out hs8.out hb8 ho8); clear hk8 hs8 hb8 ho8 F7))
  have hB : Blk4 w w5.heap.size w4.heap.size w1.heap.size w.heap.size Y X Z s w8 := F8.out
  have h7 : w4.heap.size < w5.heap.size := U7.out.1
  have h6 : w1.heap.size < w4.heap.size := U4.out.1
  have h3 : w.heap.size < w1.heap.size := U1.out.1
  clear F8 U7 U4 U1
  obtain ⟨g8, hg8⟩ : ∃ g, w5.heap.size = g := ⟨_, rfl⟩
  obtain ⟨g7, hg7⟩ : ∃ g, w4.heap.size = g := ⟨_, rfl⟩
  obtain ⟨g6, hg6⟩ : ∃ g, w1.heap.size = g := ⟨_, rfl⟩
  obtain ⟨g3, hg3⟩ : ∃ g, w.heap.size = g := ⟨_, rfl⟩
  have h0 : w.heap.size ≤ g3 := by omega
  rw [hg8, hg7, hg6, hg3] at hB
  rw [hg8, hg7] at h7
  rw [hg6, hg7] at h6
  rw [hg3, hg6] at h3
  rw [hg8, hg7, hg6, hg3]
  clear hg8 hg7 hg6 hg3
  refine wp_region_held_drew (S := Blk4W w g8 g7 g6 g3 Y X s) (by kernel_rfl) (hB.drew.any) (fun hS => ?_)
  have hH := hB.drew
  refine held_v 0 (some 13) rfl rfl (by kernel_rfl) (by kernel_rfl) (by kernel_rfl) (fun _ _ _ _ h => h) (by kernel_rfl) (.slice (some ⟨g3, 0, none⟩) 32 32) (fun W h => by go_simp) hS ?_
  try simp only [Act.put, List.setIfInBounds_toArray, List.set_cons_zero, List.set_cons_succ]
  refine held_v 1 (some 14) rfl rfl (by kernel_rfl) (by kernel_rfl) (by kernel_rfl) (fun _ _ _ _ h => h) (by kernel_rfl) (.slice (some ⟨g7, 0, none⟩) 8 8) (fun W h => by go_simp) hS ?_
  try simp only [Act.put, List.setIfInBounds_toArray, List.set_cons_zero, List.set_cons_succ]
  refine held_v 2 (some 15) rfl rfl (by kernel_rfl) (by kernel_rfl) (by kernel_rfl) (fun _ _ _ _ h => h) (by kernel_rfl) (.slice (some ⟨g8, 0, none⟩) 8 8) (fun W h => by go_simp) hS ?_
  try simp only [Act.put, List.setIfInBounds_toArray, List.set_cons_zero, List.set_cons_succ]
  refine wpAnyH_ready (rs := [3]) (by kernel_rfl) (by decide) ?_
  refine AllReadyH.cons rfl (fun K hK => ?_) AllReadyH.nil
  refine step_run (some 16) rfl (by kernel_rfl) _ (exec_build3 _ _ _ g3 g7 g8 32 8 8 rfl (by kernel_rfl) (by kernel_rfl) (by kernel_rfl)) ?_
  have hrow := rows3 hH.c3 hH.c7 hH.c8 HSL.out HXL.out HYL.out
  have hH9 := hH.below ((Below.refl _ _).alloc (Nat.le_refl _) (.cells (row3 g3 g7 g8 32 8 8) 23))
  refine hK.out _ _ hH9.any (fun hS => ?_)
  clear hK K
  try simp only [Act.put, List.setIfInBounds_toArray, List.set_cons_zero, List.set_cons_succ]
  refine wpAnyH_ready (rs := [4]) (by kernel_rfl) (by decide) ?_
  refine AllReadyH.cons rfl (fun K hK => ?_) AllReadyH.nil
  refine step_call (some 17) rfl (by kernel_rfl) _ _ (by kernel_rfl) _ (HSM.out g3 g7 g8 _ _ hrow (HKS.out.below hH9.bel)) ?_
  rintro e w10 ⟨rfl, hb10⟩
  rw [HJ.out g3 g7 g8]
  have hH10 := hH9.below hb10
  refine ⟨_, rfl, ?_⟩
  refine hK.out _ _ hH10.any (fun hS => ?_)
  clear hK K
  try simp only [Act.put, List.setIfInBounds_toArray, List.set_cons_zero, List.set_cons_succ]
  refine wpAnyH_ready (rs := [5]) (by kernel_rfl) (by decide) ?_
  refine AllReadyH.cons rfl (fun K hK => ?_) AllReadyH.nil
  refine step_store none rfl (by kernel_rfl) 26 (.tmp 6) (.tmp 17) rfl g6 (by kernel_rfl) 26 (intsA .u8 Z) (intsA .u8 R) hH10.c6 (by kernel_rfl) ZRA.out SRA.out (all_oneCell_toArray (ints_one .u8 R)) ?_
  intro w11 hk11 hs11 hb11 ho11
  have hH11 := hH10.put6 h6 h7 h3 h0 hk11.out hs11.out hb11 ho11
  refine hK.out _ _ hH11.any (fun hS => ?_)
  clear hK K
  try simp only [Act.put, List.setIfInBounds_toArray, List.set_cons_zero, List.set_cons_succ]
  refine wpAnyH_done (by kernel_rfl) ?_ _
  go_wp2_with (refine bodyPost_cell 6 26 rfl g6 rfl 26 .u8 R hH11.c6 _ Tryz.underlying26 rfl SR.out rfl ?_)
  exact hH11.bel
end
section
open Go.ChangeShapes Go.WideShapes Go.ChangeAt Go.RowKit
theorem and_one (x : Int) (h0 : 0 ≤ x) (h1 : x < 256) : bits .and .u64 x 1 = x % 2 := by
  have h : ∀ a : Fin 256, bits .and .u64 ((a : Nat) : Int) 1 = ((a : Nat) : Int) % 2 := by decide +kernel
  have := h ⟨x.toNat, by omega⟩
  rw [show ((⟨x.toNat, by omega⟩ : Fin 256) : Nat) = x.toNat from rfl, Int.toNat_of_nonneg h0] at this
  exact this
end
section
open Go.ChangeShapes Go.WideShapes Go.ChangeAt Go.RowKit
theorem size_bool : (Tryz.prog.info? 4).map (·.size) = some 1 := by kernel_rfl
theorem only_drewN (g : Nat) (w : World) (n : Nat) : Only g w (w.drewN n) := Only.of_below (below_drewN (Below.refl _ _) n)
theorem blk_drewN {w : World} {g : Nat} {t : TypeId} {cs : Array Value} (h : Blk w g t cs) (n : Nat) : Blk (w.drewN n) g t cs := h.below (below_drewN (Below.refl _ _) n) h.lt
set_option maxHeartbeats 4000000 in
theorem qoct1_c (g : Nat) (s : Src) (A : Option Addr) (c : Nat) (b : List Int) (h : Bool) (ok : s.Ok) (hk : s.kind = 1) (hlt : s.at_ < 8 * (s.tape.length : Int)) (hbk : BkA s b h) (w : World) (hg : Blk w g 133 (rdV s A c b h)) (hrd : Rd .u8 w w.heap.size A s.tape.length s.tape) :
    Calls Tryz.prog 109 #[.pointer (some ⟨g, 0, none⟩)] w (RetOct w g s A c) := by
  have hS : RdS g s A c w := ⟨b, h, hg, hbk.1⟩
  have c0 := hS.kind
  have c1 := hS.tape
  have c36 := hS.at_ ok.sl
  have tl := ok.tl
  obtain ⟨j, hj⟩ : ∃ j : Nat, (s.at_ / 8).toNat = j := ⟨_, rfl⟩
  have a0 := ok.a0
  have a1 := ok.a1
  have e1 : s.at_ / 8 = (j : Int) := by omega
  have hjl : j < s.tape.length := by omega
  obtain ⟨b0, off, hA, hb0, hcell⟩ := hrd.2 (by omega)
  have cj := hcell j hjl
  have hoc : octS s = s.tape.getD j 0 := by unfold octS; rw [if_neg (by omega), hj]
  obtain ⟨x, hx⟩ : ∃ x, s.tape.getD j 0 = x := ⟨_, rfl⟩
  rw [hx] at cj hoc
  rw [hk] at c0
  have HEND : Hid (∀ n, RetOct w g s A c (.returned (.int .u8 x)) (w.drewN n)) := Lib.hid fun n => ⟨b, h, by rw [hoc], blk_drewN hg n, ⟨hbk.1, hbk.2.1, fun hk2 => by rw [hk] at hk2; cases hk2⟩, only_drewN g w n⟩
  obtain ⟨L, hL⟩ : ∃ L, s.tape.length = L := ⟨_, rfl⟩
  obtain ⟨at_, hat⟩ : ∃ a, s.at_ = a := ⟨_, rfl⟩
  rw [hL] at c1 hjl tl
  rw [hat] at c36 e1 a0 a1
  have q0 : (0 : Int) ≤ (j : Int) ∧ (j : Int) < (L : Int) := by omega
  have e2 : IntKind.u64.wrap (at_.tdiv 8) = (j : Int) := by rw [Int.tdiv_eq_ediv_of_nonneg a0, e1, IntKind.wrap_u64]; omega
  subst hA
  clear hS hj hx hoc hcell hrd hg hbk hk hlt hL hat hb0 e1 ok
  go_enter Tryz.func109, Tryz.ntmps109
  go_wp2
  go_quiet (fail)
  go_wp2
  go_ret
  exact HEND.out _
set_option maxHeartbeats 4000000 in
/-- Of a stream: no block is hashed. -/
theorem qoct3_c (g : Nat) (s : Src) (A : Option Addr) (c : Nat) (b : List Int) (ok : s.Ok) (hk : s.kind = 2) (hn : s.at_ % 256 ≠ 0) (hbk : BkA s b true) (w : World) (hg : Blk w g 133 (rdV s A c b true)) :
    Calls Tryz.prog 109 #[.pointer (some ⟨g, 0, none⟩)] w (RetOct w g s A c) := by
  obtain ⟨h, hh⟩ : ∃ h, h = true := ⟨_, rfl⟩
  rw [← hh] at hg hbk
  have hS : RdS g s A c w := ⟨b, h, hg, hbk.1⟩
  have c0 := hS.kind
  have a0 := ok.a0
  have a1 := ok.a1
  rw [hk] at c0
  have hRl := blkL_len s.seed s.dom (s.at_ / 256)
  have hRi := blkL_in s.seed s.dom (s.at_ / 256)
  obtain ⟨j, hj⟩ : ∃ j : Nat, (s.at_ % 256 / 8).toNat = j := ⟨_, rfl⟩
  have e1 : s.at_ % 256 / 8 = (j : Int) := by omega
  have hj32 : j < 32 := by omega
  have hoc : octS s = (blkL s.seed s.dom (s.at_ / 256)).getD j 0 := by unfold octS; rw [if_pos hk, hj]
  have HBLK := Lib.hid (fun W k => qblock_c s.seed s.dom (s.at_ / 256) ok.sl ok.si ok.d0 ok.d1 (by omega) (by omega) W k)
  have hbR := hbk.2.2 hk hh hn
  have c69 := (hg.cell 69).trans (rdV_hashed s ok.sl A c b hbk.1 h)
  rw [hh] at c69 hg
  obtain ⟨R, hR⟩ : ∃ R, blkL s.seed s.dom (s.at_ / 256) = R := ⟨_, rfl⟩
  rw [hR] at hRl hRi hoc HBLK
  obtain ⟨x, hx⟩ : ∃ x, R.getD j 0 = x := ⟨_, rfl⟩
  rw [hx] at hoc
  have HEND : Hid (∀ hh W, Blk W g 133 (rdV s A c R hh) → Only g w W → ∀ n, RetOct w g s A c (.returned (.int .u8 x)) (W.drewN n)) := Lib.hid fun hh W hB hO n => ⟨R, hh, by rw [hoc], blk_drewN hB n, ⟨hRl, hRi, fun _ => hR.symm⟩, hO.trans (only_drewN g W n)⟩
  have C36 := Lib.hid (fun (hh : Bool) (W : World) (hB : Blk W g 133 (rdV s A c R hh)) => (hB.cell 36).trans (rdV_at s ok.sl A c R hh))
  have CJ := Lib.hid (fun (hh : Bool) (W : World) (hB : Blk W g 133 (rdV s A c R hh)) => (show W.cell? ⟨g, 37 + j, none⟩ = some (.int .u8 x) by rw [hB.cell, rdV_blk s ok.sl A c R hh j (by omega), hx]))
  have E1 := Lib.hid e1
  rw [hbR, hR] at hg
  have KV := Lib.hid hg
  have KO : Hid (Only g w w) := Lib.hid (Only.refl g w)
  have c36a := C36.out _ _ hg
  have t1 : (s.at_ % 256 == 0) = false := by rw [beq_eq_false_iff_ne]; exact hn
  obtain ⟨at_, hat⟩ : ∃ a, s.at_ = a := ⟨_, rfl⟩
  rw [hat] at a0 a1 C36 E1 c36a t1
  clear hS hj hx hoc hg hbk hk hn hat e1 hRl hRi HBLK ok hbR hR hh
  go_enter Tryz.func109, Tryz.ntmps109
  go_wp2
  clear c36a
  have c36 := C36.out _ _ KV.out
  have cj := CJ.out _ _ KV.out
  have q0 : ((j : Nat) : Int) < 32 := by omega
  have e2 : IntKind.u64.wrap ((at_.tmod 256).tdiv 8) = (j : Int) := by rw [Int.tmod_eq_emod_of_nonneg a0, Int.tdiv_eq_ediv_of_nonneg (by omega), E1.out, IntKind.wrap_u64]; omega
  go_quiet (fail)
  go_wp2
  go_ret
  exact HEND.out _ _ KV.out KO.out _
set_option maxHeartbeats 8000000 in
/-- Of a stream: a block is hashed. -/
theorem qoct2_c (g : Nat) (s : Src) (A : Option Addr) (c : Nat) (b : List Int) (h : Bool) (ok : s.Ok) (hk : s.kind = 2) (hn : h = false ∨ s.at_ % 256 = 0) (hbk : BkA s b h) (w : World) (hg : Blk w g 133 (rdV s A c b h)) (hkst : Kst w) :
    Calls Tryz.prog 109 #[.pointer (some ⟨g, 0, none⟩)] w (RetOct w g s A c) := by
  have hS : RdS g s A c w := ⟨b, h, hg, hbk.1⟩
  have c0 := hS.kind
  have a0 := ok.a0
  have a1 := ok.a1
  rw [hk] at c0
  have hRl := blkL_len s.seed s.dom (s.at_ / 256)
  have hRi := blkL_in s.seed s.dom (s.at_ / 256)
  obtain ⟨j, hj⟩ : ∃ j : Nat, (s.at_ % 256 / 8).toNat = j := ⟨_, rfl⟩
  have e1 : s.at_ % 256 / 8 = (j : Int) := by omega
  have hj32 : j < 32 := by omega
  have hoc : octS s = (blkL s.seed s.dom (s.at_ / 256)).getD j 0 := by unfold octS; rw [if_pos hk, hj]
  have HBLK := Lib.hid (fun W k => qblock_c s.seed s.dom (s.at_ / 256) ok.sl ok.si ok.d0 ok.d1 (by omega) (by omega) W k)
  have OKA1 := ok.a1
  have c69 := (hg.cell 69).trans (rdV_hashed s ok.sl A c b hbk.1 h)
  have c36a := hS.at_ ok.sl
  obtain ⟨R, hR⟩ : ∃ R, blkL s.seed s.dom (s.at_ / 256) = R := ⟨_, rfl⟩
  rw [hR] at hRl hRi hoc HBLK
  obtain ⟨x, hx⟩ : ∃ x, R.getD j 0 = x := ⟨_, rfl⟩
  rw [hx] at hoc
  have HEND : Hid (∀ hh W, Blk W g 133 (rdV s A c R hh) → Only g w W → ∀ n, RetOct w g s A c (.returned (.int .u8 x)) (W.drewN n)) := Lib.hid fun hh W hB hO n => ⟨R, hh, by rw [hoc], blk_drewN hB n, ⟨hRl, hRi, fun _ => hR.symm⟩, hO.trans (only_drewN g W n)⟩
  have C36 := Lib.hid (fun (hh : Bool) (W : World) (hB : Blk W g 133 (rdV s A c R hh)) => (hB.cell 36).trans (rdV_at s ok.sl A c R hh))
  have CJ := Lib.hid (fun (hh : Bool) (W : World) (hB : Blk W g 133 (rdV s A c R hh)) => (show W.cell? ⟨g, 37 + j, none⟩ = some (.int .u8 x) by rw [hB.cell, rdV_blk s ok.sl A c R hh j (by omega), hx]))
  have E1 := Lib.hid e1
  have HPUT := Lib.hid (rdV_put s ok.sl A c b R hbk.1 hRl h)
  have HSET := Lib.hid (rdV_set69 s ok.sl A c R hRl h true)
  have LR := Lib.hid (show 37 + (intsA .u8 R).size ≤ (rdV s A c b h).size by rw [intsA_size, hRl, rdV_size s ok.sl A c b hbk.1]; omega)
  have L69 := Lib.hid (show 69 < (rdV s A c R h).size by rw [rdV_size s ok.sl A c R hRl]; omega)
  have SR := Lib.hid (show (Tryz.prog.info? 26).map (·.size) = some (intsA .u8 R).size by rw [intsA_size, hRl]; exact size_hash)
  have OR := Lib.hid (all_oneCell_toArray (ints_one .u8 R))
  have HRL := Lib.hid hRl
  have HSL := Lib.hid ok.sl
  have SSD := Lib.hid (show (Tryz.prog.info? 26).map (·.size) = some (s.seed.map (Value.int .u8)).length by rw [List.length_map, ok.sl]; exact size_hash)
  have HKS := Lib.hid hkst
  have HQ := Lib.hid (show IntKind.u64.wrap (s.at_ / 256) = s.at_ / 256 by rw [IntKind.wrap_u64]; omega)
  have HQD := Lib.hid (show s.at_.tdiv 256 = s.at_ / 256 from Int.tdiv_eq_ediv_of_nonneg a0)
  have HSS := Lib.hid hS
  have F0 : Fx [.blk g 133 (rdV s A c b h)] w := ⟨hg, trivial⟩
  obtain ⟨V, hV⟩ : ∃ V, rdV s A c b h = V := ⟨_, rfl⟩
  rw [hV] at F0 HPUT LR
  have HF0 := Lib.hid F0
  obtain ⟨at_, hat⟩ : ∃ a, s.at_ = a := ⟨_, rfl⟩
  have HAT := Lib.hid hat
  have a2 := a0
  rw [hat] at a2 c36a E1
  have AA := Lib.hid a0
  clear hS hj hx hoc hg hbk hk hat e1 hRl hRi ok hR hV F0 hkst a0 a1
  have hn2 : h = false ∨ (h = true ∧ (at_ % 256 == 0) = true) := by
    rcases hn with h1 | h1
    · exact .inl h1
    · cases h
      · exact .inl rfl
      · exact .inr ⟨rfl, by rw [beq_iff_eq, ← HAT.out]; exact h1⟩
  clear hn
  have a3 : at_ < 18446744073709551616 := by rw [← HAT.out]; exact OKA1
  rcases hn2 with hh | ⟨hh, t1⟩
  all_goals
    rw [hh] at c69
    go_enter Tryz.func109, Tryz.ntmps109
    go_wp2
    have F0 := HF0.out.drew
    refine wp_region_held_drew (S := RdS g s A c) (by kernel_rfl) (HSS.out.drew) (fun hH => ?_)
    refine wpAnyH_letter #[false, false, false, false, false, false, false, false, false, false, false, false, false, false, false, false, false, false, false, false, false] (by kernel_rfl) (fun _ _ d _ _ h => by cases d <;> exact h) (fun QL HQ1 HQ2 => ?_)
    refine held_v 0 (some 36) rfl (by kernel_rfl) (by kernel_rfl) (by kernel_rfl) (by kernel_rfl) (fun c a v w h => HQ2.out c a _ v w h) (by kernel_rfl) (.pointer (some ⟨g, 0, none⟩)) (fun W h => by kernel_rfl) hH ?_
    try simp only [Act.put, List.setIfInBounds_toArray, List.set_cons_zero, List.set_cons_succ]
    refine held_v 1 (some 37) rfl (by kernel_rfl) (by kernel_rfl) (by kernel_rfl) (by kernel_rfl) (fun c a v w h => HQ2.out c a _ v w h) (by kernel_rfl) (.pointer (some ⟨g, 0, none⟩)) (fun W h => by kernel_rfl) hH ?_
    try simp only [Act.put, List.setIfInBounds_toArray, List.set_cons_zero, List.set_cons_succ]
    refine held_v 2 (some 38) rfl (by kernel_rfl) (by kernel_rfl) (by kernel_rfl) (by kernel_rfl) (fun c a v w h => HQ2.out c a _ v w h) (by kernel_rfl) (.pointer (some ⟨g, 0, none⟩)) (fun W h => by go_simp) hH ?_
    try simp only [Act.put, List.setIfInBounds_toArray, List.set_cons_zero, List.set_cons_succ]
    refine held_v 3 (some 39) rfl (by kernel_rfl) (by kernel_rfl) (by kernel_rfl) (by kernel_rfl) (fun c a v w h => HQ2.out c a _ v w h) (by kernel_rfl) (.pointer (some ⟨g, 0, none⟩)) (fun W h => by kernel_rfl) hH ?_
    try simp only [Act.put, List.setIfInBounds_toArray, List.set_cons_zero, List.set_cons_succ]
    refine held_v 4 (some 40) rfl (by kernel_rfl) (by kernel_rfl) (by kernel_rfl) (by kernel_rfl) (fun c a v w h => HQ2.out c a _ v w h) (by kernel_rfl) (.pointer (some ⟨g, 3, none⟩)) (fun W h => by kernel_rfl) hH ?_
    try simp only [Act.put, List.setIfInBounds_toArray, List.set_cons_zero, List.set_cons_succ]
    refine held_load_at 5 (some 41) rfl (by kernel_rfl) (by kernel_rfl) (by kernel_rfl) (by kernel_rfl) (fun c a v w h => HQ2.out c a _ v w h) (by kernel_rfl) 26 (.tmp 40) rfl g 3 (by kernel_rfl) (s.seed.map (Value.int .u8)) (fun W h => h.seed) _ Tryz.underlying26 rfl SSD.out hH ?_
    try simp only [Act.put, List.setIfInBounds_toArray, List.set_cons_zero, List.set_cons_succ]
    refine held_v 6 (some 42) rfl (by kernel_rfl) (by kernel_rfl) (by kernel_rfl) (by kernel_rfl) (fun c a v w h => HQ2.out c a _ v w h) (by kernel_rfl) (.pointer (some ⟨g, 0, none⟩)) (fun W h => by kernel_rfl) hH ?_
    try simp only [Act.put, List.setIfInBounds_toArray, List.set_cons_zero, List.set_cons_succ]
    refine held_v 7 (some 43) rfl (by kernel_rfl) (by kernel_rfl) (by kernel_rfl) (by kernel_rfl) (fun c a v w h => HQ2.out c a _ v w h) (by kernel_rfl) (.pointer (some ⟨g, 0, none⟩)) (fun W h => by go_simp) hH ?_
    try simp only [Act.put, List.setIfInBounds_toArray, List.set_cons_zero, List.set_cons_succ]
    refine held_v 8 (some 44) rfl (by kernel_rfl) (by kernel_rfl) (by kernel_rfl) (by kernel_rfl) (fun c a v w h => HQ2.out c a _ v w h) (by kernel_rfl) (.pointer (some ⟨g, 0, none⟩)) (fun W h => by kernel_rfl) hH ?_
    try simp only [Act.put, List.setIfInBounds_toArray, List.set_cons_zero, List.set_cons_succ]
    refine held_v 9 (some 45) rfl (by kernel_rfl) (by kernel_rfl) (by kernel_rfl) (by kernel_rfl) (fun c a v w h => HQ2.out c a _ v w h) (by kernel_rfl) (.pointer (some ⟨g, 35, none⟩)) (fun W h => by kernel_rfl) hH ?_
    try simp only [Act.put, List.setIfInBounds_toArray, List.set_cons_zero, List.set_cons_succ]
    refine held_v 10 (some 46) rfl (by kernel_rfl) (by kernel_rfl) (by kernel_rfl) (by kernel_rfl) (fun c a v w h => HQ2.out c a _ v w h) (by kernel_rfl) (.int .u64 s.dom) (fun W h => by have p := h.dom HSL.out; go_simp) hH ?_
    try simp only [Act.put, List.setIfInBounds_toArray, List.set_cons_zero, List.set_cons_succ]
    refine held_v 11 (some 47) rfl (by kernel_rfl) (by kernel_rfl) (by kernel_rfl) (by kernel_rfl) (fun c a v w h => HQ2.out c a _ v w h) (by kernel_rfl) (.pointer (some ⟨g, 0, none⟩)) (fun W h => by kernel_rfl) hH ?_
    try simp only [Act.put, List.setIfInBounds_toArray, List.set_cons_zero, List.set_cons_succ]
    refine held_v 12 (some 48) rfl (by kernel_rfl) (by kernel_rfl) (by kernel_rfl) (by kernel_rfl) (fun c a v w h => HQ2.out c a _ v w h) (by kernel_rfl) (.pointer (some ⟨g, 0, none⟩)) (fun W h => by go_simp) hH ?_
    try simp only [Act.put, List.setIfInBounds_toArray, List.set_cons_zero, List.set_cons_succ]
    refine held_v 13 (some 49) rfl (by kernel_rfl) (by kernel_rfl) (by kernel_rfl) (by kernel_rfl) (fun c a v w h => HQ2.out c a _ v w h) (by kernel_rfl) (.pointer (some ⟨g, 0, none⟩)) (fun W h => by kernel_rfl) hH ?_
    try simp only [Act.put, List.setIfInBounds_toArray, List.set_cons_zero, List.set_cons_succ]
    refine held_v 14 (some 50) rfl (by kernel_rfl) (by kernel_rfl) (by kernel_rfl) (by kernel_rfl) (fun c a v w h => HQ2.out c a _ v w h) (by kernel_rfl) (.pointer (some ⟨g, 36, none⟩)) (fun W h => by kernel_rfl) hH ?_
    try simp only [Act.put, List.setIfInBounds_toArray, List.set_cons_zero, List.set_cons_succ]
    refine held_v 15 (some 51) rfl (by kernel_rfl) (by kernel_rfl) (by kernel_rfl) (by kernel_rfl) (fun c a v w h => HQ2.out c a _ v w h) (by kernel_rfl) (.int .u64 s.at_) (fun W h => by have p := h.at_ HSL.out; go_simp) hH ?_
    try simp only [Act.put, List.setIfInBounds_toArray, List.set_cons_zero, List.set_cons_succ]
    refine held_v 16 (some 52) rfl (by kernel_rfl) (by kernel_rfl) (by kernel_rfl) (by kernel_rfl) (fun c a v w h => HQ2.out c a _ v w h) (by kernel_rfl) (.int .u64 (s.at_ / 256)) (fun W h => by have p := HQ.out; have p2 := HQD.out; go_simp) hH ?_
    try simp only [Act.put, List.setIfInBounds_toArray, List.set_cons_zero, List.set_cons_succ]
    refine wpAnyH_ready (rs := [17]) (by kernel_rfl) (by decide) ?_
    refine AllReadyH.cons rfl (fun K hK => ?_) AllReadyH.nil
    refine step_call (some 53) (by kernel_rfl) (by kernel_rfl) _ _ (by kernel_rfl) _ (HBLK.out _ (HKS.out.below (Below.refl _ _).drew)) ?_
    rintro e w41 ⟨rfl, hbw41⟩
    have ex42 := F0.below hbw41
    refine ⟨_, rfl, ?_⟩
    refine hK.out _ _ (hH.below hbw41) (fun hw41 => ?_)
    clear hK K
    try simp only [Act.put, List.setIfInBounds_toArray, List.set_cons_zero, List.set_cons_succ]
    refine held_v 18 (some 54) rfl (by kernel_rfl) (by kernel_rfl) (by kernel_rfl) (by kernel_rfl) (fun c a v w h => HQ2.out c a _ v w h) (by kernel_rfl) (.pointer (some ⟨g, 0, none⟩)) (fun W h => by go_simp) hw41 ?_
    try simp only [Act.put, List.setIfInBounds_toArray, List.set_cons_zero, List.set_cons_succ]
    refine held_v 19 (some 55) rfl (by kernel_rfl) (by kernel_rfl) (by kernel_rfl) (by kernel_rfl) (fun c a v w h => HQ2.out c a _ v w h) (by kernel_rfl) (.pointer (some ⟨g, 37, none⟩)) (fun W h => by kernel_rfl) hw41 ?_
    try simp only [Act.put, List.setIfInBounds_toArray, List.set_cons_zero, List.set_cons_succ]
    refine wpAnyH_ready (rs := [20]) (by kernel_rfl) (by decide) ?_
    refine AllReadyH.cons rfl (fun K hK => ?_) AllReadyH.nil
    refine step_store_off none (by kernel_rfl) (by kernel_rfl) 26 (.tmp 55) (.tmp 53) rfl g 37 (by kernel_rfl) 133 V (intsA .u8 R) ex42.1 (by kernel_rfl) LR.out SR.out OR.out ?_
    intro w43 hkw43 how43
    have HKN : Hid (Blk w43 g 133 (rdV s A c R h)) := Lib.hid (by have hh := hkw43.out; rw [HPUT.out] at hh; exact hh)
    have HON : Hid (Only g w w43) := Lib.hid ((Only.of_below (w := w.drew) hbw41).of_drew.trans how43)
    refine hK.out _ _ (⟨R, h, HKN.out, HRL.out⟩) (fun hw43 => ?_)
    clear hK K
    try simp only [Act.put, List.setIfInBounds_toArray, List.set_cons_zero, List.set_cons_succ]
    refine wpAnyH_done (by kernel_rfl) ?_ _
    refine HQ1.out _ _ ?_
    clear HQ1 HQ2
    clear c69 c36a
    go_wp2_with (with_reducible refine at_any ?_; refine at_store 58 rfl ?_; refine wpList_store_cell rfl 4 (.tmp 58) (.const (.bool true)) rfl g 69 rfl 133 (rdV s A c R h) HKN.out (.bool true) rfl L69.out size_bool rfl rfl ?_; intro w9 hk9 ho9)
    have KV := Lib.hid (show Blk w9 g 133 (rdV s A c R true) by have hh := hk9.out; rw [HSET.out] at hh; exact hh)
    have KO := Lib.hid (HON.out.trans ho9)
    have a0 := a2
    have c36 := (C36.out _ _ KV.out).trans (by rw [HAT.out])
    have cj := CJ.out _ _ KV.out
    have q0 : ((j : Nat) : Int) < 32 := by omega
    have e2 : IntKind.u64.wrap ((at_.tmod 256).tdiv 8) = (j : Int) := by rw [Int.tmod_eq_emod_of_nonneg a0, Int.tdiv_eq_ediv_of_nonneg (by omega), E1.out, IntKind.wrap_u64]; omega
    go_quiet (fail)
    go_wp2
    go_ret
    exact HEND.out _ _ KV.out KO.out _
end
section
open Go.ChangeShapes Go.WideShapes Go.ChangeAt Go.RowKit
theorem Only.of_drew_l {g : Nat} {w w' : World} (h : Only g w.drew w') : Only g w w' := h.of_drew
theorem qoctet_c (g : Nat) (s : Src) (A : Option Addr) (c : Nat) (b : List Int) (h : Bool) (ok : s.Ok) (hk : s.kind = 2 ∨ s.kind = 1 ∧ s.at_ < 8 * (s.tape.length : Int)) (hbk : BkA s b h) (w : World) (hg : Blk w g 133 (rdV s A c b h)) (hrd : Rd .u8 w w.heap.size A s.tape.length s.tape) (hkst : Kst w) :
    Calls Tryz.prog 109 #[.pointer (some ⟨g, 0, none⟩)] w (RetOct w g s A c) := by
  rcases hk with hk | ⟨hk, hlt⟩
  · by_cases hn : h = false ∨ s.at_ % 256 = 0
    · exact qoct2_c g s A c b h ok hk hn hbk w hg hkst
    · have h1 : h = true := by
        cases h
        · exact absurd (.inl rfl) hn
        · rfl
      subst h1
      exact qoct3_c g s A c b ok hk (fun h => hn (.inr h)) hbk w hg
  · exact qoct1_c g s A c b h ok hk hlt hbk w hg hrd
theorem octS_in (s : Src) (ok : s.Ok) : 0 ≤ octS s ∧ octS s < 256 := by
  unfold octS
  split
  · exact bytN_in s.seed s.dom (s.at_ / 256) _
  · rw [List.getD_eq_getElem?_getD]
    rcases h : s.tape[(s.at_ / 8).toNat]? with _ | z
    · simp
    · exact ok.ti z (List.mem_of_getElem? h)
set_option maxHeartbeats 4000000 in
theorem qbitr_c (g : Nat) (s : Src) (A : Option Addr) (c : Nat) (b : List Int) (h : Bool) (ok : s.Ok) (hk : s.kind = 2 ∨ s.kind = 1 ∧ s.at_ < 8 * (s.tape.length : Int)) (hnx : s.at_ + 1 < 18446744073709551616) (hbk : BkA s b h) (w : World) (hg : Blk w g 133 (rdV s A c b h)) (hrd : Rd .u8 w w.heap.size A s.tape.length s.tape) (hkst : Kst w) :
    Calls Tryz.prog 104 #[.pointer (some ⟨g, 0, none⟩)] w (RetNum w g (bitS s s.at_) (s.to (s.at_ + 1)) A c) := by
  have HOC := Lib.hid (fun W g1 g2 g3 => qoctet_c g s A c b h ok hk hbk W g1 g2 g3)
  have hx := octS_in s ok
  have hbit := bitS_oct s
  have a0 := ok.a0
  have a1 := ok.a1
  have HG0 := Lib.hid (blk_drewN hg 1)
  have HRD0 := Lib.hid (hrd.below (w' := w.drew) (Below.refl _ _).drew)
  have HKS0 := Lib.hid (hkst.below (Below.refl _ _).drew)
  have HSS : Hid (RdS g s A c w) := Lib.hid ⟨b, h, hg, hbk.1⟩
  obtain ⟨q, hq⟩ : ∃ q, (7 - s.at_ % 8).toNat = q := ⟨_, rfl⟩
  have e2 : 7 - s.at_ % 8 = (q : Int) := by omega
  have hq7 : q ≤ 7 := by omega
  rw [hq] at hbit
  obtain ⟨x, hxe⟩ : ∃ x, octS s = x := ⟨_, rfl⟩
  rw [hxe] at hx hbit
  have p0 := Wd.pow_pos2 q
  have y0 : 0 ≤ x / 2 ^ q := Int.ediv_nonneg hx.1 (by omega)
  have y1 : x / 2 ^ q < 256 := by have := Int.ediv_le_self (2 ^ q) hx.1; omega
  have HQM := Lib.hid (show min q 8 = q by omega)
  have HOX : Hid (octS s = x) := Lib.hid hxe
  have hYE : ∃ y, x / 2 ^ q = y := ⟨_, rfl⟩
  obtain ⟨y, hy⟩ := hYE
  rw [hy] at y0 y1 hbit
  have HM3 := Lib.hid (show octS s / 2 ^ q = y by rw [HOX.out, hy])
  have HM5 := Lib.hid (and_one y y0 y1)
  have HM4 := Lib.hid (show IntKind.u64.wrap y = y by rw [IntKind.wrap_u64]; omega)
  have HSL := Lib.hid ok.sl
  have HXE : Hid (∀ e W, RetOct w g s A c e W → RetOct w g s A c e W) := Lib.hid fun _ _ h => h
  obtain ⟨at_, hat⟩ : ∃ a, s.at_ = a := ⟨_, rfl⟩
  have HAT := Lib.hid hat
  rw [hat] at a0 a1 e2 hnx
  have HM1 := Lib.hid (show at_.tmod 8 = at_ % 8 from Int.tmod_eq_emod_of_nonneg a0)
  have HM2 := Lib.hid (show IntKind.u64.wrap (q : Int) = (q : Int) by rw [IntKind.wrap_u64]; omega)
  have HEND : Hid (∀ b2 h2 W, BkB s b2 → Blk W g 133 (rdV (s.to (at_ + 1)) A c b2 h2) → Only g w W → RetNum w g (bitS s s.at_) (s.to (s.at_ + 1)) A c (.returned (.int .u64 (y % 2))) W) := Lib.hid fun b2 h2 W hB hK hO => ⟨b2, h2, by rw [hbit], by rw [hat]; exact hK, hB.next, hO⟩
  have HST := Lib.hid (fun b2 h2 => rdV_set36 s ok.sl A c b2 h2 (at_ + 1))
  have HSZ := Lib.hid (fun b2 (hb : b2.length = 32) h2 => rdV_size s ok.sl A c b2 hb h2)
  have HC36 := Lib.hid (fun b2 h2 => rdV_at s ok.sl A c b2 h2)
  rw [hat] at HC36
  have HNX := Lib.hid (show IntKind.u64.wrap (at_ + 1) = at_ + 1 by rw [IntKind.wrap_u64]; omega)
  clear hq hxe hy hat hg hrd hkst hbk hbit ok hk p0
  go_enter Tryz.func104, Tryz.ntmps104
  go_wp2
  refine wp_region_held_drew (S := RdS g s A c) (by kernel_rfl) (HSS.out.drew) (fun hH => ?_)
  refine wpAnyH_letter #[false, false, false, false, false, false, false, false, false, false, false, false, false] (by kernel_rfl) (fun _ _ d _ _ h => by cases d <;> exact h) (fun QL HQ1 HQ2 => ?_)
  refine held_v 0 (some 4) rfl (by kernel_rfl) (by kernel_rfl) (by kernel_rfl) (by kernel_rfl) (fun c a v w h => HQ2.out c a _ v w h) (by kernel_rfl) (.pointer (some ⟨g, 0, none⟩)) (fun W h => by kernel_rfl) hH ?_
  try simp only [Act.put, List.setIfInBounds_toArray, List.set_cons_zero, List.set_cons_succ]
  refine held_v 2 (some 6) rfl (by kernel_rfl) (by kernel_rfl) (by kernel_rfl) (by kernel_rfl) (fun c a v w h => HQ2.out c a _ v w h) (by kernel_rfl) (.pointer (some ⟨g, 0, none⟩)) (fun W h => by kernel_rfl) hH ?_
  try simp only [Act.put, List.setIfInBounds_toArray, List.set_cons_zero, List.set_cons_succ]
  refine held_v 3 (some 7) rfl (by kernel_rfl) (by kernel_rfl) (by kernel_rfl) (by kernel_rfl) (fun c a v w h => HQ2.out c a _ v w h) (by kernel_rfl) (.pointer (some ⟨g, 0, none⟩)) (fun W h => by go_simp) hH ?_
  try simp only [Act.put, List.setIfInBounds_toArray, List.set_cons_zero, List.set_cons_succ]
  refine held_v 4 (some 8) rfl (by kernel_rfl) (by kernel_rfl) (by kernel_rfl) (by kernel_rfl) (fun c a v w h => HQ2.out c a _ v w h) (by kernel_rfl) (.pointer (some ⟨g, 0, none⟩)) (fun W h => by kernel_rfl) hH ?_
  try simp only [Act.put, List.setIfInBounds_toArray, List.set_cons_zero, List.set_cons_succ]
  refine held_v 5 (some 9) rfl (by kernel_rfl) (by kernel_rfl) (by kernel_rfl) (by kernel_rfl) (fun c a v w h => HQ2.out c a _ v w h) (by kernel_rfl) (.pointer (some ⟨g, 36, none⟩)) (fun W h => by kernel_rfl) hH ?_
  try simp only [Act.put, List.setIfInBounds_toArray, List.set_cons_zero, List.set_cons_succ]
  refine held_v 6 (some 10) rfl (by kernel_rfl) (by kernel_rfl) (by kernel_rfl) (by kernel_rfl) (fun c a v w h => HQ2.out c a _ v w h) (by kernel_rfl) (.int .u64 at_) (fun W h => by have p := h.at_ HSL.out; rw [HAT.out] at p; go_simp) hH ?_
  try simp only [Act.put, List.setIfInBounds_toArray, List.set_cons_zero, List.set_cons_succ]
  refine held_v 7 (some 11) rfl (by kernel_rfl) (by kernel_rfl) (by kernel_rfl) (by kernel_rfl) (fun c a v w h => HQ2.out c a _ v w h) (by kernel_rfl) (.int .u64 (at_ % 8)) (fun W h => by have p := HM1.out; go_simp) hH ?_
  try simp only [Act.put, List.setIfInBounds_toArray, List.set_cons_zero, List.set_cons_succ]
  refine held_v 8 (some 12) rfl (by kernel_rfl) (by kernel_rfl) (by kernel_rfl) (by kernel_rfl) (fun c a v w h => HQ2.out c a _ v w h) (by kernel_rfl) (.int .u64 q) (fun W h => by have p := HM2.out; go_simp) hH ?_
  try simp only [Act.put, List.setIfInBounds_toArray, List.set_cons_zero, List.set_cons_succ]
  refine wpAnyH_ready (rs := [1]) (by kernel_rfl) (by decide) ?_
  refine AllReadyH.cons rfl (fun K hK => ?_) AllReadyH.nil
  refine step_call (some 5) (by kernel_rfl) (by kernel_rfl) _ _ (by kernel_rfl) _ (HOC.out w.drew HG0.out HRD0.out HKS0.out) ?_
  rintro e w41 ⟨b2, h2, rfl, hk2, hbk2, ho2⟩
  have HK2 := Lib.hid hk2
  have HB2 := Lib.hid hbk2
  have HO2 : Hid (Only g w w41) := Lib.hid ho2.of_drew_l
  clear hk2 hbk2 ho2
  refine ⟨_, rfl, ?_⟩
  refine hK.out _ _ (⟨b2, h2, HK2.out, HB2.out.1⟩) (fun hw41 => ?_)
  clear hK K
  try simp only [Act.put, List.setIfInBounds_toArray, List.set_cons_zero, List.set_cons_succ]
  refine held_v 9 (some 13) rfl (by kernel_rfl) (by kernel_rfl) (by kernel_rfl) (by kernel_rfl) (fun c a v w h => HQ2.out c a _ v w h) (by kernel_rfl) (.int .u8 y) (fun W h => by have p := HM3.out; go_simp) hw41 ?_
  try simp only [Act.put, List.setIfInBounds_toArray, List.set_cons_zero, List.set_cons_succ]
  refine held_v 10 (some 14) rfl (by kernel_rfl) (by kernel_rfl) (by kernel_rfl) (by kernel_rfl) (fun c a v w h => HQ2.out c a _ v w h) (by kernel_rfl) (.int .u64 y) (fun W h => by have p := HM4.out; go_simp) hw41 ?_
  try simp only [Act.put, List.setIfInBounds_toArray, List.set_cons_zero, List.set_cons_succ]
  refine held_v 11 (some 15) rfl (by kernel_rfl) (by kernel_rfl) (by kernel_rfl) (by kernel_rfl) (fun c a v w h => HQ2.out c a _ v w h) (by kernel_rfl) (.int .u64 (y % 2)) (fun W h => by have p := HM5.out; go_simp) hw41 ?_
  try simp only [Act.put, List.setIfInBounds_toArray, List.set_cons_zero, List.set_cons_succ]
  refine held_v 12 (some 3) rfl (by kernel_rfl) (by kernel_rfl) (by kernel_rfl) (by kernel_rfl) (fun c a v w h => HQ2.out c a _ v w h) (by kernel_rfl) (.int .u64 (y % 2)) (fun W h => by kernel_rfl) hw41 ?_
  try simp only [Act.put, List.setIfInBounds_toArray, List.set_cons_zero, List.set_cons_succ]
  refine wpAnyH_done (by kernel_rfl) ?_ _
  refine HQ1.out _ _ ?_
  clear HQ1 HQ2
  have KV := Lib.hid HK2.out
  have L36 := Lib.hid (show 36 < (rdV s A c b2 h2).size by rw [HSZ.out _ HB2.out.1]; omega)
  have c36 := (HK2.out.cell 36).trans (HC36.out b2 h2)
  go_wp2_with (with_reducible refine at_any ?_; refine at_store 24 rfl ?_; refine wpList_store_cell rfl 24 (.tmp 24) (.tmp 21) rfl g 36 rfl 133 _ KV.out (.int .u64 (at_ + 1)) rfl L36.out size_u64s rfl rfl ?_; intro w9 hk9 ho9; have K9 := Lib.hid hk9.out; rw [HST.out] at K9; have O9 := Lib.hid (HO2.out.trans ho9); clear hk9 ho9)
  go_ret
  exact HEND.out _ _ _ HB2.out K9.out O9.out
def NumI (w : World) (g : Nat) (s : Src) (A : Option Addr) (c : Nat) (w' : World) : Prop := ∃ b h, Blk w' g 133 (rdV s A c b h) ∧ BkA s b h ∧ Only g w w'
theorem or_one (x b : Int) (x0 : 0 ≤ x) (x1 : x < 9223372036854775808) (b0 : 0 ≤ b) (b1 : b < 2) : bits .or .u64 (x * 2) b = 2 * x + b := by
  have h := Wd.u64_or_add x b 1 x0 b0 (by omega) (by omega)
  rw [show (2 : Int) ^ 1 = 2 from rfl] at h
  rw [h]
  omega
set_option maxHeartbeats 4000000 in
theorem qnumr_c (w0 : World) (g : Nat) (s : Src) (A : Option Addr) (c : Nat) (b : List Int) (h : Bool) (ok : s.Ok) (K : Nat) (hK : K ≤ 64) (hk : s.kind = 2 ∨ s.kind = 1 ∧ s.at_ + (K : Int) ≤ 8 * (s.tape.length : Int)) (hnx : s.at_ + (K : Int) < 18446744073709551616) (hbk : BkA s b h) (w : World) (hg : Blk w g 133 (rdV s A c b h)) (hrd : Rd .u8 w0 w0.heap.size A s.tape.length s.tape) (hkst : Kst w0) (hbl : Below w0.heap.size w0 w) (hg0 : w0.heap.size ≤ g) :
    Calls Tryz.prog 97 #[.pointer (some ⟨g, 0, none⟩), .int .i64 K] w (RetNum w g (numS s s.at_ K) (s.to (s.at_ + K)) A c) := by
  have a0 := ok.a0
  have HBT : Hid (∀ (i : Nat), i < K → ∀ W, NumI w g (s.to (s.at_ + i)) A c W → Calls Tryz.prog 104 #[.pointer (some ⟨g, 0, none⟩)] W fun e w' => e = .returned (.int .u64 (bitS s (s.at_ + i))) ∧ NumI w g (s.to (s.at_ + ((i + 1 : Nat) : Int))) A c w') := Lib.hid fun i hi W hI => by
    obtain ⟨b2, h2, hK2, hB2, hO2⟩ := hI
    have hbl2 : Below w0.heap.size w0 W := hbl.trans (hO2.below hg0 hbl.size)
    have hc := qbitr_c g (s.to (s.at_ + i)) A c b2 h2 (ok.to_ _ (by omega) (by omega)) (by
      rcases hk with h3 | ⟨h3, h4⟩
      · exact .inl h3
      · exact .inr ⟨h3, show s.at_ + (i : Int) < 8 * (s.tape.length : Int) by omega⟩) (show s.at_ + (i : Int) + 1 < 18446744073709551616 by omega) hB2 W hK2 ((hrd.below hbl2).mono hbl2.size) (hkst.below hbl2)
    refine hc.mono ?_
    rintro e w' ⟨b3, h3, he, hk3, hb3, ho3⟩
    refine ⟨he, b3, h3, ?_, ?_, hO2.trans ho3⟩
    · rw [show s.at_ + ((i + 1 : Nat) : Int) = (s.to (s.at_ + i)).at_ + 1 from (show s.at_ + ((i + 1 : Nat) : Int) = s.at_ + (i : Int) + 1 by omega)]
      exact hk3
    · rw [show s.at_ + ((i + 1 : Nat) : Int) = (s.to (s.at_ + i)).at_ + 1 from (show s.at_ + ((i + 1 : Nat) : Int) = s.at_ + (i : Int) + 1 by omega)]
      exact hb3
  have HI0 : NumI w g (s.to (s.at_ + ((0 : Nat) : Int))) A c w := by
    rw [Int.natCast_zero, Int.add_zero]
    exact ⟨b, h, hg, hbk, Only.refl g w⟩
  have HI := Lib.hid HI0
  have HEND : Hid (∀ W, NumI w g (s.to (s.at_ + K)) A c W → RetNum w g (numS s s.at_ K) (s.to (s.at_ + K)) A c (.returned (.int .u64 (numS s s.at_ K))) W) := Lib.hid fun W ⟨b2, h2, h3, h4, h5⟩ => ⟨b2, h2, rfl, h3, h4, h5⟩
  have HIN := Lib.hid (fun i => numS_in s s.at_ i)
  have HNX := Lib.hid (fun i => numS_succ s s.at_ i)
  have HPW := Lib.hid (fun (i : Nat) (h : i ≤ 63) => pow2_le i h)
  clear HI0 hg hrd hkst hbl hg0 hbk hk hnx ok a0
  go_enter Tryz.func97, Tryz.ntmps97
  go_wp2
  go_loopw [5, 7] (fun v cc wr => ∃ i : Nat, i ≤ K ∧ v = .int .u64 (numS s s.at_ i) ∧ cc = .int .i64 i ∧ NumI w g (s.to (s.at_ + i)) A c wr) (fun _ cc _ => K - (intOf cc).toNat)
  case atStart => exact ⟨0, by omega, rfl, rfl, HI.out⟩
  case round =>
    clear HI
    obtain ⟨i, hi, rfl, rfl, hF⟩ := hrel
    by_cases hlt : i < K
    · obtain ⟨x0, x1⟩ := HIN.out i
      have hnx := HNX.out i
      have hpw := HPW.out i (by omega)
      obtain ⟨b0, b1⟩ := bitS_in s (s.at_ + i)
      have HB := Lib.hid (fun W => HBT.out i hlt W)
      have HF := Lib.hid hF
      obtain ⟨X, hX⟩ : ∃ x, numS s s.at_ i = x := ⟨_, rfl⟩
      obtain ⟨b, hb⟩ : ∃ x, bitS s (s.at_ + i) = x := ⟨_, rfl⟩
      rw [hX, hb] at hnx
      rw [hX] at x0 x1
      rw [hb] at b0 b1 HB
      rw [hX]
      have HNXi := Lib.hid hnx
      have hxb : X < 9223372036854775808 := by omega
      have HOR := Lib.hid (or_one X b x0 hxb b0 b1)
      have e4 : IntKind.u64.wrap (2 * X) = 2 * X := by rw [IntKind.wrap_u64]; omega
      clear hnx hX hb hF hpw HBT
      go_wp2_with (go_at_call 104; (with_reducible refine (HB.out _ HF.out).mono ?_); rintro e w5 ⟨rfl, hI5⟩; have HI5 := Lib.hid hI5; clear hI5)
      go_roundw
      case rel => exact ⟨i + 1, by omega, by rw [HNXi.out, HOR.out], by go_num, HI5.out⟩
      case measure => simp [intOf]; omega
    · obtain rfl : i = K := by omega
      have HF := Lib.hid hF
      clear hF HIN HNX HPW HBT
      go_wp2
      go_ret
      exact HEND.out _ HF.out
end
section
open Go.ChangeShapes Go.WideShapes Go.ChangeAt Go.RowKit
theorem qhas_c (L : Nat) (b : Int) (tl : L ≤ 140737488355328) (A : Option Addr) (c : Nat) (w : World) : Calls Tryz.prog 55 #[.slice A L c, .int .u64 b] w fun e w' => e = .returned (.bool (decide (b ≤ 8 * (L : Int)))) ∧ w = w' := by
  have e1 : IntKind.u64.wrap ((L : Int) * 8) = L * 8 := by rw [IntKind.wrap_u64]; omega
  rw [Int.mul_comm 8]
  by_cases h1 : b ≤ (L : Int) * 8
  all_goals
    first | rw [decide_eq_true h1] | rw [decide_eq_false h1]
    go_enter Tryz.func55, Tryz.ntmps55
    go_wp2
    go_ret
    exact ⟨rfl, rfl⟩
set_option maxHeartbeats 4000000 in
theorem qsright_c (s : Src) (ok : s.Ok) (A : Option Addr) (c : Nat) (w : World) : Calls Tryz.prog 29 #[.agg (srcV s A c)] w fun e w' => e = .returned (.bool (rightS s)) ∧ Below w.heap.size w w' := by
  have HC := Lib.hid (fun (W : World) (g : Nat) (h : Blk W g 28 (srcV s A c)) => And.intro ((h.cell 0).trans (srcV_kind s A c)) (And.intro ((h.cell 1).trans (srcV_tape s A c)) (And.intro ((h.cell 2).trans (srcV_bits s A c)) ((h.cell 36).trans (srcV_at s ok.sl A c)))))
  have k0 := ok.k0
  have k1 := ok.k1
  have tl := ok.tl
  have b0 := ok.b0
  have b1 := ok.b1
  have a0 := ok.a0
  have a1 := ok.a1
  have hR : rightS s = if s.kind = 1 then decide (s.bits ≤ 8 * (s.tape.length : Int)) && decide (s.at_ ≤ s.bits) else decide (s.kind = 2) && decide (s.at_ ≤ 4611686018427387904) := rfl
  obtain ⟨V, hV⟩ : ∃ V, srcV s A c = V := ⟨_, rfl⟩
  obtain ⟨kd, hkd⟩ : ∃ x, s.kind = x := ⟨_, rfl⟩
  obtain ⟨L, hL⟩ : ∃ x, s.tape.length = x := ⟨_, rfl⟩
  obtain ⟨bt, hbt⟩ : ∃ x, s.bits = x := ⟨_, rfl⟩
  obtain ⟨at_, hat⟩ : ∃ x, s.at_ = x := ⟨_, rfl⟩
  rw [hV, hkd, hL, hbt, hat] at HC
  rw [hkd, hL, hbt, hat] at hR
  rw [hkd] at k0 k1
  rw [hL] at tl
  rw [hbt] at b0 b1
  rw [hat] at a0 a1
  rw [hV, hR]
  clear hV hkd hL hbt hat hR ok
  have HH := Lib.hid (fun W => qhas_c L bt tl A c W)
  by_cases hk : kd = 1
  · rw [if_pos hk]
    subst hk
    by_cases h1 : bt ≤ 8 * (L : Int)
    all_goals
      first | rw [decide_eq_true h1] at HH ⊢ | rw [decide_eq_false h1] at HH ⊢
      first | rw [Bool.true_and] | rw [Bool.false_and]
      go_enter Tryz.func29, Tryz.ntmps29
      go_wp2_with (first
        | (with_reducible refine at_any ?_; refine at_dst 1 rfl ?_; refine wpList_box_any rfl 28 (.tmp 0) rfl V rfl ?_; intro w1 hk1 hs1 hb1; have c0 := (HC.out _ _ hk1.out).1; have c1 := (HC.out _ _ hk1.out).2.1; have c2 := (HC.out _ _ hk1.out).2.2.1; have c3 := (HC.out _ _ hk1.out).2.2.2)
        | (go_at_call 55; (with_reducible refine (HH.out _).mono ?_); rintro e _ ⟨rfl, rfl⟩))
      go_ret
      exact ⟨rfl, hb1⟩
  · rw [if_neg hk]
    have t1 : (kd == 1) = false := by rw [beq_eq_false_iff_ne]; exact hk
    by_cases h1 : kd = 2
    all_goals
      first | rw [decide_eq_true h1] | rw [decide_eq_false h1]
      first | rw [Bool.true_and] | rw [Bool.false_and]
      first | subst h1 | (have t2 : (kd == 2) = false := by rw [beq_eq_false_iff_ne]; exact h1)
      go_enter Tryz.func29, Tryz.ntmps29
      go_wp2_with (with_reducible refine at_any ?_; refine at_dst 1 rfl ?_; refine wpList_box_any rfl 28 (.tmp 0) rfl V rfl ?_; intro w1 hk1 hs1 hb1; have c0 := (HC.out _ _ hk1.out).1; have c1 := (HC.out _ _ hk1.out).2.1; have c2 := (HC.out _ _ hk1.out).2.2.1; have c3 := (HC.out _ _ hk1.out).2.2.2)
      go_ret
      exact ⟨rfl, hb1⟩
set_option maxHeartbeats 4000000 in
theorem qsleft_c (s : Src) (ok : s.Ok) (A : Option Addr) (c : Nat) (w : World) : Calls Tryz.prog 96 #[.agg (srcV s A c)] w fun e w' => e = .returned (.int .u64 (leftS s)) ∧ Below w.heap.size w w' := by
  have HC := Lib.hid (fun (W : World) (g : Nat) (h : Blk W g 28 (srcV s A c)) => And.intro ((h.cell 0).trans (srcV_kind s A c)) (And.intro ((h.cell 2).trans (srcV_bits s A c)) ((h.cell 36).trans (srcV_at s ok.sl A c))))
  have HRT := Lib.hid (fun W => qsright_c s ok A c W)
  have SV := Lib.hid (sizedS s ok.sl A c)
  have k0 := ok.k0
  have k1 := ok.k1
  have b0 := ok.b0
  have b1 := ok.b1
  have a0 := ok.a0
  have a1 := ok.a1
  have hl := left_le ok
  have hL : leftS s = if rightS s = true then (if s.kind = 1 then s.bits - s.at_ else 4611686018427387904 - s.at_) else 0 := rfl
  obtain ⟨V, hV⟩ : ∃ V, srcV s A c = V := ⟨_, rfl⟩
  obtain ⟨kd, hkd⟩ : ∃ x, s.kind = x := ⟨_, rfl⟩
  obtain ⟨bt, hbt⟩ : ∃ x, s.bits = x := ⟨_, rfl⟩
  obtain ⟨at_, hat⟩ : ∃ x, s.at_ = x := ⟨_, rfl⟩
  obtain ⟨r, hr⟩ : ∃ x, rightS s = x := ⟨_, rfl⟩
  rw [hV, hkd, hbt, hat] at HC
  rw [hV, hr] at HRT
  rw [hV] at SV
  rw [hkd, hbt, hat, hr] at hL
  rw [hkd] at k0 k1
  rw [hbt] at b0 b1
  rw [hat] at a0 a1
  rw [hV]
  rw [hL] at hl
  rw [hL]
  clear hV hkd hbt hat hr hL ok
  cases r
  · rw [if_neg (by decide)]
    go_enter Tryz.func96, Tryz.ntmps96
    go_wp2_with (first
      | (with_reducible refine at_any ?_; refine at_dst 1 rfl ?_; refine wpList_box_any rfl 28 (.tmp 0) rfl V rfl ?_; intro w1 hk1 hs1 hb1)
      | (with_reducible refine at_any ?_; refine at_dst 3 rfl ?_; refine wpList_load_blk rfl 28 (.tmp 1) rfl w.heap.size rfl 28 V hk1.out _ Tryz.underlying28 rfl SV.out ?_)
      | (go_at_call 29; (with_reducible refine (HRT.out _).mono ?_); rintro e w2 ⟨rfl, hb2⟩))
    go_ret
    exact ⟨rfl, hb1.trans (hb2.mono hb1.size)⟩
  · rw [if_pos rfl] at hl ⊢
    by_cases hk : kd = 1
    all_goals
      first | rw [if_pos hk] at hl ⊢ | rw [if_neg hk] at hl ⊢
      first | subst hk | (have t1 : (kd == 1) = false := by rw [beq_eq_false_iff_ne]; exact hk)
      first | (have e1 : IntKind.u64.wrap (bt - at_) = bt - at_ := by rw [IntKind.wrap_u64]; omega) | (have e2 : IntKind.u64.wrap (4611686018427387904 - at_) = 4611686018427387904 - at_ := by rw [IntKind.wrap_u64]; omega)
      go_enter Tryz.func96, Tryz.ntmps96
      go_wp2_with (first
        | (with_reducible refine at_any ?_; refine at_dst 1 rfl ?_; refine wpList_box_any rfl 28 (.tmp 0) rfl V rfl ?_; intro w1 hk1 hs1 hb1)
        | (with_reducible refine at_any ?_; refine at_dst 3 rfl ?_; refine wpList_load_blk rfl 28 (.tmp 1) rfl w.heap.size rfl 28 V hk1.out _ Tryz.underlying28 rfl SV.out ?_)
        | (go_at_call 29; (with_reducible refine (HRT.out _).mono ?_); rintro e w2 ⟨rfl, hb2⟩; have k2 := hk1.out.below hb2 hk1.out.lt; have c0 := (HC.out _ _ k2).1; have c2 := (HC.out _ _ k2).2.1; have c3 := (HC.out _ _ k2).2.2))
      go_ret
      exact ⟨rfl, hb1.trans (hb2.mono hb1.size)⟩
set_option maxHeartbeats 4000000 in
theorem qstake_c (s : Src) (ok : s.Ok) (k : Int) (k0 : -9223372036854775808 ≤ k) (k1 : k < 9223372036854775808) (A : Option Addr) (c : Nat) (hc : s.tape.length ≤ c) (hcm : c ≤ maxLen) (w : World) (hrd : Rd .u8 w w.heap.size A s.tape.length s.tape) (hkst : Kst w) : Calls Tryz.prog 79 #[.agg (srcV s A c), .int .i64 k] w (RetTake w s k A) := by
  have HRT := Lib.hid (fun W => qsright_c s ok A c W)
  have HLT := Lib.hid (fun W => qsleft_c s ok A c W)
  have hll := left_le ok
  have SV := Lib.hid (sizedS s ok.sl A c)
  have OV := Lib.hid (srcV_ones s A c)
  have ZV := Lib.hid (srcV_same Src.zero s rfl ok.sl none A 0 c)
  have HZ0 := Lib.hid zero_src
  obtain ⟨Z, hZ⟩ : ∃ Z, srcV Src.zero none 0 = Z := ⟨_, rfl⟩
  rw [hZ] at ZV HZ0
  have hRd := Lib.hid hrd
  have HKS := Lib.hid hkst
  by_cases hbad : ¬ (rightS s = true ∧ 0 ≤ k ∧ k ≤ 64)
  · have hE : takeE s k = 1 := by unfold takeE; rw [if_neg hbad]
    have HEND : Hid (∀ w', Below w.heap.size w w' → RetTake w s k A (.returned (.tuple #[.int .u64 0, .agg (srcV s A c), .int .i64 1])) w') := Lib.hid (fun w' hb => ⟨A, c, by unfold takeV takeS; rw [hE]; rfl, (hRd.out.below hb).mono hb.size, hc, hcm, .inl rfl, hb⟩)
    obtain ⟨V, hV⟩ : ∃ V, srcV s A c = V := ⟨_, rfl⟩
    rw [hV] at HRT HLT SV OV ZV HEND
    rw [hV]
    have hcase : (rightS s = false) ∨ (rightS s = true ∧ k < 0) ∨ (rightS s = true ∧ ¬ k < 0 ∧ 64 < k) := by
      cases h : rightS s
      · exact .inl rfl
      · refine .inr ?_
        by_cases h0 : k < 0
        · exact .inl ⟨rfl, h0⟩
        · exact .inr ⟨rfl, h0, Decidable.byContradiction fun h7 => hbad ⟨h, by omega, by omega⟩⟩
    clear hZ hV hE hbad hll hrd hkst
    rcases hcase with hr | ⟨hr, h0⟩ | ⟨hr, h0, h6⟩
    all_goals
      rw [hr] at HRT
      go_enter Tryz.func79, Tryz.ntmps79
      go_wp2_with (first
        | (with_reducible refine at_any ?_; refine at_dst 2 rfl ?_; refine wpList_box_any rfl 28 (.tmp 0) rfl V rfl ?_; intro w1 hk1 hs1 hb1)
        | (with_reducible refine at_any ?_; refine at_dst 5 rfl ?_; refine wpList_alloc_any rfl 28 rfl Z HZ0.out ?_; intro w2 hk2 hs2 hb2; have k2 := Lib.hid (hk1.out.below hb2 hk1.out.lt); have bl2 := Lib.hid (hb1.trans (hb2.mono hb1.size)))
        | (with_reducible refine at_any ?_; refine at_dst 9 rfl ?_; refine wpList_load_blk rfl 28 (.tmp 2) rfl w.heap.size rfl 28 V k2.out _ Tryz.underlying28 rfl SV.out ?_)
        | (go_at_call 29; (with_reducible refine (HRT.out _).mono ?_); rintro e wz ⟨rfl, hbz⟩))
      have HB2 : Src2 w w.heap.size w1.heap.size V Z wz := ⟨hk2.out.below hbz hk2.out.lt, k2.out.below hbz k2.out.lt, bl2.out.trans (hbz.mono bl2.out.size), trivial⟩
      have h25 : w.heap.size < w1.heap.size := by rw [hs1.out]; omega
      obtain ⟨g2, hg2⟩ : ∃ g, w.heap.size = g := ⟨_, rfl⟩
      obtain ⟨g5, hg5⟩ : ∃ g, w1.heap.size = g := ⟨_, rfl⟩
      have h02 : w.heap.size ≤ g2 := by omega
      rw [hg2, hg5] at HB2 h25
      rw [hg2, hg5]
      clear hg2 hg5 hk1 hs1 hb1 hk2 hs2 hb2 k2 bl2 hbz
      have hS := HB2.keep.drew
      have HZ5 := HB2.old.drew
      refine wp_region_held_drew (S := (Fx [.blk g2 28 V, .bel w])) (by kernel_rfl) hS (fun hH => ?_)
      refine wpAnyH_letter #[false, false, false, false] (by kernel_rfl) (fun _ _ d _ _ h => by cases d <;> exact h) (fun QL HQ1 HQ2 => ?_)
      refine held_row 0 (some 20) rfl (by kernel_rfl) (by kernel_rfl) (by kernel_rfl) (by kernel_rfl) (fun c a v w h => HQ2.out c a _ v w h) (by kernel_rfl) 28 (.tmp 2) rfl g2 (by kernel_rfl) 28 V (fun _ h => h.1) _ Tryz.underlying28 rfl SV.out hH ?_
      try simp only [Act.put, List.setIfInBounds_toArray, List.set_cons_zero, List.set_cons_succ]
      refine held_v 1 (some 4) rfl (by kernel_rfl) (by kernel_rfl) (by kernel_rfl) (by kernel_rfl) (fun c a v w h => HQ2.out c a _ v w h) (by kernel_rfl) (.int .u64 0) (fun W h => by kernel_rfl) hH ?_
      try simp only [Act.put, List.setIfInBounds_toArray, List.set_cons_zero, List.set_cons_succ]
      refine wpAnyH_ready (rs := [2]) (by kernel_rfl) (by decide) ?_
      refine AllReadyH.cons rfl (fun K hK => ?_) AllReadyH.nil
      refine step_store none (by kernel_rfl) (by kernel_rfl) 28 (.tmp 5) (.tmp 20) rfl g5 (by kernel_rfl) 28 Z V HZ5.1 (by kernel_rfl) ZV.out SV.out OV.out ?_
      intro w41 hkw41 hsw41 hbw41 how41
      have ex42 : Fx [.blk g5 28 V] w41 := ⟨hkw41.out, trivial⟩
      refine hK.out _ _ (hH.store HZ5.1 ⟨Nat.ne_of_lt h25, Nat.le_trans h02 (Nat.le_of_lt h25), trivial⟩ hsw41.out hbw41 how41) (fun hw41 => ?_)
      clear hK K
      try simp only [Act.put, List.setIfInBounds_toArray, List.set_cons_zero, List.set_cons_succ]
      refine held_v 3 (some 6) rfl (by kernel_rfl) (by kernel_rfl) (by kernel_rfl) (by kernel_rfl) (fun c a v w h => HQ2.out c a _ v w h) (by kernel_rfl) (.int .i64 1) (fun W h => by kernel_rfl) hw41 ?_
      try simp only [Act.put, List.setIfInBounds_toArray, List.set_cons_zero, List.set_cons_succ]
      refine wpAnyH_done (by kernel_rfl) ?_ _
      refine HQ1.out _ _ ?_
      clear HQ1 HQ2
      go_wp2_with (refine bodyPost_mid 4 5 6 28 rfl g5 rfl (.int .u64 0) (.int .i64 1) rfl rfl 28 V ex42.1 _ Tryz.underlying28 rfl SV.out rfl ?_)
      exact HEND.out _ hw41.2.1
  · have hgood : rightS s = true ∧ 0 ≤ k ∧ k ≤ 64 := Decidable.of_not_not hbad
    obtain ⟨hr, kk0, kk1⟩ := hgood
    have ng0 : ¬ k < 0 := by omega
    have ng1 : ¬ 64 < k := by omega
    rw [hr] at HRT
    obtain ⟨K, rfl⟩ := Int.eq_ofNat_of_zero_le kk0
    have e3 : IntKind.u64.wrap (K : Int) = K := by rw [IntKind.wrap_u64]; omega
    clear k0 k1
    obtain ⟨lf, hlf⟩ : ∃ x, leftS s = x := ⟨_, rfl⟩
    rw [hlf] at HLT hll
    by_cases hmore : lf < (K : Int)
    · have hE : takeE s (K : Int) = 8 := by unfold takeE; rw [if_pos ⟨hr, kk0, kk1⟩, hlf, if_neg (by omega)]
      have HEND : Hid (∀ w', Below w.heap.size w w' → RetTake w s (K : Int) A (.returned (.tuple #[.int .u64 0, .agg (srcV s A c), .int .i64 8])) w') := Lib.hid (fun w' hb => ⟨A, c, by unfold takeV takeS; rw [hE]; rfl, (hRd.out.below hb).mono hb.size, hc, hcm, .inl rfl, hb⟩)
      obtain ⟨V, hV⟩ : ∃ V, srcV s A c = V := ⟨_, rfl⟩
      rw [hV] at HRT HLT SV OV ZV HEND
      rw [hV]
      clear hZ hV hE hbad hrd hlf hkst
      go_enter Tryz.func79, Tryz.ntmps79
      go_wp2_with (first
        | (with_reducible refine at_any ?_; refine at_dst 2 rfl ?_; refine wpList_box_any rfl 28 (.tmp 0) rfl V rfl ?_; intro w1 hk1 hs1 hb1)
        | (with_reducible refine at_any ?_; refine at_dst 5 rfl ?_; refine wpList_alloc_any rfl 28 rfl Z HZ0.out ?_; intro w2 hk2 hs2 hb2; have k2 := Lib.hid (hk1.out.below hb2 hk1.out.lt); have bl2 := Lib.hid (hb1.trans (hb2.mono hb1.size)))
        | (with_reducible refine at_any ?_; refine at_dst 9 rfl ?_; refine wpList_load_blk rfl 28 (.tmp 2) rfl w.heap.size rfl 28 V k2.out _ Tryz.underlying28 rfl SV.out ?_)
        | (go_at_call 29; (with_reducible refine (HRT.out _).mono ?_); rintro e wy ⟨rfl, hby⟩; have k2y := Lib.hid (k2.out.below hby k2.out.lt); have bly := Lib.hid (bl2.out.trans (hby.mono bl2.out.size)))
        | (with_reducible refine at_any ?_; refine at_dst 23 rfl ?_; refine wpList_load_blk rfl 28 (.tmp 2) rfl w.heap.size rfl 28 V k2y.out _ Tryz.underlying28 rfl SV.out ?_)
        | (go_at_call 96; (with_reducible refine (HLT.out _).mono ?_); rintro e wz ⟨rfl, hbz⟩))
      have HB2 : Src2 w w.heap.size w1.heap.size V Z wz := ⟨(hk2.out.below hby hk2.out.lt).below hbz (hk2.out.below hby hk2.out.lt).lt, k2y.out.below hbz k2y.out.lt, bly.out.trans (hbz.mono bly.out.size), trivial⟩
      have h25 : w.heap.size < w1.heap.size := by rw [hs1.out]; omega
      obtain ⟨g2, hg2⟩ : ∃ g, w.heap.size = g := ⟨_, rfl⟩
      obtain ⟨g5, hg5⟩ : ∃ g, w1.heap.size = g := ⟨_, rfl⟩
      have h02 : w.heap.size ≤ g2 := by omega
      rw [hg2, hg5] at HB2 h25
      rw [hg2, hg5]
      clear hg2 hg5 hk1 hs1 hb1 hk2 hs2 hb2 k2 bl2 hbz hby k2y bly
      have hS := HB2.keep.drew
      have HZ5 := HB2.old.drew
      refine wp_region_held_drew (S := (Fx [.blk g2 28 V, .bel w])) (by kernel_rfl) hS (fun hH => ?_)
      refine wpAnyH_letter #[false, false, false, false] (by kernel_rfl) (fun _ _ d _ _ h => by cases d <;> exact h) (fun QL HQ1 HQ2 => ?_)
      refine held_row 0 (some 26) rfl (by kernel_rfl) (by kernel_rfl) (by kernel_rfl) (by kernel_rfl) (fun c a v w h => HQ2.out c a _ v w h) (by kernel_rfl) 28 (.tmp 2) rfl g2 (by kernel_rfl) 28 V (fun _ h => h.1) _ Tryz.underlying28 rfl SV.out hH ?_
      try simp only [Act.put, List.setIfInBounds_toArray, List.set_cons_zero, List.set_cons_succ]
      refine held_v 1 (some 4) rfl (by kernel_rfl) (by kernel_rfl) (by kernel_rfl) (by kernel_rfl) (fun c a v w h => HQ2.out c a _ v w h) (by kernel_rfl) (.int .u64 0) (fun W h => by kernel_rfl) hH ?_
      try simp only [Act.put, List.setIfInBounds_toArray, List.set_cons_zero, List.set_cons_succ]
      refine wpAnyH_ready (rs := [2]) (by kernel_rfl) (by decide) ?_
      refine AllReadyH.cons rfl (fun K hK => ?_) AllReadyH.nil
      refine step_store none (by kernel_rfl) (by kernel_rfl) 28 (.tmp 5) (.tmp 26) rfl g5 (by kernel_rfl) 28 Z V HZ5.1 (by kernel_rfl) ZV.out SV.out OV.out ?_
      intro w41 hkw41 hsw41 hbw41 how41
      have ex42 : Fx [.blk g5 28 V] w41 := ⟨hkw41.out, trivial⟩
      refine hK.out _ _ (hH.store HZ5.1 ⟨Nat.ne_of_lt h25, Nat.le_trans h02 (Nat.le_of_lt h25), trivial⟩ hsw41.out hbw41 how41) (fun hw41 => ?_)
      clear hK K
      try simp only [Act.put, List.setIfInBounds_toArray, List.set_cons_zero, List.set_cons_succ]
      refine held_v 3 (some 6) rfl (by kernel_rfl) (by kernel_rfl) (by kernel_rfl) (by kernel_rfl) (fun c a v w h => HQ2.out c a _ v w h) (by kernel_rfl) (.int .i64 8) (fun W h => by kernel_rfl) hw41 ?_
      try simp only [Act.put, List.setIfInBounds_toArray, List.set_cons_zero, List.set_cons_succ]
      refine wpAnyH_done (by kernel_rfl) ?_ _
      refine HQ1.out _ _ ?_
      clear HQ1 HQ2
      go_wp2_with (refine bodyPost_mid 4 5 6 28 rfl g5 rfl (.int .u64 0) (.int .i64 8) rfl rfl 28 V ex42.1 _ Tryz.underlying28 rfl SV.out rfl ?_)
      exact HEND.out _ hw41.2.1
    · have hle : (K : Int) ≤ lf := by omega
      have hE : takeE s (K : Int) = 0 := by unfold takeE; rw [if_pos ⟨hr, kk0, kk1⟩, hlf, if_pos hle]
      have hat : s.at_ + lf < 18446744073709551616 := by
        rcases rightS_end hr with h | h
        · rw [hlf] at h; exact h.1
        · exact absurd ok h
      have a0 := ok.a0
      have hnum : takeV s (K : Int) = numS s s.at_ K := by unfold takeV; rw [if_pos hE, Int.toNat_natCast]
      have hsrc : takeS s (K : Int) = s.to (s.at_ + K) := by unfold takeS; rw [if_pos hE]
      have hkd : s.kind = 2 ∨ s.kind = 1 ∧ s.at_ + (K : Int) ≤ 8 * (s.tape.length : Int) := by
        unfold leftS at hlf
        rw [if_pos hr] at hlf
        unfold rightS at hr
        split at hr
        · rename_i h1
          rw [if_pos h1] at hlf
          simp at hr
          exact .inr ⟨h1, by omega⟩
        · simp at hr
          exact .inl hr.1
      have HNUM := Lib.hid (fun (g : Nat) (W : World) hg (hbl : Below w.heap.size w W) (hg0 : w.heap.size ≤ g) => qnumr_c w g s A c (List.replicate 32 0) false ok K (by omega) hkd (by omega) (BkA.zero s) W hg hrd hkst hbl hg0)
      have BR := Lib.hid (fun (a : Act) (o : Oper) (x : Operand) (W : World) h1 h2 => build_rd (a := a) (o := o) (x := x) W s ok.sl A c h1 h2)
      have SRV := Lib.hid (sizedR s ok.sl A c (List.replicate 32 0) (by simp) false)
      have ORV := Lib.hid (rdV_ones s A c (List.replicate 32 0) false)
      have ZRV := Lib.hid (show (rdV Src.zero none 0 (List.replicate 32 0) false).size = (rdV s A c (List.replicate 32 0) false).size by rw [rdV_size _ rfl _ _ _ (by simp), rdV_size _ ok.sl _ _ _ (by simp)])
      have HZR := Lib.hid zero_rdg
      have SV2 := Lib.hid (sizedS (s.to (s.at_ + K)) ok.sl A c)
      have OV2 := Lib.hid (srcV_ones (s.to (s.at_ + K)) A c)
      have ZV2 := Lib.hid (srcV_same Src.zero (s.to (s.at_ + K)) rfl ok.sl none A 0 c)
      have HSR := Lib.hid (fun (W : World) (g : Nat) (b : List Int) (h : Bool) (hk : Blk W g 133 (rdV (s.to (s.at_ + K)) A c b h)) => rdV_src hk)
      have HEND : Hid (∀ w', Below w.heap.size w w' → RetTake w s (K : Int) A (.returned (.tuple #[.int .u64 (numS s s.at_ K), .agg (srcV (s.to (s.at_ + K)) A c), .int .i64 0])) w') := Lib.hid (fun w' hb => ⟨A, c, by rw [hnum, hsrc, hE], (hRd.out.below hb).mono hb.size, hc, hcm, .inl rfl, hb⟩)
      rw [hZ] at ZV2
      obtain ⟨V, hV⟩ : ∃ V, srcV s A c = V := ⟨_, rfl⟩
      rw [hV] at HRT HLT SV OV ZV BR
      rw [hV]
      obtain ⟨X0, hX0⟩ : ∃ X, rdV s A c (List.replicate 32 0) false = X := ⟨_, rfl⟩
      rw [hX0] at BR SRV ORV ZRV HNUM
      obtain ⟨Y0, hY0⟩ : ∃ X, rdV Src.zero none 0 (List.replicate 32 0) false = X := ⟨_, rfl⟩
      rw [hY0] at ZRV HZR
      obtain ⟨V2, hV2⟩ : ∃ V, srcV (s.to (s.at_ + K)) A c = V := ⟨_, rfl⟩
      rw [hV2] at SV2 OV2 ZV2 HEND
      have HV2 := Lib.hid hV2
      obtain ⟨N, hN⟩ : ∃ x, numS s s.at_ K = x := ⟨_, rfl⟩
      rw [hN] at HEND HNUM
      clear hZ hV hE hbad hrd hlf hnum hsrc hkd hr hkst hX0 hY0 hV2 hN
      go_enter Tryz.func79, Tryz.ntmps79
      go_wp2_with (first
        | (with_reducible refine at_any ?_; refine at_dst 2 rfl ?_; refine wpList_box_any rfl 28 (.tmp 0) rfl V rfl ?_; intro w1 hk1 hs1 hb1)
        | (with_reducible refine at_any ?_; refine at_dst 5 rfl ?_; refine wpList_alloc_any rfl 28 rfl Z HZ0.out ?_; intro w2 hk2 hs2 hb2; have k2 := Lib.hid (hk1.out.below hb2 hk1.out.lt); have bl2 := Lib.hid (hb1.trans (hb2.mono hb1.size)))
        | (with_reducible refine at_any ?_; refine at_dst 9 rfl ?_; refine wpList_load_blk rfl 28 (.tmp 2) rfl w.heap.size rfl 28 V k2.out _ Tryz.underlying28 rfl SV.out ?_)
        | (go_at_call 29; (with_reducible refine (HRT.out _).mono ?_); rintro e wy ⟨rfl, hby⟩; have k2y := Lib.hid (k2.out.below hby k2.out.lt); have k5y := Lib.hid (hk2.out.below hby hk2.out.lt); have bly := Lib.hid (bl2.out.trans (hby.mono bl2.out.size)))
        | (with_reducible refine at_any ?_; refine at_dst 23 rfl ?_; refine wpList_load_blk rfl 28 (.tmp 2) rfl w.heap.size rfl 28 V k2y.out _ Tryz.underlying28 rfl SV.out ?_)
        | (go_at_call 96; (with_reducible refine (HLT.out _).mono ?_); rintro e wz ⟨rfl, hbz⟩; have k2z := Lib.hid (k2y.out.below hbz k2y.out.lt); have k5z := Lib.hid (k5y.out.below hbz k5y.out.lt); have blz := Lib.hid (bly.out.trans (hbz.mono bly.out.size)))
        | (with_reducible refine at_any ?_; refine at_dst 27 rfl ?_; refine wpList_load_blk rfl 28 (.tmp 2) rfl w.heap.size rfl 28 V k2z.out _ Tryz.underlying28 rfl SV.out ?_)
        | (with_reducible refine at_any ?_; refine at_dst 28 rfl ?_; refine wpList_val rfl (.agg X0) (BR.out _ _ _ _ rfl rfl) ?_)
        | (with_reducible refine at_any ?_; refine at_dst 7 rfl ?_; refine wpList_alloc_any rfl 133 rfl Y0 HZR.out ?_; intro w7 hk7 hs7 hb7; have k57 := Lib.hid (k5z.out.below hb7 k5z.out.lt); have bl7 := Lib.hid (blz.out.trans (hb7.mono blz.out.size)))
        | (with_reducible refine at_any ?_; refine at_store 7 rfl ?_; refine wpList_store_any rfl 133 (.tmp 7) (.tmp 28) rfl wz.heap.size rfl 133 Y0 X0 hk7.out rfl ZRV.out SRV.out ORV.out ?_; intro w8 hk8 hs8 hb8 ho8; have bl8 := Lib.hid (bl7.out.trans (hb8 _ blz.out.size)))
        | (go_at_call 97; (with_reducible refine (HNUM.out wz.heap.size w8 hk8.out bl8.out blz.out.size).mono ?_); rintro e w9 ⟨b9, h9, rfl, hk9, hb9, ho9⟩; have HK9 := Lib.hid hk9; have HO9 := Lib.hid ho9; clear hk9 hb9 ho9))
      have h57 : w1.heap.size < wz.heap.size := by
        have h1 := hs2.out
        have h2 := hby.size
        have h3 := hbz.size
        omega
      have h05 : w.heap.size ≤ w1.heap.size := hb1.size
      have HSRC := Lib.hid (fun (W : World) (hk : Blk W wz.heap.size 133 (rdV (s.to (s.at_ + K)) A c b9 h9)) => HSR.out W _ b9 h9 hk)
      rw [HV2.out] at HSRC
      have K9 := HK9.out
      have B9 : Below w.heap.size w w9 := bl8.out.trans (HO9.out.below blz.out.size bl8.out.size)
      have K5 : Blk w9 w1.heap.size 28 Z := Blk.only (Blk.other k57.out ho8 (Nat.ne_of_lt h57)) HO9.out (Nat.ne_of_lt h57)
      obtain ⟨X9, hX9⟩ : ∃ X, rdV (s.to (s.at_ + K)) A c b9 h9 = X := ⟨_, rfl⟩
      rw [hX9] at HSRC K9
      obtain ⟨g7, hg7⟩ : ∃ g, wz.heap.size = g := ⟨_, rfl⟩
      obtain ⟨g5, hg5⟩ : ∃ g, w1.heap.size = g := ⟨_, rfl⟩
      rw [hg7] at K9 HSRC
      rw [hg5] at K5 h05
      rw [hg7, hg5] at h57
      rw [hg7, hg5]
      have hS : Fx [.blk g7 133 X9, .bel w] w9.drew := Fx.drew ⟨K9, B9, trivial⟩
      have HZ5 : Fx [.blk g5 28 Z] w9.drew := Fx.drew ⟨K5, trivial⟩
      clear hg7 hg5 hX9 K9 K5 B9 HK9 HO9 hk1 hs1 hb1 hk2 hs2 hb2 k2 bl2 hby k2y k5y bly hbz k2z k5z blz hk7 hs7 hb7 k57 bl7 hk8 hs8 hb8 ho8 bl8
      refine wp_region_held_drew (S := (Fx [.blk g7 133 X9, .bel w])) (by kernel_rfl) hS (fun hH => ?_)
      refine wpAnyH_letter #[false, false, false, false, false, false] (by kernel_rfl) (fun _ _ d _ _ h => by cases d <;> exact h) (fun QL HQ1 HQ2 => ?_)
      refine held_v 0 (some 31) rfl (by kernel_rfl) (by kernel_rfl) (by kernel_rfl) (by kernel_rfl) (fun c a v w h => HQ2.out c a _ v w h) (by kernel_rfl) (.int .u64 N) (fun W h => by kernel_rfl) hH ?_
      try simp only [Act.put, List.setIfInBounds_toArray, List.set_cons_zero, List.set_cons_succ]
      refine held_v 1 (some 32) rfl (by kernel_rfl) (by kernel_rfl) (by kernel_rfl) (by kernel_rfl) (fun c a v w h => HQ2.out c a _ v w h) (by kernel_rfl) (.pointer (some ⟨g7, 0, none⟩)) (fun W h => by kernel_rfl) hH ?_
      try simp only [Act.put, List.setIfInBounds_toArray, List.set_cons_zero, List.set_cons_succ]
      refine held_load_arr 2 (some 33) rfl (by kernel_rfl) (by kernel_rfl) (by kernel_rfl) (by kernel_rfl) (fun c a v w h => HQ2.out c a _ v w h) (by kernel_rfl) 28 (.tmp 32) rfl g7 0 (by kernel_rfl) V2 (fun W h => HSRC.out W h.1) _ Tryz.underlying28 rfl SV2.out hH ?_
      try simp only [Act.put, List.setIfInBounds_toArray, List.set_cons_zero, List.set_cons_succ]
      refine held_v 3 (some 4) rfl (by kernel_rfl) (by kernel_rfl) (by kernel_rfl) (by kernel_rfl) (fun c a v w h => HQ2.out c a _ v w h) (by kernel_rfl) (.int .u64 N) (fun W h => by kernel_rfl) hH ?_
      try simp only [Act.put, List.setIfInBounds_toArray, List.set_cons_zero, List.set_cons_succ]
      refine wpAnyH_ready (rs := [4]) (by kernel_rfl) (by decide) ?_
      refine AllReadyH.cons rfl (fun K hK => ?_) AllReadyH.nil
      refine step_store none (by kernel_rfl) (by kernel_rfl) 28 (.tmp 5) (.tmp 33) rfl g5 (by kernel_rfl) 28 Z V2 HZ5.1 (by kernel_rfl) ZV2.out SV2.out OV2.out ?_
      intro w41 hkw41 hsw41 hbw41 how41
      have ex42 : Fx [.blk g5 28 V2] w41 := ⟨hkw41.out, trivial⟩
      refine hK.out _ _ (hH.store HZ5.1 ⟨Nat.ne_of_gt h57, h05, trivial⟩ hsw41.out hbw41 how41) (fun hw41 => ?_)
      clear hK K
      try simp only [Act.put, List.setIfInBounds_toArray, List.set_cons_zero, List.set_cons_succ]
      refine held_v 5 (some 6) rfl (by kernel_rfl) (by kernel_rfl) (by kernel_rfl) (by kernel_rfl) (fun c a v w h => HQ2.out c a _ v w h) (by kernel_rfl) (.int .i64 0) (fun W h => by kernel_rfl) hw41 ?_
      try simp only [Act.put, List.setIfInBounds_toArray, List.set_cons_zero, List.set_cons_succ]
      refine wpAnyH_done (by kernel_rfl) ?_ _
      refine HQ1.out _ _ ?_
      clear HQ1 HQ2
      go_wp2_with (refine bodyPost_mid 4 5 6 28 rfl g5 rfl (.int .u64 N) (.int .i64 0) rfl rfl 28 V2 ex42.1 _ Tryz.underlying28 rfl SV2.out rfl ?_)
      exact HEND.out _ hw41.2.1
end
section
open Go.ChangeShapes Go.WideShapes Go.ChangeAt Go.RowKit
theorem q8bound_c (n : Int) (n0 : 0 ≤ n) (n1 : n < 18446744073709551616) (w : World) : Calls Tryz.prog 77 #[.int .u64 n] w fun e w' => e = .returned (.bool (decide (1 ≤ n ∧ n < 9223372036854775808))) ∧ w = w' := by
  by_cases h1 : 1 ≤ n
  · by_cases h2 : n < 9223372036854775808
    · rw [decide_eq_true ⟨h1, h2⟩]
      go_enter Tryz.func77, Tryz.ntmps77
      go_wp2
      go_ret
      exact ⟨rfl, rfl⟩
    · rw [decide_eq_false (fun h => h2 h.2)]
      go_enter Tryz.func77, Tryz.ntmps77
      go_wp2
      go_ret
      exact ⟨rfl, rfl⟩
  · rw [decide_eq_false (fun h => h1 h.1)]
    go_enter Tryz.func77, Tryz.ntmps77
    go_wp2
    go_ret
    exact ⟨rfl, rfl⟩
set_option maxHeartbeats 8000000 in
theorem q8draw_c (s : Src) (ok : s.Ok) (n : Int) (n0 : 0 ≤ n) (n1 : n < 18446744073709551616) (a : Int) (a0 : -9223372036854775808 ≤ a) (a1 : a < 9223372036854775808) (A0 : Option Addr) (c0 : Nat) (hc : s.tape.length ≤ c0) (hcm : c0 ≤ maxLen) (w : World) (hrd : Rd .u8 w w.heap.size A0 s.tape.length s.tape) (hkst : Kst w) : Calls Tryz.prog 57 #[.agg (srcV s A0 c0), .int .u64 n, .int .i64 a] w (RetDraw w s A0 (drawR s n a)) := by
  have HRT := Lib.hid (fun W => qsright_c s ok A0 c0 W)
  have HBD := Lib.hid (fun W => q8bound_c n n0 n1 W)
  have HZ0 := Lib.hid zero_src
  have hRd := Lib.hid hrd
  have HKS := Lib.hid hkst
  have HZSS := Lib.hid (fun (t : Src) (h : t.seed.length = 32) A c => srcV_same Src.zero t rfl h none A 0 c)
  obtain ⟨Z, hZ⟩ : ∃ Z, srcV Src.zero none 0 = Z := ⟨_, rfl⟩
  rw [hZ] at HZ0 HZSS
  by_cases hbad : ¬ drawB s n a = true
  · have hE : drawR s n a = (0, s, 1) := by unfold drawR; rw [if_neg hbad]
    have HEND : Hid (∀ w', RdP A0 s.tape.length s.tape w' → Below w.heap.size w w' → RetDraw w s A0 (drawR s n a) (.returned (.tuple #[.int .u64 0, .agg (srcV s A0 c0), .int .i64 1])) w') := Lib.hid (fun w' hr hb => ⟨A0, c0, by rw [hE], hr, hc, hcm, .inl rfl, hb⟩)
    have hcase : (rightS s = false) ∨ (rightS s = true ∧ decide (1 ≤ n ∧ n < 9223372036854775808) = false) ∨ (rightS s = true ∧ decide (1 ≤ n ∧ n < 9223372036854775808) = true ∧ a < 1) ∨ (rightS s = true ∧ decide (1 ≤ n ∧ n < 9223372036854775808) = true ∧ ¬ a < 1 ∧ 64 < a) := by
      cases h : rightS s
      · exact .inl rfl
      · refine .inr ?_
        by_cases h1 : 1 ≤ n ∧ n < 9223372036854775808
        · refine .inr ?_
          by_cases h3 : a < 1
          · exact .inl ⟨rfl, decide_eq_true h1, h3⟩
          · refine .inr ⟨rfl, decide_eq_true h1, h3, Decidable.byContradiction fun h4 => hbad ?_⟩
            unfold drawB
            rw [h, Bool.true_and]
            exact decide_eq_true ⟨h1.1, h1.2, by omega, by omega⟩
        · exact .inl ⟨rfl, decide_eq_false h1⟩
    have SV := Lib.hid (sizedS s ok.sl A0 c0)
    have OV := Lib.hid (srcV_ones s A0 c0)
    have ZV := Lib.hid (HZSS.out s ok.sl A0 c0)
    obtain ⟨V, hV⟩ : ∃ V, srcV s A0 c0 = V := ⟨_, rfl⟩
    rw [hV] at HRT HEND SV OV ZV
    rw [hV]
    obtain ⟨rr, hrr⟩ : ∃ r, drawR s n a = r := ⟨_, rfl⟩
    rw [hrr] at HEND ⊢
    obtain ⟨bd, hbd⟩ : ∃ b, decide (1 ≤ n ∧ n < 9223372036854775808) = b := ⟨_, rfl⟩
    rw [hbd] at HBD hcase
    clear hZ hV hE hbad hrd hkst hrr hbd
    rcases hcase with hr | ⟨hr, rfl⟩ | ⟨hr, rfl, h3⟩ | ⟨hr, rfl, h3, h4⟩
    all_goals
      rw [hr] at HRT
      go_enter Tryz.func57, Tryz.ntmps57
      go_wp2_with (first
        | (with_reducible refine at_any ?_; refine at_dst 3 rfl ?_; refine wpList_box_any rfl 28 (.tmp 0) rfl V rfl ?_; intro w1 hk1 hs1 hb1)
        | (with_reducible refine at_any ?_; refine at_dst 7 rfl ?_; refine wpList_alloc_any rfl 28 rfl Z HZ0.out ?_; intro w2 hk2 hs2 hb2; have k2 := Lib.hid (hk1.out.below hb2 hk1.out.lt))
        | (with_reducible refine at_any ?_; refine at_dst 13 rfl ?_; refine wpList_load_blk rfl 28 (.tmp 3) rfl w.heap.size rfl 28 V k2.out _ Tryz.underlying28 rfl SV.out ?_)
        | (go_at_call 29; (with_reducible refine (HRT.out _).mono ?_); rintro e wz ⟨rfl, hbz⟩)
        | (go_at_call 77; (with_reducible refine (HBD.out _).mono ?_); rintro e _ ⟨rfl, rfl⟩))
      have HS := DrS.mk2 hRd.out hk1.out hb1 hk2.out hb2 hbz
      have HZ : Fx [.blk w1.heap.size 28 Z] wz := ⟨hk2.out.below hbz hk2.out.lt, trivial⟩
      obtain ⟨g3, hg3⟩ : ∃ g, w.heap.size = g := ⟨_, rfl⟩
      obtain ⟨g7, hg7⟩ : ∃ g, w1.heap.size = g := ⟨_, rfl⟩
      obtain ⟨zs, hzs⟩ : ∃ zs, s.tape = zs := ⟨_, rfl⟩
      obtain ⟨L, hL⟩ : ∃ L, zs.length = L := ⟨_, rfl⟩
      rw [hzs, hL] at HEND
      rw [hg3, hg7, hzs, hL] at HS
      rw [hg7] at HZ
      rw [hg3, hg7]
      clear hg3 hg7 hzs hL hk1 hs1 hb1 hk2 hs2 hb2 k2 hbz
      have HZ7 := HZ.drew
      refine wp_region_held_drew (S := (DrS w g3 g7 V A0 L zs)) (by kernel_rfl) HS.drew (fun hH => ?_)
      refine wpAnyH_letter #[false, false, false, false] (by kernel_rfl) (fun _ _ d _ _ h => by cases d <;> exact h) (fun QL HQ1 HQ2 => ?_)
      refine held_row 0 (some 29) rfl (by kernel_rfl) (by kernel_rfl) (by kernel_rfl) (by kernel_rfl) (fun c a v w h => HQ2.out c a _ v w h) (by kernel_rfl) 28 (.tmp 3) rfl g3 (by kernel_rfl) 28 V (fun _ h => h.blk) _ Tryz.underlying28 rfl SV.out hH ?_
      try simp only [Act.put, List.setIfInBounds_toArray, List.set_cons_zero, List.set_cons_succ]
      refine held_v 1 (some 6) rfl (by kernel_rfl) (by kernel_rfl) (by kernel_rfl) (by kernel_rfl) (fun c a v w h => HQ2.out c a _ v w h) (by kernel_rfl) (.int .u64 0) (fun W h => by kernel_rfl) hH ?_
      try simp only [Act.put, List.setIfInBounds_toArray, List.set_cons_zero, List.set_cons_succ]
      refine wpAnyH_ready (rs := [2]) (by kernel_rfl) (by decide) ?_
      refine AllReadyH.cons rfl (fun K hK => ?_) AllReadyH.nil
      refine step_store none (by kernel_rfl) (by kernel_rfl) 28 (.tmp 7) (.tmp 29) rfl g7 (by kernel_rfl) 28 Z V HZ7.1 (by kernel_rfl) ZV.out SV.out OV.out ?_
      intro w41 hkw41 hsw41 hbw41 how41
      have ex42 : Fx [.blk g7 28 V] w41 := ⟨hkw41.out, trivial⟩
      refine hK.out _ _ (hH.store HZ7.1 hH.store7 hsw41.out hbw41 how41) (fun hw41 => ?_)
      clear hK K
      try simp only [Act.put, List.setIfInBounds_toArray, List.set_cons_zero, List.set_cons_succ]
      refine held_v 3 (some 8) rfl (by kernel_rfl) (by kernel_rfl) (by kernel_rfl) (by kernel_rfl) (fun c a v w h => HQ2.out c a _ v w h) (by kernel_rfl) (.int .i64 1) (fun W h => by kernel_rfl) hw41 ?_
      try simp only [Act.put, List.setIfInBounds_toArray, List.set_cons_zero, List.set_cons_succ]
      refine wpAnyH_done (by kernel_rfl) ?_ _
      refine HQ1.out _ _ ?_
      clear HQ1 HQ2
      go_wp2_with (refine bodyPost_mid 6 7 8 28 rfl g7 rfl (.int .u64 0) (.int .i64 1) rfl rfl 28 V ex42.1 _ Tryz.underlying28 rfl SV.out rfl ?_)
      exact HEND.out _ hw41.rd hw41.bel
  · have hgood : drawB s n a = true := Decidable.of_not_not hbad
    have hE : drawR s n a = drawGo (needN n) n a.toNat s := by unfold drawR; rw [if_pos hgood]
    obtain ⟨hr, hd⟩ : rightS s = true ∧ decide (1 ≤ n ∧ n < 9223372036854775808 ∧ 1 ≤ a ∧ a ≤ 64) = true := by unfold drawB at hgood; rwa [Bool.and_eq_true] at hgood
    obtain ⟨nn0, nn1, aa0, aa1⟩ := of_decide_eq_true hd
    rw [decide_eq_true ⟨nn0, nn1⟩] at HBD
    have h3 : ¬ a < 1 := by omega
    have h4 : ¬ 64 < a := by omega
    have hk64 := needN_le n n0 n1
    have HND := Lib.hid (fun W => q8need_c n n0 n1 W)
    obtain ⟨k, hk⟩ : ∃ k, needN n = k := ⟨_, rfl⟩
    rw [hk] at hE hk64 HND
    rw [hE]
    obtain ⟨a, rfl⟩ := Int.eq_ofNat_of_zero_le (show 0 ≤ a by omega)
    rw [Int.toNat_natCast]
    rw [hr] at HRT
    have HTAKE := Lib.hid (fun (t : Src) (okt : t.Ok) (A : Option Addr) (c : Nat) (h1 : t.tape.length ≤ c) (h2 : c ≤ maxLen) (W : World) (h3 : Rd .u8 W W.heap.size A t.tape.length t.tape) (kk : Kst W) => qstake_c t okt (k : Int) (by omega) (by omega) A c h1 h2 W h3 kk)
    have SV := Lib.hid (sizedS s ok.sl A0 c0)
    have HL0 : Hid (∀ g3 g7 W, DrS w g3 g7 (srcV s A0 c0) A0 s.tape.length s.tape W → Fx [.blk g7 28 Z] W → DrL w g3 g7 s k n a A0 Z 0 W) := Lib.hid (fun g3 g7 W h1 h2 => ⟨s, A0, c0, rfl, ok, rfl, h1, h2, .inl rfl, hc, hcm⟩)
    obtain ⟨V, hV⟩ : ∃ V, srcV s A0 c0 = V := ⟨_, rfl⟩
    rw [hV] at HRT SV HL0
    rw [hV]
    obtain ⟨rr, hrr⟩ : ∃ r, drawGo k n a s = r := ⟨_, rfl⟩
    rw [hrr]
    have HRR := Lib.hid hrr
    clear hZ hV hE hbad hrd hkst hrr hgood hd hr hk a0 a1 aa0 hc hcm
    have aa2 : a ≤ 64 := by omega
    clear aa1
    go_enter Tryz.func57, Tryz.ntmps57
    go_wp2_with (first
      | (with_reducible refine at_any ?_; refine at_dst 3 rfl ?_; refine wpList_box_any rfl 28 (.tmp 0) rfl V rfl ?_; intro w1 hk1 hs1 hb1)
      | (with_reducible refine at_any ?_; refine at_dst 7 rfl ?_; refine wpList_alloc_any rfl 28 rfl Z HZ0.out ?_; intro w2 hk2 hs2 hb2; have k2 := Lib.hid (hk1.out.below hb2 hk1.out.lt))
      | (with_reducible refine at_any ?_; refine at_dst 13 rfl ?_; refine wpList_load_blk rfl 28 (.tmp 3) rfl w.heap.size rfl 28 V k2.out _ Tryz.underlying28 rfl SV.out ?_)
      | (go_at_call 29; (with_reducible refine (HRT.out _).mono ?_); rintro e wz ⟨rfl, hbz⟩)
      | (go_at_call 77; (with_reducible refine (HBD.out _).mono ?_); rintro e _ ⟨rfl, rfl⟩)
      | (go_at_call 78; (with_reducible refine (HND.out _).mono ?_); rintro e _ ⟨rfl, rfl⟩))
    have HS := DrS.mk2 hRd.out hk1.out hb1 hk2.out hb2 hbz
    have HZ : Fx [.blk w1.heap.size 28 Z] wz := ⟨hk2.out.below hbz hk2.out.lt, trivial⟩
    have HL := Lib.hid (HL0.out _ _ _ HS HZ)
    obtain ⟨g3, hg3⟩ : ∃ g, w.heap.size = g := ⟨_, rfl⟩
    obtain ⟨g7, hg7⟩ : ∃ g, w1.heap.size = g := ⟨_, rfl⟩
    rw [hg3, hg7] at HL
    rw [hg3, hg7]
    clear hg3 hg7 hk1 hs1 hb1 hk2 hs2 hb2 k2 hbz HS HZ HL0 HRT SV HBD h3 h4
    go_loopw [33] (fun cc wr => ∃ i : Nat, i ≤ a ∧ cc = .int .i64 i ∧ DrL w g3 g7 s k n a A0 Z i wr) (fun cc _ => a - (intOf cc).toNat)
    case atStart => exact ⟨0, by omega, rfl, HL.out⟩
    case round =>
      clear HL
      obtain ⟨i, hi, rfl, si, A, c, hgo, oki, htp, HS, HZ, hsp, hcl, hcm⟩ := hrel
      have SV := Lib.hid (sizedS si oki.sl A c)
      have OV := Lib.hid (srcV_ones si A c)
      have ZV := Lib.hid (HZSS.out si oki.sl A c)
      have HSP := Lib.hid hsp
      rw [HRR.out] at hgo
      by_cases hlt : i < a
      · have HTK := Lib.hid (fun (W : World) (h3 : RdP A s.tape.length s.tape W) (kk : Kst W) => HTAKE.out si oki A c (by rw [htp]; exact hcl) hcm W (by rw [htp]; exact h3) kk)
        have hst : a - i = a - i - 1 + 1 := by omega
        rw [hst] at hgo
        have hti := takeE_in si k
        have hvi := takeV_in si k
        have htok := takeS_ok oki k
        have http := takeS_tape si k
        rw [htp] at http
        have hgz : takeE si k ≠ 0 → rr = (0, si, takeE si k) := fun h => by rw [hgo, drawGo_err h]
        have hgh : takeE si k = 0 → takeV si k < n → rr = (takeV si k, takeS si k, 0) := fun h h2 => by rw [hgo, drawGo_hit h h2]
        have hgm : takeE si k = 0 → ¬ takeV si k < n → rr = drawGo k n (a - (i + 1)) (takeS si k) := fun h h2 => by rw [hgo, drawGo_miss h h2, show a - i - 1 = a - (i + 1) by omega]
        have hsi : takeE si k ≠ 0 → takeS si k = si := fun h => by unfold takeS; rw [if_neg h]
        unfold RetTake at HTK
        rw [htp] at HTK
        obtain ⟨X, hX⟩ : ∃ X, takeV si k = X := ⟨_, rfl⟩
        obtain ⟨E, hE⟩ : ∃ E, takeE si k = E := ⟨_, rfl⟩
        obtain ⟨t, ht⟩ : ∃ t, takeS si k = t := ⟨_, rfl⟩
        rw [hX, hE, ht] at HTK
        rw [hX] at hvi hgh hgm
        rw [hE] at hti hgz hgh hgm hsi
        rw [ht] at htok http hgh hgm hsi
        have ST := Lib.hid (fun A c => sizedS t htok.sl A c)
        have OT := Lib.hid (fun A c => srcV_ones t A c)
        have ZT := Lib.hid (fun A c => HZSS.out t htok.sl A c)
        obtain ⟨zs, hzs⟩ : ∃ zs, s.tape = zs := ⟨_, rfl⟩
        obtain ⟨L, hL⟩ : ∃ L, zs.length = L := ⟨_, rfl⟩
        have HG1 : Hid (∀ A2 c2 g11 W, DrS w g3 g7 (srcV si A c) A L zs W → Blk W g7 28 Z → Blk W g11 28 (srcV t A2 c2) → RdP A2 L zs W → Apt L A2 g3 → Apt L A2 g7 → Sep w A0 A2 → L ≤ c2 → c2 ≤ maxLen → g3 ≠ g11 → g7 ≠ g11 → True) := Lib.hid (fun _ _ _ _ _ _ _ _ _ _ _ _ _ _ _ => trivial)
        have HEZ : Hid (E ≠ 0 → ∀ w', RdP A L zs w' → Below w.heap.size w w' → RetDraw w s A0 rr (.returned (.tuple #[.int .u64 0, .agg (srcV si A c), .int .i64 E])) w') := Lib.hid (fun h w' hr hb => ⟨A, c, by rw [hgz h], by rw [hzs, hL]; exact hr, hcl, hcm, hsp, hb⟩)
        have HEH : Hid (E = 0 → X < n → ∀ A2 c2 w', Sep w A0 A2 → L ≤ c2 → c2 ≤ maxLen → RdP A2 L zs w' → Below w.heap.size w w' → RetDraw w s A0 rr (.returned (.tuple #[.int .u64 X, .agg (srcV t A2 c2), .int .i64 0])) w') := Lib.hid (fun h h2 A2 c2 w' h3 h4 h5 hr hb => ⟨A2, c2, by rw [hgh h h2], by rw [hzs, hL]; exact hr, by rw [hzs, hL]; exact h4, h5, h3, hb⟩)
        have HEM : Hid (E = 0 → ¬ X < n → ∀ A2 c2 W, DrS w g3 g7 (srcV t A2 c2) A2 L zs W → Fx [.blk g7 28 Z] W → Sep w A0 A2 → L ≤ c2 → c2 ≤ maxLen → DrL w g3 g7 s k n a A0 Z (i + 1) W) := Lib.hid (fun h h2 A2 c2 W h3 h4 h5 h6 h7 => ⟨t, A2, c2, by rw [HRR.out]; exact hgm h h2, htok, by rw [http, hzs], by rw [hzs, hL]; exact h3, h4, h5, by rw [hzs, hL]; exact h6, h7⟩)
        rw [hzs, hL] at HTK
        rw [hzs, hL] at HS hcl
        clear hgo oki htp hsp hst htok http hgz hgh hgm hsi hX hE ht hzs hL HG1
        obtain ⟨V, hV⟩ : ∃ V, srcV si A c = V := ⟨_, rfl⟩
        rw [hV] at SV OV ZV HS HTK HEZ
        clear hV HTAKE HZSS
        by_cases hE0 : E = 0
        · have t1 : (E == 0) = true := by rw [beq_iff_eq]; exact hE0
          have t2 : (E != 0) = false := by rw [bne, t1]; rfl
          by_cases hx : X < n
          · have t0 : True := trivial
            go_wp2_with (first
              | (with_reducible refine at_any ?_; refine at_dst 36 rfl ?_; refine wpList_load_blk rfl 28 (.tmp 3) rfl g3 rfl 28 V HS.blk _ Tryz.underlying28 rfl SV.out ?_)
              | (go_at_call 79; (with_reducible refine (HTK.out _ HS.rd (HKS.out.below HS.bel)).mono ?_); rintro e w5 ⟨A2, c2, rfl, hrd2, hc2, hm2, hsp2, hb5⟩; obtain ⟨V2, hV2⟩ : ∃ V2, srcV t A2 c2 = V2 := ⟨_, rfl⟩; have SV2 := Lib.hid (ST.out A2 c2); have OV2 := Lib.hid (OT.out A2 c2); have ZV2 := Lib.hid (ZT.out A2 c2); have HM2 := Lib.hid (fun h h2 W h3 h4 => HEM.out h h2 A2 c2 W h3 h4 (Sep.trans HSP.out hsp2 HS.bel.size) hc2 hm2); have HH2 := Lib.hid (fun h h2 w' h3 h4 => HEH.out h h2 A2 c2 w' (Sep.trans HSP.out hsp2 HS.bel.size) hc2 hm2 h3 h4); rw [hV2] at SV2 OV2 ZV2 HM2 HH2 ⊢; clear hV2 hc2 hm2)
              | (with_reducible refine at_any ?_; refine at_dst 11 rfl ?_; refine wpList_alloc_any rfl 28 rfl Z HZ0.out ?_; intro w6 hk6 hs6 hb6)
              | (with_reducible refine at_any ?_; refine at_store 11 rfl ?_; refine wpList_store_any rfl 28 (.tmp 11) (.tmp 40) rfl w5.heap.size rfl 28 Z V2 hk6.out rfl ZV2.out SV2.out OV2.out ?_; intro w7 hk7 hs7 hb7 ho7; have T := Lib.hid (HS.took HZ hrd2 hsp2 hb5 hb6 hk6.out hk7.out hs7.out hb7 ho7)))
            obtain ⟨-, HZ, -, -, -, HD⟩ := T.out
            obtain ⟨g11, hg11⟩ : ∃ g, w5.heap.size = g := ⟨_, rfl⟩
            rw [hg11] at HD
            try rw [hg11]
            have HZ7 := HZ.drew
            refine wp_region_held_drew (S := (DrH w g7 g11 V2 A2 L zs)) (by kernel_rfl) HD.drew (fun hH => ?_)
            refine wpAnyH_letter #[false, false, false, false, false] (by kernel_rfl) (fun _ _ d _ _ h => by cases d <;> exact h) (fun QL HQ1 HQ2 => ?_)
            refine held_v 0 (some 49) rfl (by kernel_rfl) (by kernel_rfl) (by kernel_rfl) (by kernel_rfl) (fun c a v w h => HQ2.out c a _ v w h) (by kernel_rfl) (.int .u64 X) (fun W h => by kernel_rfl) hH ?_
            try simp only [Act.put, List.setIfInBounds_toArray, List.set_cons_zero, List.set_cons_succ]
            refine held_row 1 (some 50) rfl (by kernel_rfl) (by kernel_rfl) (by kernel_rfl) (by kernel_rfl) (fun c a v w h => HQ2.out c a _ v w h) (by kernel_rfl) 28 (.tmp 11) rfl g11 (by kernel_rfl) 28 V2 (fun _ h => h.blk) _ Tryz.underlying28 rfl SV2.out hH ?_
            try simp only [Act.put, List.setIfInBounds_toArray, List.set_cons_zero, List.set_cons_succ]
            refine held_v 2 (some 6) rfl (by kernel_rfl) (by kernel_rfl) (by kernel_rfl) (by kernel_rfl) (fun c a v w h => HQ2.out c a _ v w h) (by kernel_rfl) (.int .u64 X) (fun W h => by kernel_rfl) hH ?_
            try simp only [Act.put, List.setIfInBounds_toArray, List.set_cons_zero, List.set_cons_succ]
            refine wpAnyH_ready (rs := [3]) (by kernel_rfl) (by decide) ?_
            refine AllReadyH.cons rfl (fun K hK => ?_) AllReadyH.nil
            refine step_store none (by kernel_rfl) (by kernel_rfl) 28 (.tmp 7) (.tmp 50) rfl g7 (by kernel_rfl) 28 Z V2 HZ7.1 (by kernel_rfl) ZV2.out SV2.out OV2.out ?_
            intro w141 hkw141 hsw141 hbw141 how141
            have ex142 : Fx [.blk g7 28 V2] w141 := ⟨hkw141.out, trivial⟩
            refine hK.out _ _ (hH.store HZ7.1 hH.store7 hsw141.out hbw141 how141) (fun hw141 => ?_)
            clear hK K
            try simp only [Act.put, List.setIfInBounds_toArray, List.set_cons_zero, List.set_cons_succ]
            refine held_v 4 (some 8) rfl (by kernel_rfl) (by kernel_rfl) (by kernel_rfl) (by kernel_rfl) (fun c a v w h => HQ2.out c a _ v w h) (by kernel_rfl) (.int .i64 0) (fun W h => by kernel_rfl) hw141 ?_
            try simp only [Act.put, List.setIfInBounds_toArray, List.set_cons_zero, List.set_cons_succ]
            refine wpAnyH_done (by kernel_rfl) ?_ _
            refine HQ1.out _ _ ?_
            clear HQ1 HQ2
            go_wp2_with (refine bodyPost_mid 6 7 8 28 rfl g7 rfl (.int .u64 X) (.int .i64 0) rfl rfl 28 V2 ex142.1 _ Tryz.underlying28 rfl SV2.out rfl ?_)
            exact HH2.out hE0 hx _ hw141.rd.rd hw141.bel
          · have hx2 : n ≤ X := by omega
            go_wp2_with (first
              | (with_reducible refine at_any ?_; refine at_dst 36 rfl ?_; refine wpList_load_blk rfl 28 (.tmp 3) rfl g3 rfl 28 V HS.blk _ Tryz.underlying28 rfl SV.out ?_)
              | (go_at_call 79; (with_reducible refine (HTK.out _ HS.rd (HKS.out.below HS.bel)).mono ?_); rintro e w5 ⟨A2, c2, rfl, hrd2, hc2, hm2, hsp2, hb5⟩; obtain ⟨V2, hV2⟩ : ∃ V2, srcV t A2 c2 = V2 := ⟨_, rfl⟩; have SV2 := Lib.hid (ST.out A2 c2); have OV2 := Lib.hid (OT.out A2 c2); have ZV2 := Lib.hid (ZT.out A2 c2); have HM2 := Lib.hid (fun h h2 W h3 h4 => HEM.out h h2 A2 c2 W h3 h4 (Sep.trans HSP.out hsp2 HS.bel.size) hc2 hm2); have HH2 := Lib.hid (fun h h2 w' h3 h4 => HEH.out h h2 A2 c2 w' (Sep.trans HSP.out hsp2 HS.bel.size) hc2 hm2 h3 h4); rw [hV2] at SV2 OV2 ZV2 HM2 HH2 ⊢; clear hV2 hc2 hm2)
              | (with_reducible refine at_any ?_; refine at_dst 11 rfl ?_; refine wpList_alloc_any rfl 28 rfl Z HZ0.out ?_; intro w6 hk6 hs6 hb6)
              | (with_reducible refine at_any ?_; refine at_store 11 rfl ?_; refine wpList_store_any rfl 28 (.tmp 11) (.tmp 40) rfl w5.heap.size rfl 28 Z V2 hk6.out rfl ZV2.out SV2.out OV2.out ?_; intro w7 hk7 hs7 hb7 ho7; have T := Lib.hid (HS.took HZ hrd2 hsp2 hb5 hb6 hk6.out hk7.out hs7.out hb7 ho7))
              | (with_reducible refine at_any ?_; refine at_dst 51 rfl ?_; refine wpList_load_blk rfl 28 (.tmp 11) rfl w5.heap.size rfl 28 V2 hk7.out _ Tryz.underlying28 rfl SV2.out ?_)
              | (with_reducible refine at_any ?_; refine at_store 3 rfl ?_; refine wpList_store_any rfl 28 (.tmp 3) (.tmp 51) rfl g3 rfl 28 V V2 T.out.1.blk rfl (ZV.out.symm.trans ZV2.out) SV2.out OV2.out ?_; intro w9 hk9 hs9 hb9 ho9; have HS9 := Lib.hid (T.out.1.put3 T.out.2.2.1 T.out.2.2.2.1 T.out.2.2.2.2.1 hk9.out hs9.out hb9 ho9); have HZ9 := Lib.hid (T.out.2.1.store T.out.1.blk (T.out.1.hof Z) hs9.out hb9 ho9)))
            have HF := Lib.hid (HM2.out hE0 (by first | exact hx2 | exact Int.not_lt.2 hx2) _ HS9.out HZ9.out)
            clear HS9 HZ9 T
            go_roundw
            case rel => exact ⟨i + 1, by omega, by go_num, HF.out⟩
            case measure => simp [intOf]; omega
        · have t1 : (E == 0) = false := by rw [beq_eq_false_iff_ne]; exact hE0
          have t2 : (E != 0) = true := by rw [bne, t1]; rfl
          go_wp2_with (first
            | (with_reducible refine at_any ?_; refine at_dst 36 rfl ?_; refine wpList_load_blk rfl 28 (.tmp 3) rfl g3 rfl 28 V HS.blk _ Tryz.underlying28 rfl SV.out ?_)
            | (go_at_call 79; (with_reducible refine (HTK.out _ HS.rd (HKS.out.below HS.bel)).mono ?_); rintro e w5 ⟨A2, c2, rfl, hrd2, hc2, hm2, hsp2, hb5⟩; obtain ⟨V2, hV2⟩ : ∃ V2, srcV t A2 c2 = V2 := ⟨_, rfl⟩; have SV2 := Lib.hid (ST.out A2 c2); have OV2 := Lib.hid (OT.out A2 c2); have ZV2 := Lib.hid (ZT.out A2 c2); have HM2 := Lib.hid (fun h h2 W h3 h4 => HEM.out h h2 A2 c2 W h3 h4 (Sep.trans HSP.out hsp2 HS.bel.size) hc2 hm2); have HH2 := Lib.hid (fun h h2 w' h3 h4 => HEH.out h h2 A2 c2 w' (Sep.trans HSP.out hsp2 HS.bel.size) hc2 hm2 h3 h4); rw [hV2] at SV2 OV2 ZV2 HM2 HH2 ⊢; clear hV2 hc2 hm2)
            | (with_reducible refine at_any ?_; refine at_dst 11 rfl ?_; refine wpList_alloc_any rfl 28 rfl Z HZ0.out ?_; intro w6 hk6 hs6 hb6)
            | (with_reducible refine at_any ?_; refine at_store 11 rfl ?_; refine wpList_store_any rfl 28 (.tmp 11) (.tmp 40) rfl w5.heap.size rfl 28 Z V2 hk6.out rfl ZV2.out SV2.out OV2.out ?_; intro w7 hk7 hs7 hb7 ho7; have T := Lib.hid (HS.took HZ hrd2 hsp2 hb5 hb6 hk6.out hk7.out hs7.out hb7 ho7)))
          obtain ⟨HS7, HZ, -⟩ := T.out
          have HZ7 := HZ.drew
          refine wp_region_held_drew (S := (DrS w g3 g7 V A L zs)) (by kernel_rfl) HS7.drew (fun hH => ?_)
          refine wpAnyH_letter #[false, false, false, false, false] (by kernel_rfl) (fun _ _ d _ _ h => by cases d <;> exact h) (fun QL HQ1 HQ2 => ?_)
          refine held_row 0 (some 44) rfl (by kernel_rfl) (by kernel_rfl) (by kernel_rfl) (by kernel_rfl) (fun c a v w h => HQ2.out c a _ v w h) (by kernel_rfl) 28 (.tmp 3) rfl g3 (by kernel_rfl) 28 V (fun _ h => h.blk) _ Tryz.underlying28 rfl SV.out hH ?_
          try simp only [Act.put, List.setIfInBounds_toArray, List.set_cons_zero, List.set_cons_succ]
          refine held_v 1 (some 45) rfl (by kernel_rfl) (by kernel_rfl) (by kernel_rfl) (by kernel_rfl) (fun c a v w h => HQ2.out c a _ v w h) (by kernel_rfl) (.int .i64 E) (fun W h => by kernel_rfl) hH ?_
          try simp only [Act.put, List.setIfInBounds_toArray, List.set_cons_zero, List.set_cons_succ]
          refine held_v 2 (some 6) rfl (by kernel_rfl) (by kernel_rfl) (by kernel_rfl) (by kernel_rfl) (fun c a v w h => HQ2.out c a _ v w h) (by kernel_rfl) (.int .u64 0) (fun W h => by kernel_rfl) hH ?_
          try simp only [Act.put, List.setIfInBounds_toArray, List.set_cons_zero, List.set_cons_succ]
          refine wpAnyH_ready (rs := [3]) (by kernel_rfl) (by decide) ?_
          refine AllReadyH.cons rfl (fun K hK => ?_) AllReadyH.nil
          refine step_store none (by kernel_rfl) (by kernel_rfl) 28 (.tmp 7) (.tmp 44) rfl g7 (by kernel_rfl) 28 Z V HZ7.1 (by kernel_rfl) ZV.out SV.out OV.out ?_
          intro w141 hkw141 hsw141 hbw141 how141
          have ex142 : Fx [.blk g7 28 V] w141 := ⟨hkw141.out, trivial⟩
          refine hK.out _ _ (hH.store HZ7.1 hH.store7 hsw141.out hbw141 how141) (fun hw141 => ?_)
          clear hK K
          try simp only [Act.put, List.setIfInBounds_toArray, List.set_cons_zero, List.set_cons_succ]
          refine held_v 4 (some 8) rfl (by kernel_rfl) (by kernel_rfl) (by kernel_rfl) (by kernel_rfl) (fun c a v w h => HQ2.out c a _ v w h) (by kernel_rfl) (.int .i64 E) (fun W h => by kernel_rfl) hw141 ?_
          try simp only [Act.put, List.setIfInBounds_toArray, List.set_cons_zero, List.set_cons_succ]
          refine wpAnyH_done (by kernel_rfl) ?_ _
          refine HQ1.out _ _ ?_
          clear HQ1 HQ2
          go_wp2_with (refine bodyPost_mid 6 7 8 28 rfl g7 rfl (.int .u64 0) (.int .i64 E) rfl rfl 28 V ex142.1 _ Tryz.underlying28 rfl SV.out rfl ?_)
          exact HEZ.out hE0 _ hw141.rd.rd hw141.bel
      · obtain rfl : i = a := by omega
        rw [Nat.sub_self, drawGo_zero] at hgo
        have HEND : Hid (∀ w', RdP A s.tape.length s.tape w' → Below w.heap.size w w' → RetDraw w s A0 rr (.returned (.tuple #[.int .u64 0, .agg (srcV si A c), .int .i64 9])) w') := Lib.hid (fun w' hr hb => ⟨A, c, by rw [hgo], hr, hcl, hcm, hsp, hb⟩)
        obtain ⟨zs, hzs⟩ : ∃ zs, s.tape = zs := ⟨_, rfl⟩
        obtain ⟨L, hL⟩ : ∃ L, zs.length = L := ⟨_, rfl⟩
        rw [hzs, hL] at HEND HS
        obtain ⟨V, hV⟩ : ∃ V, srcV si A c = V := ⟨_, rfl⟩
        rw [hV] at SV OV ZV HEND HS
        clear hgo oki htp hsp hcl hcm hzs hL hV HTAKE HND HZSS
        go_wp2_with fail
        have HZ7 := HZ.drew
        refine wp_region_held_drew (S := (DrS w g3 g7 V A L zs)) (by kernel_rfl) HS.drew (fun hH => ?_)
        refine wpAnyH_letter #[false, false, false, false] (by kernel_rfl) (fun _ _ d _ _ h => by cases d <;> exact h) (fun QL HQ1 HQ2 => ?_)
        refine held_row 0 (some 53) rfl (by kernel_rfl) (by kernel_rfl) (by kernel_rfl) (by kernel_rfl) (fun c a v w h => HQ2.out c a _ v w h) (by kernel_rfl) 28 (.tmp 3) rfl g3 (by kernel_rfl) 28 V (fun _ h => h.blk) _ Tryz.underlying28 rfl SV.out hH ?_
        try simp only [Act.put, List.setIfInBounds_toArray, List.set_cons_zero, List.set_cons_succ]
        refine held_v 1 (some 6) rfl (by kernel_rfl) (by kernel_rfl) (by kernel_rfl) (by kernel_rfl) (fun c a v w h => HQ2.out c a _ v w h) (by kernel_rfl) (.int .u64 0) (fun W h => by kernel_rfl) hH ?_
        try simp only [Act.put, List.setIfInBounds_toArray, List.set_cons_zero, List.set_cons_succ]
        refine wpAnyH_ready (rs := [2]) (by kernel_rfl) (by decide) ?_
        refine AllReadyH.cons rfl (fun K hK => ?_) AllReadyH.nil
        refine step_store none (by kernel_rfl) (by kernel_rfl) 28 (.tmp 7) (.tmp 53) rfl g7 (by kernel_rfl) 28 Z V HZ7.1 (by kernel_rfl) ZV.out SV.out OV.out ?_
        intro w41 hkw41 hsw41 hbw41 how41
        have ex42 : Fx [.blk g7 28 V] w41 := ⟨hkw41.out, trivial⟩
        refine hK.out _ _ (hH.store HZ7.1 hH.store7 hsw41.out hbw41 how41) (fun hw41 => ?_)
        clear hK K
        try simp only [Act.put, List.setIfInBounds_toArray, List.set_cons_zero, List.set_cons_succ]
        refine held_v 3 (some 8) rfl (by kernel_rfl) (by kernel_rfl) (by kernel_rfl) (by kernel_rfl) (fun c a v w h => HQ2.out c a _ v w h) (by kernel_rfl) (.int .i64 9) (fun W h => by kernel_rfl) hw41 ?_
        try simp only [Act.put, List.setIfInBounds_toArray, List.set_cons_zero, List.set_cons_succ]
        refine wpAnyH_done (by kernel_rfl) ?_ _
        refine HQ1.out _ _ ?_
        clear HQ1 HQ2
        go_wp2_with (refine bodyPost_mid 6 7 8 28 rfl g7 rfl (.int .u64 0) (.int .i64 9) rfl rfl 28 V ex42.1 _ Tryz.underlying28 rfl SV.out rfl ?_)
        exact HEND.out _ hw41.rd hw41.bel
end
section
def renT : Go.Shelf.Ren := ⟨fun | 27 => 74 | 28 => 93 | 29 => 94 | n => n, fun | 0 => 0 | 3 => 3 | 4 => 4 | 5 => 5 | 22 => 24 | 25 => 118 | 27 => 62 | 53 => 25 | 54 => 137 | n => n, fun | 0 => 0 | 1 => 1 | n => n⟩
theorem laysT27 : Go.Proofs.Lays7.n27 Tryz.prog renT where
  mixed := by kernel_rfl
  f27 := Tryz.func74.trans (congrArg some (by kernel_rfl))
  f28 := Tryz.func93.trans (congrArg some (by kernel_rfl))
  f29 := Tryz.func94.trans (congrArg some (by kernel_rfl))
  t0 := Tryz.underlying0
  a0 := Tryz.isAgg0
  z0 := Tryz.sizeOf0
  v0 := Tryz.zeroValue0
  i0 := by kernel_rfl
  t3 := Tryz.underlying3
  a3 := Tryz.isAgg3
  z3 := Tryz.sizeOf3
  v3 := Tryz.zeroValue3
  i3 := by kernel_rfl
  t4 := Tryz.underlying4
  a4 := Tryz.isAgg4
  z4 := Tryz.sizeOf4
  v4 := Tryz.zeroValue4
  i4 := by kernel_rfl
  t5 := Tryz.underlying5
  a5 := Tryz.isAgg5
  z5 := Tryz.sizeOf5
  v5 := Tryz.zeroValue5
  i5 := by kernel_rfl
  t22 := Tryz.underlying24
  a22 := Tryz.isAgg24
  z22 := Tryz.sizeOf24
  v22 := Tryz.zeroValue24
  i22 := by kernel_rfl
  t25 := Tryz.underlying118
  a25 := Tryz.isAgg118
  z25 := Tryz.sizeOf118
  v25 := Tryz.zeroValue118
  i25 := by kernel_rfl
  t27 := Tryz.underlying62
  a27 := Tryz.isAgg62
  z27 := Tryz.sizeOf62
  v27 := Tryz.zeroValue62
  i27 := by kernel_rfl
  t53 := Tryz.underlying25
  a53 := Tryz.isAgg25
  z53 := Tryz.sizeOf25
  v53 := Tryz.zeroValue25
  i53 := by kernel_rfl
  t54 := Tryz.underlying137
  a54 := Tryz.isAgg137
  z54 := Tryz.sizeOf137
  g0 := by kernel_rfl
  g1 := by kernel_rfl
def renL : Go.Shelf.Ren := ⟨fun | 125 => 98 | 128 => 105 | 129 => 106 | n => n, fun | 3 => 3 | 4 => 4 | 5 => 5 | 9 => 9 | 46 => 118 | 51 => 62 | 53 => 24 | n => n, fun n => n⟩
theorem laysL125 : Go.Proofs.Lays.n125 Tryz.prog renL where
  mixed := by kernel_rfl
  f125 := Tryz.func98.trans (congrArg some (by kernel_rfl))
  f128 := Tryz.func105.trans (congrArg some (by kernel_rfl))
  f129 := Tryz.func106.trans (congrArg some (by kernel_rfl))
  t3 := Tryz.underlying3
  a3 := Tryz.isAgg3
  z3 := Tryz.sizeOf3
  v3 := Tryz.zeroValue3
  t4 := Tryz.underlying4
  a4 := Tryz.isAgg4
  z4 := Tryz.sizeOf4
  v4 := Tryz.zeroValue4
  t5 := Tryz.underlying5
  a5 := Tryz.isAgg5
  z5 := Tryz.sizeOf5
  v5 := Tryz.zeroValue5
  t9 := Tryz.underlying9
  a9 := Tryz.isAgg9
  z9 := Tryz.sizeOf9
  v9 := Tryz.zeroValue9
  t46 := Tryz.underlying118
  a46 := Tryz.isAgg118
  z46 := Tryz.sizeOf118
  v46 := Tryz.zeroValue118
  t51 := Tryz.underlying62
  a51 := Tryz.isAgg62
  z51 := Tryz.sizeOf62
  v51 := Tryz.zeroValue62
  t53 := Tryz.underlying24
  a53 := Tryz.isAgg24
  z53 := Tryz.sizeOf24
  v53 := Tryz.zeroValue24
end
section
open Go.ChangeShapes Go.WideShapes Go.ChangeAt Go.RowKit
theorem TzT.at_ {w : World} (h : TzT w) : TabAt 1 Lib.deBruijn64tab w := by
  intro j hj
  have h1 := Lib.TabIs.cell h gTz j (by unfold tzTab; rw [List.length_map]; exact hj)
  rw [h1]
  congr 2
  unfold tzTab
  simp [List.getD, hj]
theorem tz_c (n : Nat) (h0 : n ≠ 0) (hn : n < 18446744073709551616) (w : World) (hT : TzT w) : Calls Tryz.prog 74 #[.int .u64 (n : Int)] w fun e w' => e = .returned (.int .i64 ((Lib.ctz 64 n : Nat) : Int)) ∧ w = w' :=
  (Any7.bits_TrailingZeros laysT27 n hn w (fun _ => hT.at_)).mono fun e w' h => ⟨h.1, h.2.symm⟩
theorem ctz_low (n : Nat) (h0 : n ≠ 0) (hn : n < 18446744073709551616) : 2 ^ Lib.ctz 64 n = lowN n ∧ Lib.ctz 64 n < 64 := by
  obtain ⟨h1, h2⟩ := Lib.lowest_bit 64 n h0 (by omega)
  exact ⟨by rw [← h1]; exact land_low 64 n h0 (by omega), h2⟩
theorem len_c (n : Nat) (hn : n < 18446744073709551616) (w : World) : Calls Tryz.prog 98 #[.int .u64 (n : Int)] w fun e w' => e = .returned (.int .i64 ((Lib.bitLen n : Nat) : Int)) ∧ w = w' :=
  (Any.bits_Len laysL125 (n : Int) w (by omega) (by omega)).mono fun e w' h => ⟨by rw [h.1, Int.toNat_natCast], h.2.symm⟩
theorem bitLen_is (n : Nat) (h0 : n ≠ 0) (hn : n < 18446744073709551616) : ∃ k, Lib.bitLen n = k + 1 ∧ 2 ^ k ≤ n ∧ n < 2 ^ (k + 1) := by
  induction n using Nat.strongRecOn with
  | ind n ih =>
    have h1 := Lib.bitLen_half n h0 (by omega)
    by_cases h2 : n / 2 = 0
    · refine ⟨0, ?_, by omega, by omega⟩
      rw [h1, h2]
      rfl
    · obtain ⟨k, e1, e2, e3⟩ := ih (n / 2) (by omega) h2 (by omega)
      have e4 : 2 ^ (k + 1) = 2 * 2 ^ k := by rw [Nat.pow_succ, Nat.mul_comm]
      have e5 : 2 ^ (k + 1 + 1) = 2 * 2 ^ (k + 1) := by rw [Nat.pow_succ, Nat.mul_comm]
      exact ⟨k + 1, by rw [h1, e1, Nat.add_comm], by omega, by omega⟩
end
section
open Go.ChangeShapes Go.WideShapes Go.ChangeAt Go.RowKit
theorem q11low_c (n : Nat) (h0 : n ≠ 0) (hn : n < 9223372036854775808) (w : World) (hT : TzT w) : Calls Tryz.prog 53 #[.int .i64 (n : Int)] w fun e w' => e = .returned (.int .i64 ((lowN n : Nat) : Int)) ∧ w = w' := by
  obtain ⟨h1, h2⟩ := ctz_low n h0 (by omega)
  have hle := lowN_le n
  have HTZ := Lib.hid (tz_c n h0 (by omega) w hT)
  obtain ⟨L, hL⟩ : ∃ x : Nat, lowN n = x := ⟨_, rfl⟩
  rw [hL] at h1 hle ⊢
  obtain ⟨N, hN⟩ : ∃ x : Int, (n : Int) = x := ⟨_, rfl⟩
  rw [hN] at HTZ ⊢
  obtain ⟨k, hk⟩ : ∃ x : Nat, Lib.ctz 64 n = x := ⟨_, rfl⟩
  rw [hk] at HTZ h1 h2
  have hw : Go.IntKind.u64.wrap N = N := by rw [Go.IntKind.wrap_u64]; omega
  have hs : wrap64 ((2 : Int) ^ k) = ((L : Nat) : Int) := by
    have e : ((2 : Int) ^ k) = ((2 ^ k : Nat) : Int) := by simp
    rw [e, h1]
    simp only [wrap64]
    omega
  have k0 : (0 : Int) ≤ (k : Int) := by omega
  have k1 : (k : Int) < 64 := by omega
  clear hL h0 hn hN hk hT h1 h2 hle
  go_enter Tryz.func53, Tryz.ntmps53
  go_wp2_with (first
    | (go_at_call 74; (with_reducible refine HTZ.out.mono ?_); rintro e _ ⟨rfl, rfl⟩))
  go_ret
  exact ⟨by first | rfl | (rw [hs]; rfl), rfl⟩
theorem q11high_c (n k : Nat) (h1 : 2 ^ k ≤ n) (h2 : n < 2 ^ (k + 1)) (hn : n ≤ 1048576) (w : World) : Calls Tryz.prog 80 #[.int .i64 (n : Int)] w fun e w' => e = .returned (.int .i64 ((2 ^ k : Nat) : Int)) ∧ w = w' := by
  have hp : 1 ≤ 2 ^ k := Nat.one_le_two_pow
  obtain ⟨k', e1, e2, e3⟩ := bitLen_is n (by omega) (by omega)
  obtain rfl : k = k' := by
    rcases Nat.lt_trichotomy k k' with h | h | h
    · have := Nat.pow_le_pow_right (n := 2) (by omega) (show k + 1 ≤ k' by omega)
      omega
    · exact h
    · have := Nat.pow_le_pow_right (n := 2) (by omega) (show k' + 1 ≤ k by omega)
      omega
  have HTZ := Lib.hid (len_c n (by omega) w)
  rw [e1] at HTZ
  have hk20 : k < 21 := by
    rcases Nat.lt_or_ge k 21 with h | h
    · exact h
    · have := Nat.pow_le_pow_right (n := 2) (by omega) h
      omega
  have hpk : 2 ^ (k + 1) = 2 * 2 ^ k := by rw [Nat.pow_succ, Nat.mul_comm]
  obtain ⟨P, hP⟩ : ∃ x : Nat, 2 ^ k = x := ⟨_, rfl⟩
  rw [hP] at h1 hp hpk e2 ⊢
  obtain ⟨K, hK⟩ : ∃ x : Nat, k + 1 = x := ⟨_, rfl⟩
  rw [hK] at HTZ hpk e3 h2
  obtain ⟨N, hN⟩ : ∃ x : Int, (n : Int) = x := ⟨_, rfl⟩
  rw [hN] at HTZ ⊢
  have hw : Go.IntKind.u64.wrap N = N := by rw [Go.IntKind.wrap_u64]; omega
  have hs : wrap64 ((2 : Int) ^ K) = 2 * ((P : Nat) : Int) := by
    have e : ((2 : Int) ^ K) = ((2 ^ K : Nat) : Int) := by simp
    rw [e, hpk]
    simp only [wrap64]
    omega
  have hd : (2 * (P : Int)) / 2 = (P : Int) := by omega
  have k0 : (0 : Int) ≤ (K : Int) := by omega
  have k1 : (K : Int) < 64 := by omega
  clear hN hn h1 h2 e1 e2 e3 hk20 hpk hp hP hK
  go_enter Tryz.func80, Tryz.ntmps80
  go_wp2_with (first
    | (go_at_call 98; (with_reducible refine HTZ.out.mono ?_); rintro e _ ⟨rfl, rfl⟩))
  go_ret
  exact ⟨by first | rfl | (rw [hs]; rfl), rfl⟩
set_option maxHeartbeats 4000000 in
theorem q11first_c (l : List Int) (hz : ∀ z ∈ l, 0 ≤ z) (hs : sumL l < 9223372036854775808) (A : Option Addr) (m c : Nat) (hm : l.length = m) (hl : m ≤ 1048576) (n : Nat) (hn : n ≤ m) (w : World) (hT : TzT w) (hrd : Rd .u64 w w.heap.size A m (treeL l)) : Calls Tryz.prog 75 #[.agg #[.slice A m c], .int .i64 (n : Int)] w fun e w' => e = .returned (.int .u64 (preL l n)) ∧ Below w.heap.size w w' := by
  have HR := Lib.hid hrd
  have HLOW := Lib.hid (fun j (h : j ≠ 0) (h2 : j ≤ n) => preL_low (l := l) (n := j) h (by omega))
  have HMO := Lib.hid (fun a b (h : a ≤ b) => preL_mono hz (l := l) h)
  have HNN := Lib.hid (fun a => preL_nn hz (l := l) a)
  have HLE := Lib.hid (fun a => Int.lt_of_le_of_lt (preL_le hz (l := l) a) hs)
  have HLC := Lib.hid (fun j (h : j ≠ 0) (h2 : j ≤ n) W hW => q11low_c j h (by omega) W hW)
  have hmI : (m : Int) ≤ 1048576 := by omega
  have HTT := Lib.hid hT
  clear hrd hz hs hm hT
  go_enter Tryz.func75, Tryz.ntmps75
  go_wp2_with (with_reducible refine at_any ?_; refine at_dst 2 rfl ?_; refine wpList_box_any rfl 40 (.tmp 0) rfl #[.slice A m c] rfl ?_; intro w1 hk1 hs1 hb1; have HK1 := Lib.hid hk1.out; have HB1 := Lib.hid hb1; clear hk1 hs1 hb1)
  obtain ⟨g2, hg2⟩ : ∃ g, w.heap.size = g := ⟨_, rfl⟩
  have HC : Hid (w1.cell? ⟨g2, 0, none⟩ = some (.slice A m c)) := Lib.hid (by rw [← hg2]; exact Blk.cell0 HK1.out)
  have HR1A := Lib.hid (HR1 HR.out HB1.out)
  have HT1 := Lib.hid (HTT.out.below HB1.out)
  rw [hg2]
  clear hg2 HK1 HR
  go_loopw [1, 5] (fun nn ss wr => ∃ j : Nat, j ≤ n ∧ nn = .int .i64 (j : Int) ∧ ss = .int .u64 (preL l n - preL l j) ∧ w1 = wr) (fun nn _ _ => (intOf nn).toNat)
  case atStart => exact ⟨n, Nat.le_refl _, rfl, by rw [Int.sub_self], by first | rfl | trivial⟩
  case round =>
    obtain ⟨j, hj, rfl, rfl, rfl⟩ := hrel
    by_cases hlt : 0 < j
    · obtain ⟨g, off, rfl, -, hc⟩ := HR1A.out.at_ (by omega)
      have hck := hc (j - 1) (by omega)
      have hpl := HLOW.out j (by omega) hj
      have hlow := lowN_le j
      have hlp := lowN_pos (n := j) (by omega)
      have hlc := HLC.out j (by omega) hj
      obtain ⟨q, hq⟩ : ∃ q, j - 1 = q := ⟨_, rfl⟩
      obtain ⟨lo, hlo⟩ : ∃ x, lowN j = x := ⟨_, rfl⟩
      rw [hq] at hck hpl
      rw [hlo] at hpl hlow hlp hlc
      obtain ⟨r, hr⟩ : ∃ r : Nat, j - lo = r := ⟨_, rfl⟩
      rw [hr] at hpl
      have h1 := HMO.out j n hj
      have h2 := HNN.out r
      have h3 := HLE.out n
      have h4 := HMO.out r j (by omega)
      obtain ⟨z, hzz⟩ : ∃ z, (treeL l).getD q 0 = z := ⟨_, rfl⟩
      obtain ⟨pn, hpn⟩ : ∃ z, preL l n = z := ⟨_, rfl⟩
      obtain ⟨pj, hpj⟩ : ∃ z, preL l j = z := ⟨_, rfl⟩
      obtain ⟨pr, hpr⟩ : ∃ z, preL l r = z := ⟨_, rfl⟩
      rw [hzz] at hck hpl
      rw [hpn] at h1 h3 ⊢
      rw [hpj] at hpl h1 h4 ⊢
      rw [hpr] at hpl h2 h4
      obtain ⟨s, hs⟩ : ∃ s, pn - pj = s := ⟨_, rfl⟩
      rw [hs]
      have HNP : Hid (s + z = pn - preL l r) := Lib.hid (by rw [hpr]; omega)
      have s0 : 0 ≤ s := by omega
      have z0 : 0 ≤ z := by omega
      have sz : s + z < 9223372036854775808 := by omega
      have hjI : (0 : Int) < (j : Int) := by omega
      have hqI : (j : Int) - 1 = (q : Int) := by omega
      have hqm : (q : Int) < (m : Int) := by omega
      have hq0 : (0 : Int) ≤ (q : Int) := by omega
      have hjm : (j : Int) ≤ 1048576 := by omega
      have hrI : (j : Int) - (lo : Int) = (r : Int) := by omega
      have hrm : (r : Int) ≤ 1048576 := by omega
      have hr0 : (0 : Int) ≤ (r : Int) := by omega
      have cz := HC.out
      have HLCJ := Lib.hid hlc
      have HPN := Lib.hid hpn
      have hrj : r < j := by omega
      clear hc hpl hlow hlp hlc hq hlo hr h1 h2 h3 h4 hzz hpn hpj hpr hs
      go_wp2_with (go_at_call 53; (with_reducible refine (HLCJ.out _ HT1.out).mono ?_); rintro e _ ⟨rfl, rfl⟩)
      go_roundw
      case rel => exact ⟨r, by omega, by go_num, by rw [HNP.out], by first | rfl | trivial⟩
      case measure => simp [intOf]; omega
    · obtain rfl : j = 0 := by omega
      rw [show preL l 0 = 0 from rfl, Int.sub_zero]
      rw [show ((0 : Nat) : Int) = 0 from rfl]
      go_wp2
      go_ret
      exact ⟨rfl, HB1.out⟩
theorem q11len_c (A : Option Addr) (n c : Nat) (w : World) : Calls Tryz.prog 76 #[.agg #[.slice A n c]] w fun e w' => e = .returned (.int .i64 (n : Int)) ∧ Below w.heap.size w w' := by
  go_enter Tryz.func76, Tryz.ntmps76
  go_wp2_with (first
    | (with_reducible refine at_any ?_; refine at_dst 1 rfl ?_; refine wpList_box_any rfl 40 (.tmp 0) rfl #[.slice A n c] rfl ?_; intro w1 hk1 hs1 hb1; have HK1 := Lib.hid hk1.out; have HB1 := Lib.hid hb1; have cz := Blk.cell0 HK1.out; clear hk1 hs1 hb1))
  go_ret
  exact ⟨rfl, HB1.out⟩
end
section
open Go.ChangeShapes Go.WideShapes Go.ChangeAt Go.RowKit
theorem q11has_c (A : Option Addr) (n c : Nat) (i : Int) (b : Bool) (hb : b = decide (0 ≤ i ∧ i < (n : Int))) (w : World) : Calls Tryz.prog 81 #[.agg #[.slice A n c], .int .i64 i] w fun e w' => e = .returned (.bool b) ∧ Below w.heap.size w w' := by
  by_cases h0 : 0 ≤ i
  · have hbv : decide (i < (n : Int)) = b := by rw [hb]; simp [h0]
    clear hb
    go_enter Tryz.func81, Tryz.ntmps81
    go_wp2_with (first
      | (with_reducible refine at_any ?_; refine at_dst 2 rfl ?_; refine wpList_box_any rfl 40 (.tmp 0) rfl #[.slice A n c] rfl ?_; intro w1 hk1 hs1 hb1; have HK1 := Lib.hid hk1.out; have HB1 := Lib.hid hb1; have cz := Blk.cell0 HK1.out; clear hk1 hs1 hb1)
      | (with_reducible refine at_any ?_; refine at_dst 9 rfl ?_; refine wpList_load_fen (by kernel_rfl) (.tmp 2) rfl w.heap.size rfl 40 (.slice A n c) HK1.out ?_)
      | (go_at_call 76; (with_reducible refine (q11len_c _ _ _ _).mono ?_); rintro e w2 ⟨rfl, hb2⟩; have HB2 := Lib.hid (HB1.out.trans (hb2.mono HB1.out.size)); have HK2 := Lib.hid (HK1.out.below hb2 HK1.out.lt); have cz2 := Blk.cell0 HK2.out; clear hb2))
    go_ret
    exact ⟨by first | (rw [hbv]; rfl) | rfl | (subst hbv; rfl), by first | exact HB2.out | exact HB1.out⟩
  · obtain rfl : b = false := by rw [hb]; simp [h0]
    clear hb
    go_enter Tryz.func81, Tryz.ntmps81
    go_wp2_with (first
      | (with_reducible refine at_any ?_; refine at_dst 2 rfl ?_; refine wpList_box_any rfl 40 (.tmp 0) rfl #[.slice A n c] rfl ?_; intro w1 hk1 hs1 hb1; have HK1 := Lib.hid hk1.out; have HB1 := Lib.hid hb1; have cz := Blk.cell0 HK1.out; clear hk1 hs1 hb1)
      | (with_reducible refine at_any ?_; refine at_dst 9 rfl ?_; refine wpList_load_fen (by kernel_rfl) (.tmp 2) rfl w.heap.size rfl 40 (.slice A n c) HK1.out ?_)
      | (go_at_call 76; (with_reducible refine (q11len_c _ _ _ _).mono ?_); rintro e w2 ⟨rfl, hb2⟩; have HB2 := Lib.hid (HB1.out.trans (hb2.mono HB1.out.size)); have HK2 := Lib.hid (HK1.out.below hb2 HK1.out.lt); have cz2 := Blk.cell0 HK2.out; clear hb2))
    go_ret
    exact ⟨rfl, by first | exact HB2.out | exact HB1.out⟩
section
variable (l : List Int) (hz : ∀ z ∈ l, 0 ≤ z) (hs : sumL l < 9223372036854775808) (hl : l.length ≤ 1048576) (A : Option Addr) (n c : Nat) (hn : l.length = n) (hc : n ≤ c) (hcm : c ≤ maxLen)
include hz hs hl hn hc hcm
set_option maxHeartbeats 2000000 in
theorem q11total_c (w : World) (hT : TzT w) (hrd : Rd .u64 w w.heap.size A n (treeL l)) : Calls Tryz.prog 56 #[.agg #[.slice A n c]] w fun e w' => e = .returned (.int .u64 (sumL l)) ∧ Below w.heap.size w w' := by
  have HR := Lib.hid hrd
  have HTT := Lib.hid hT
  have hf := fun W hW h => q11first_c l hz hs A n c hn (by omega) n (Nat.le_refl _) W hW h
  rw [← hn, preL_all, hn] at hf
  obtain ⟨x, hx⟩ : ∃ x, sumL l = x := ⟨_, rfl⟩
  obtain ⟨ts, hts⟩ : ∃ x, treeL l = x := ⟨_, rfl⟩
  rw [hts] at hf HR
  rw [hx] at hf ⊢
  have HF := Lib.hid hf
  have hnI : (n : Int) ≤ 1048576 := by omega
  clear hrd hz hs hl hn hc hcm hf hx hT hts
  go_enter Tryz.func56, Tryz.ntmps56
  go_wp2_with (first
    | (with_reducible refine at_any ?_; refine at_dst 1 rfl ?_; refine wpList_box_any rfl 40 (.tmp 0) rfl #[.slice A n c] rfl ?_; intro w1 hk1 hs1 hb1; have HK1 := Lib.hid hk1.out; have HB1 := Lib.hid hb1; clear hk1 hs1 hb1))
  obtain ⟨gB, hgB⟩ : ∃ g, w.heap.size = g := ⟨_, rfl⟩
  have G1 : Hid (Fx [.blk gB 40 #[.slice A n c], .rdb .u64 w.heap.size A n ts, .bel w] w1) := Lib.hid ⟨by rw [← hgB]; exact HK1.out, ⟨HR.out.below HB1.out, HB1.out.size⟩, HB1.out, trivial⟩
  have cG := Blk.cell0 (Fx.b0 G1.out)
  rw [hgB]
  clear hgB HK1
  refine wp_region_held_drew (S := (Fx [.blk gB 40 #[.slice A n c], .rdb .u64 w.heap.size A n ts, .bel w])) (by kernel_rfl) (Fx.drew G1.out) (fun hH => ?_)
  refine wpAnyH_letter #[false, false, false, false, false] (by kernel_rfl) (fun _ _ d _ _ h => by cases d <;> exact h) (fun QL HQ1 HQ2 => ?_)
  refine held_row 0 (some 3) rfl (by kernel_rfl) (by kernel_rfl) (by kernel_rfl) (by kernel_rfl) (fun c a v w h => HQ2.out c a _ v w h) (by kernel_rfl) 40 (.tmp 1) rfl gB (by kernel_rfl) 40 #[.slice A n c] (fun _ h => (Fx.b0 h)) _ Tryz.underlying40 rfl (sizedF _) hH ?_
  try simp only [Act.put, List.setIfInBounds_toArray, List.set_cons_zero, List.set_cons_succ]
  refine held_row 1 (some 4) rfl (by kernel_rfl) (by kernel_rfl) (by kernel_rfl) (by kernel_rfl) (fun c a v w h => HQ2.out c a _ v w h) (by kernel_rfl) 40 (.tmp 1) rfl gB (by kernel_rfl) 40 #[.slice A n c] (fun _ h => (Fx.b0 h)) _ Tryz.underlying40 rfl (sizedF _) hH ?_
  try simp only [Act.put, List.setIfInBounds_toArray, List.set_cons_zero, List.set_cons_succ]
  refine wpAnyH_ready (rs := [2]) (by kernel_rfl) (by decide) ?_
  refine AllReadyH.cons rfl (fun K hK => ?_) AllReadyH.nil
  refine step_call (some 5) (by kernel_rfl) (by kernel_rfl) _ _ (by kernel_rfl) _ (q11len_c A n c _) ?_
  rintro e w41 ⟨rfl, hbw41⟩
  refine ⟨_, rfl, ?_⟩
  refine hK.out _ _ (hH.below hbw41) (fun hw41 => ?_)
  clear hK K
  try simp only [Act.put, List.setIfInBounds_toArray, List.set_cons_zero, List.set_cons_succ]
  refine wpAnyH_ready (rs := [3]) (by kernel_rfl) (by decide) ?_
  refine AllReadyH.cons rfl (fun K hK => ?_) AllReadyH.nil
  refine step_call (some 6) (by kernel_rfl) (by kernel_rfl) _ _ (by kernel_rfl) _ (HF.out _ (HTT.out.below (Fx.e2 hw41)) (Fx.r1 hw41)) ?_
  rintro e w42 ⟨rfl, hbw42⟩
  refine ⟨_, rfl, ?_⟩
  refine hK.out _ _ (hw41.below hbw42) (fun hw42 => ?_)
  clear hK K
  try simp only [Act.put, List.setIfInBounds_toArray, List.set_cons_zero, List.set_cons_succ]
  refine held_v 4 (some 2) rfl (by kernel_rfl) (by kernel_rfl) (by kernel_rfl) (by kernel_rfl) (fun c a v w h => HQ2.out c a _ v w h) (by kernel_rfl) (.int .u64 x) (fun W h => by kernel_rfl) hw42 ?_
  try simp only [Act.put, List.setIfInBounds_toArray, List.set_cons_zero, List.set_cons_succ]
  refine wpAnyH_done (by kernel_rfl) ?_ _
  refine HQ1.out _ _ ?_
  clear HQ1 HQ2
  go_wp2
  go_ret
  exact ⟨rfl, Fx.e2 hw42⟩
set_option maxHeartbeats 2000000 in
theorem q11at_c (i : Int) (i0 : -9223372036854775808 ≤ i) (i1 : i < 9223372036854775808) (w : World) (hT : TzT w) (hrd : Rd .u64 w w.heap.size A n (treeL l)) : Calls Tryz.prog 59 #[.agg #[.slice A n c], .int .i64 i] w fun e w' => e = .returned (.tuple #[.int .u64 (atV l i), .int .i64 (atE l i)]) ∧ Below w.heap.size w w' := by
  have HR := Lib.hid hrd
  have HTT := Lib.hid hT
  have hnI : (n : Int) ≤ 1048576 := by omega
  by_cases hin : 0 ≤ i ∧ i < (l.length : Int)
  · obtain ⟨e1, e2⟩ := at_ok hin
    rw [e1, e2]
    obtain ⟨k, rfl⟩ := Int.eq_ofNat_of_zero_le hin.1
    rw [Int.toNat_natCast]
    have hkn : k < n := by omega
    have hf1 := fun W hW h => q11first_c l hz hs A n c hn (by omega) (k + 1) hkn W hW h
    have hf0 := fun W hW h => q11first_c l hz hs A n c hn (by omega) k (by omega) W hW h
    have hnx := preL_next (l := l) (n := k) (by omega)
    have hp0 := preL_nn hz k
    have hpm := preL_mono hz (show k ≤ k + 1 by omega)
    have hple := Int.lt_of_le_of_lt (preL_le hz (k + 1)) hs
    obtain ⟨x, hx⟩ : ∃ x, l.getD k 0 = x := ⟨_, rfl⟩
    obtain ⟨p0, hp0e⟩ : ∃ x, preL l k = x := ⟨_, rfl⟩
    obtain ⟨p1, hp1e⟩ : ∃ x, preL l (k + 1) = x := ⟨_, rfl⟩
    obtain ⟨ts, hts⟩ : ∃ x, treeL l = x := ⟨_, rfl⟩
    rw [hts] at hf1 hf0 HR
    rw [hp1e] at hf1 hnx hpm hple
    rw [hp0e] at hf0 hnx hpm hp0
    rw [hx] at hnx ⊢
    have hk1 : ((k + 1 : Nat) : Int) = (k : Int) + 1 := by omega
    rw [hk1] at hf1
    have HF1 := Lib.hid hf1
    have HF0 := Lib.hid hf0
    have HXX : Hid (IntKind.u64.wrap (p1 - p0) = x) := Lib.hid (by rw [IntKind.wrap_u64]; omega)
    have HKW : Hid (IntKind.i64.wrap ((k : Int) + 1) = (k : Int) + 1) := Lib.hid (by rw [IntKind.wrap_i64]; omega)
    have HAS := Lib.hid (fun W => q11has_c A n c (k : Int) true (by rw [decide_eq_true ⟨by omega, by omega⟩]) W)
    clear hz hs hl hn hc hcm i0 i1 hrd hT e1 e2 hx hin hkn hf0 hf1 hnx hpm hp0 hple hp0e hp1e hts hk1
    go_enter Tryz.func59, Tryz.ntmps59
    go_wp2_with (first
      | (with_reducible refine at_any ?_; refine at_dst 2 rfl ?_; refine wpList_box_any rfl 40 (.tmp 0) rfl #[.slice A n c] rfl ?_; intro w1 hk1 hs1 hb1; have HK1 := Lib.hid hk1.out; have HB1 := Lib.hid hb1; clear hk1 hs1 hb1)
      | (with_reducible refine at_any ?_; refine at_dst 6 rfl ?_; refine wpList_load_fen (by kernel_rfl) (.tmp 2) rfl w.heap.size rfl 40 (.slice A n c) HK1.out ?_)
      | (go_at_call 81; (with_reducible refine (HAS.out _).mono ?_); rintro e w2 ⟨rfl, hb2⟩; have HB2 := Lib.hid (HB1.out.trans (hb2.mono HB1.out.size)); have HK2 := Lib.hid (HK1.out.below hb2 HK1.out.lt); clear hb2))
    obtain ⟨gB, hgB⟩ : ∃ g, w.heap.size = g := ⟨_, rfl⟩
    have G1 : Hid (Fx [.blk gB 40 #[.slice A n c], .rdb .u64 w.heap.size A n ts, .bel w] w2) := Lib.hid ⟨by rw [← hgB]; exact HK2.out, ⟨HR.out.below HB2.out, HB2.out.size⟩, HB2.out, trivial⟩
    have cG := Blk.cell0 (Fx.b0 G1.out)
    rw [hgB]
    clear hgB HK1
    refine wp_region_held_drew (S := (Fx [.blk gB 40 #[.slice A n c], .rdb .u64 w.heap.size A n ts, .bel w])) (by kernel_rfl) (Fx.drew G1.out) (fun hH => ?_)
    refine wpAnyH_letter #[false, false, false, false, false, false, false, false, false, false] (by kernel_rfl) (fun _ _ d _ _ h => by cases d <;> exact h) (fun QL HQ1 HQ2 => ?_)
    refine held_row 0 (some 10) rfl (by kernel_rfl) (by kernel_rfl) (by kernel_rfl) (by kernel_rfl) (fun c a v w h => HQ2.out c a _ v w h) (by kernel_rfl) 40 (.tmp 2) rfl gB (by kernel_rfl) 40 #[.slice A n c] (fun _ h => (Fx.b0 h)) _ Tryz.underlying40 rfl (sizedF _) hH ?_
    try simp only [Act.put, List.setIfInBounds_toArray, List.set_cons_zero, List.set_cons_succ]
    refine held_v 1 (some 11) rfl (by kernel_rfl) (by kernel_rfl) (by kernel_rfl) (by kernel_rfl) (fun c a v w h => HQ2.out c a _ v w h) (by kernel_rfl) (.int .i64 (k : Int)) (fun W h => by kernel_rfl) hH ?_
    try simp only [Act.put, List.setIfInBounds_toArray, List.set_cons_zero, List.set_cons_succ]
    refine held_v 2 (some 12) rfl (by kernel_rfl) (by kernel_rfl) (by kernel_rfl) (by kernel_rfl) (fun c a v w h => HQ2.out c a _ v w h) (by kernel_rfl) (.int .i64 ((k : Int) + 1)) (fun W h => by have p := HKW.out; go_simp) hH ?_
    try simp only [Act.put, List.setIfInBounds_toArray, List.set_cons_zero, List.set_cons_succ]
    refine held_row 4 (some 14) rfl (by kernel_rfl) (by kernel_rfl) (by kernel_rfl) (by kernel_rfl) (fun c a v w h => HQ2.out c a _ v w h) (by kernel_rfl) 40 (.tmp 2) rfl gB (by kernel_rfl) 40 #[.slice A n c] (fun _ h => (Fx.b0 h)) _ Tryz.underlying40 rfl (sizedF _) hH ?_
    try simp only [Act.put, List.setIfInBounds_toArray, List.set_cons_zero, List.set_cons_succ]
    refine held_v 5 (some 15) rfl (by kernel_rfl) (by kernel_rfl) (by kernel_rfl) (by kernel_rfl) (fun c a v w h => HQ2.out c a _ v w h) (by kernel_rfl) (.int .i64 (k : Int)) (fun W h => by kernel_rfl) hH ?_
    try simp only [Act.put, List.setIfInBounds_toArray, List.set_cons_zero, List.set_cons_succ]
    refine wpAnyH_ready (rs := [3]) (by kernel_rfl) (by decide) ?_
    refine AllReadyH.cons rfl (fun K hK => ?_) AllReadyH.nil
    refine step_call (some 13) (by kernel_rfl) (by kernel_rfl) _ _ (by kernel_rfl) _ (HF1.out _ (HTT.out.below (Fx.e2 hH)) (Fx.r1 hH)) ?_
    rintro e w41 ⟨rfl, hbw41⟩
    refine ⟨_, rfl, ?_⟩
    refine hK.out _ _ (hH.below hbw41) (fun hw41 => ?_)
    clear hK K
    try simp only [Act.put, List.setIfInBounds_toArray, List.set_cons_zero, List.set_cons_succ]
    refine wpAnyH_ready (rs := [6]) (by kernel_rfl) (by decide) ?_
    refine AllReadyH.cons rfl (fun K hK => ?_) AllReadyH.nil
    refine step_call (some 16) (by kernel_rfl) (by kernel_rfl) _ _ (by kernel_rfl) _ (HF0.out _ (HTT.out.below (Fx.e2 hw41)) (Fx.r1 hw41)) ?_
    rintro e w42 ⟨rfl, hbw42⟩
    refine ⟨_, rfl, ?_⟩
    refine hK.out _ _ (hw41.below hbw42) (fun hw42 => ?_)
    clear hK K
    try simp only [Act.put, List.setIfInBounds_toArray, List.set_cons_zero, List.set_cons_succ]
    refine held_v 7 (some 17) rfl (by kernel_rfl) (by kernel_rfl) (by kernel_rfl) (by kernel_rfl) (fun c a v w h => HQ2.out c a _ v w h) (by kernel_rfl) (.int .u64 x) (fun W h => by have p := HXX.out; go_simp) hw42 ?_
    try simp only [Act.put, List.setIfInBounds_toArray, List.set_cons_zero, List.set_cons_succ]
    refine held_v 8 (some 4) rfl (by kernel_rfl) (by kernel_rfl) (by kernel_rfl) (by kernel_rfl) (fun c a v w h => HQ2.out c a _ v w h) (by kernel_rfl) (.int .u64 x) (fun W h => by kernel_rfl) hw42 ?_
    try simp only [Act.put, List.setIfInBounds_toArray, List.set_cons_zero, List.set_cons_succ]
    refine held_v 9 (some 5) rfl (by kernel_rfl) (by kernel_rfl) (by kernel_rfl) (by kernel_rfl) (fun c a v w h => HQ2.out c a _ v w h) (by kernel_rfl) (.int .i64 0) (fun W h => by kernel_rfl) hw42 ?_
    try simp only [Act.put, List.setIfInBounds_toArray, List.set_cons_zero, List.set_cons_succ]
    refine wpAnyH_done (by kernel_rfl) ?_ _
    refine HQ1.out _ _ ?_
    clear HQ1 HQ2
    go_wp2
    go_ret2
    exact ⟨rfl, Fx.e2 hw42⟩
  · obtain ⟨e1, e2⟩ := at_no hin
    rw [e1, e2]
    rw [hn] at hin
    have HAS := Lib.hid (fun W => q11has_c A n c i false (by rw [decide_eq_false hin]) W)
    clear hz hs hl hn hc hcm hrd hT e1 e2 hin
    go_enter Tryz.func59, Tryz.ntmps59
    go_wp2_with (first
      | (with_reducible refine at_any ?_; refine at_dst 2 rfl ?_; refine wpList_box_any rfl 40 (.tmp 0) rfl #[.slice A n c] rfl ?_; intro w1 hk1 hs1 hb1; have HK1 := Lib.hid hk1.out; have HB1 := Lib.hid hb1; clear hk1 hs1 hb1)
      | (with_reducible refine at_any ?_; refine at_dst 6 rfl ?_; refine wpList_load_fen (by kernel_rfl) (.tmp 2) rfl w.heap.size rfl 40 (.slice A n c) HK1.out ?_)
      | (go_at_call 81; (with_reducible refine (HAS.out _).mono ?_); rintro e w2 ⟨rfl, hb2⟩; have HB2 := Lib.hid (HB1.out.trans (hb2.mono HB1.out.size)); have HK2 := Lib.hid (HK1.out.below hb2 HK1.out.lt); clear hb2))
    go_ret2
    exact ⟨rfl, HB2.out⟩
end
end
section
open Go.ChangeShapes Go.WideShapes Go.ChangeAt Go.RowKit
def RetOwn (w : World) (l : List Int) (e : Ending) (w' : World) : Prop := ∃ v, e = .returned v ∧ OwnI w' w.heap.size 24 .u64 v l ∧ Below w.heap.size w w'
theorem clone64_c (l : List Int) (A : Option Addr) (n c : Nat) (hn : n ≤ 100000000) (w : World) (hrd : Rd .u64 w w.heap.size A n l) : Calls Tryz.prog 52 #[.slice A n c] w (RetOwn w l) := by
  have q22 : ∀ (w : World) (a : Option Addr) (n c n' c' : Nat), (binOp .eql 22 (.slice a n c) (.slice none n' c')).run Tryz.prog w = .ok (.bool a.isNone) w := fun w a n c n' c' => Lib.run_eql_slice_nil w _ _ a n c n' c' Tryz.underlying22
  have hlen := hrd.len
  cases A with
  | none =>
    have hn0 : n = 0 := by
      rcases Nat.eq_zero_or_pos n with h | h
      · exact h
      · obtain ⟨g, off, e, _⟩ := hrd.at_ h
        cases e
    obtain rfl : l = [] := List.length_eq_zero_iff.1 (by omega)
    clear hlen hrd hn
    go_enter Tryz.func52, Tryz.ntmps52
    go_wp2
    go_ret
    exact ⟨_, rfl, OwnI.empty _ _ _ _, Below.refl _ _⟩
  | some a =>
    have HR := Lib.hid hrd
    have HN := Lib.hid hn
    clear hlen hrd hn
    go_enter Tryz.func52, Tryz.ntmps52
    go_wp2_with (first
      | (at_builtin; refine wpList_own_copy8o w rfl (.tmp 5) (.tmp 6) rfl rfl (some a) n c l rfl HR.out HN.out ?_; intro v w2 hb2 ho2; have HB2 := Lib.hid hb2; have HO2 := Lib.hid ho2; clear hb2 ho2))
    go_ret
    exact ⟨_, rfl, HO2.out, HB2.out⟩
end
section
theorem cov_bd {M : Nat} (h : M ≠ 0) : ∀ k, M - lowN M ≤ covN M k ∧ covN M k ≤ M - 1
  | 0 => by
    have h1 := lowN_pos h
    show M - lowN M ≤ M - lowN M ∧ M - lowN M ≤ M - 1
    omega
  | k + 1 => by
    rw [covN]
    split
    · rename_i e
      have := child_in (by omega) e
      omega
    · exact cov_bd h k
theorem bldF_bd {l : List Int} (hz : ∀ z ∈ l, 0 ≤ z) (k m : Nat) (hm : m < l.length) : 0 ≤ (bldF l k).getD m 0 ∧ (bldF l k).getD m 0 ≤ sumL l := by
  rw [bldF_at k hm]
  obtain ⟨h1, h2⟩ := cov_bd (M := m + 1) (by omega) k
  have h3 := preL_mono hz h1
  have h4 := preL_mono hz (show covN (m + 1) k ≤ m by omega)
  have h5 := preL_next hm
  have h6 := preL_le hz (m + 1)
  have h7 := preL_nn hz (m + 1 - lowN (m + 1))
  have h8 := preL_nn hz (covN (m + 1) k)
  have h9 : 0 ≤ l.getD m 0 := by
    have := preL_mono hz (show m ≤ m + 1 by omega)
    omega
  omega
theorem bldF_keep {l : List Int} {k j : Nat} (hj : j < l.length) (h : j ≠ k + lowN (k + 1)) : (bldF l (k + 1)).getD j 0 = (bldF l k).getD j 0 := by
  rw [bldF_at _ hj, bldF_at _ hj, covN, if_neg (by omega)]
theorem bldF_prev {l : List Int} {k : Nat} (hk : k < l.length) (h : k + 1 + lowN (k + 1) ≤ l.length) : (bldF l (k + 1)).set (k + lowN (k + 1)) ((bldF l (k + 1)).getD (k + lowN (k + 1)) 0 - (bldF l (k + 1)).getD k 0) = bldF l k := by
  have hp := lowN_pos (n := k + 1) (by omega)
  have h1 := bldF_next hk h
  have h2 : (bldF l (k + 1)).getD (k + lowN (k + 1)) 0 = (bldF l k).getD (k + lowN (k + 1)) 0 + (bldF l k).getD k 0 := by
    rw [← h1, List.getD_eq_getElem?_getD, List.getElem?_set_self (by rw [bldF_len]; omega)]
    rfl
  have h3 := bldF_keep (l := l) (k := k) hk (by omega)
  rw [h2, h3]
  apply ext_getD (by rw [List.length_set, bldF_len, bldF_len])
  intro j hj
  rw [List.length_set, bldF_len] at hj
  by_cases hjo : j = k + lowN (k + 1)
  · subst hjo
    rw [List.getD_eq_getElem?_getD, List.getElem?_set_self (by rw [bldF_len]; exact hj)]
    show (bldF l k).getD (k + lowN (k + 1)) 0 + (bldF l k).getD k 0 - (bldF l k).getD k 0 = _
    omega
  · rw [List.getD_eq_getElem?_getD, List.getElem?_set_ne (fun h => hjo h.symm), ← List.getD_eq_getElem?_getD, bldF_keep hj hjo]
def chainP (i p : Nat) : Prop := p ≠ 0 ∧ ∀ m, holdsP m p ↔ (holdsP m (i + 1) ∧ p ≤ m)
theorem chain_zero (i : Nat) : chainP i (i + 1) := ⟨by omega, fun m => ⟨fun h => ⟨h, h.2⟩, fun h => h.1⟩⟩
theorem chain_next {i p : Nat} (h : chainP i p) : chainP i (p + lowN p) := by
  obtain ⟨h0, h1⟩ := h
  have hp := lowN_pos h0
  refine ⟨by omega, fun m => ⟨fun hm => ?_, fun hm => ?_⟩⟩
  · exact ⟨((h1 m).1 (holds_back h0 hm)).1, hm.2⟩
  · obtain ⟨h2, h3⟩ := hm
    exact holds_next h0 ((h1 m).2 ⟨h2, by omega⟩) (by omega)
theorem chain_self {i p : Nat} (h : chainP i p) : holdsP p (i + 1) := ((h.2 p).1 (holds_self h.1)).1
theorem chain_gap {i p m : Nat} (h : chainP i p) (hm : holdsP m (i + 1)) (h2 : p < m) : p + lowN p ≤ m := (holds_next h.1 ((h.2 m).2 ⟨hm, by omega⟩) (by omega)).2
def setF (l : List Int) (i : Nat) (d : Int) (p : Nat) : List Int := (List.range l.length).map fun j => (treeL l).getD j 0 + if j + 1 - lowN (j + 1) < i + 1 ∧ i + 1 ≤ j + 1 ∧ j + 1 < p then d else 0
theorem setF_len (l : List Int) (i : Nat) (d : Int) (p : Nat) : (setF l i d p).length = l.length := by simp [setF]
theorem setF_at {l : List Int} (i : Nat) (d : Int) (p : Nat) {j : Nat} (h : j < l.length) : (setF l i d p).getD j 0 = (treeL l).getD j 0 + if j + 1 - lowN (j + 1) < i + 1 ∧ i + 1 ≤ j + 1 ∧ j + 1 < p then d else 0 := by simp [setF, h]
theorem setF_zero (l : List Int) (i : Nat) (d : Int) : setF l i d (i + 1) = treeL l := by
  apply ext_getD (by rw [setF_len, treeL_len])
  intro j hj
  rw [setF_len] at hj
  rw [setF_at i d _ hj, if_neg (by omega), Int.add_zero]
theorem setF_here {l : List Int} {i : Nat} (d : Int) {p : Nat} (h : chainP i p) (hp : p ≤ l.length) : (setF l i d p).getD (p - 1) 0 = (treeL l).getD (p - 1) 0 := by
  have := h.1
  rw [setF_at i d _ (by omega), if_neg (by omega), Int.add_zero]
theorem setF_next {l : List Int} {i : Nat} (d : Int) {p : Nat} (h : chainP i p) (hp : p ≤ l.length) : (setF l i d p).set (p - 1) ((treeL l).getD (p - 1) 0 + d) = setF l i d (p + lowN p) := by
  have h0 := h.1
  have hpos := lowN_pos h0
  apply ext_getD (by rw [List.length_set, setF_len, setF_len])
  intro j hj
  rw [List.length_set, setF_len] at hj
  by_cases hjo : j = p - 1
  · subst hjo
    have hs := chain_self h
    rw [List.getD_eq_getElem?_getD, List.getElem?_set_self (by rw [setF_len]; exact hj)]
    show (treeL l).getD (p - 1) 0 + d = _
    rw [setF_at i d _ hj, if_pos]
    rw [show p - 1 + 1 = p by omega]
    exact ⟨hs.1, hs.2, by omega⟩
  · rw [List.getD_eq_getElem?_getD, List.getElem?_set_ne (fun h => hjo h.symm), ← List.getD_eq_getElem?_getD, setF_at i d _ hj, setF_at i d _ hj]
    by_cases hh : j + 1 - lowN (j + 1) < i + 1 ∧ i + 1 ≤ j + 1
    · by_cases h2 : j + 1 < p
      · rw [if_pos ⟨hh.1, hh.2, h2⟩, if_pos ⟨hh.1, hh.2, by omega⟩]
      · have := chain_gap h (m := j + 1) hh (by omega)
        rw [if_neg (by omega), if_neg (by omega)]
    · rw [if_neg (by omega), if_neg (by omega)]
theorem setF_done {l : List Int} {i : Nat} (v : Int) {p : Nat} (hi : i < l.length) (h : l.length < p) : setF l i (v - l.getD i 0) p = treeL (l.set i v) := by
  apply ext_getD (by rw [setF_len, treeL_len, List.length_set])
  intro j hj
  rw [setF_len] at hj
  rw [setF_at _ _ _ hj, treeL_set v hi j hj]
  by_cases hh : j + 1 - lowN (j + 1) < i + 1 ∧ i + 1 ≤ j + 1
  · rw [if_pos ⟨hh.1, hh.2, by omega⟩, if_pos hh]
  · rw [if_neg (by omega), if_neg hh]
theorem setF_bd {l : List Int} (hz : ∀ z ∈ l, 0 ≤ z) {i p : Nat} {v : Int} (v0 : 0 ≤ v) (hi : i < l.length) (h : chainP i p) (hp : p ≤ l.length) :
    l.getD i 0 ≤ (treeL l).getD (p - 1) 0 ∧ (treeL l).getD (p - 1) 0 ≤ sumL l ∧ 0 ≤ l.getD i 0 ∧ (treeL l).getD (p - 1) 0 + (v - l.getD i 0) ≤ sumL (l.set i v) := by
  have h0 := h.1
  obtain ⟨h1, h2⟩ := chain_self h
  have hz2 : ∀ z ∈ l.set i v, 0 ≤ z := fun z hh => by
    rcases List.mem_or_eq_of_mem_set hh with h | h
    · exact hz z h
    · rw [h]; exact v0
  have e1 := treeL_at (l := l) (i := p - 1) (by omega)
  rw [show p - 1 + 1 = p by omega] at e1
  have e2 := preL_next hi
  have e3 := preL_mono hz (show i + 1 ≤ p by omega)
  have e4 := preL_mono hz (show p - lowN p ≤ i by omega)
  have e5 := preL_le hz p
  have e6 := preL_nn hz (p - lowN p)
  have e7 := preL_mono hz (show i ≤ i + 1 by omega)
  have e8 := preL_set v hi p
  rw [if_pos (by omega)] at e8
  have e9 := preL_le hz2 p
  omega
end
section
open Go.ChangeShapes Go.WideShapes Go.ChangeAt Go.RowKit
theorem OwnI.lower {w : World} {b b' : Nat} {e : TypeId} {k : IntKind} {v : Value} {zs : List Int} (h : OwnI w b e k v zs) (hb : b' ≤ b) : OwnI w b' e k v zs := by
  refine ⟨h.1, ?_⟩
  rcases h.2 with h1 | ⟨g, cap, cur, h1, h2, h3⟩
  · exact .inl h1
  · exact .inr ⟨g, cap, cur, h1, by omega, h3⟩
structure BldS (w0 : World) (g2 : Nat) (v2 : Value) (g7 c7 n : Nat) (ts : List Int) (w : World) : Prop where
  b2 : Blk w g2 40 #[v2]
  own : OwnI w w0.heap.size 24 .u64 (.slice (some ⟨g7, 0, none⟩) n c7) ts
  bel : Below w0.heap.size w0 w
  len : ts.length = n
  le7 : w0.heap.size ≤ g7
section
variable {w0 w w' : World} {g2 g7 c7 n j : Nat} {v2 v : Value} {ts : List Int} {x z : Int} {cur : Array Value}
theorem BldS.below (h : BldS w0 g2 v2 g7 c7 n ts w) (hb : Below w.heap.size w w') : BldS w0 g2 v2 g7 c7 n ts w' := ⟨h.b2.below hb h.b2.lt, h.own.below hb, h.bel.trans (hb.mono h.bel.size), h.len, h.le7⟩
theorem BldS.drew (h : BldS w0 g2 v2 g7 c7 n ts w) : BldS w0 g2 v2 g7 c7 n ts w.drew := h.below (Below.refl _ _).drew
theorem BldS.rd (h : BldS w0 g2 v2 g7 c7 n ts w) : Rd .u64 w w.heap.size (some ⟨g7, 0, none⟩) n ts := OwnI.rd h.own h.len
theorem BldS.cell (h : BldS w0 g2 v2 g7 c7 n ts w) (hj : j < n) (hx : ts.getD j 0 = x) : w.cell? ⟨g7, j, none⟩ = some (.int .u64 x) := by
  obtain ⟨g, off, e, -, hc⟩ := h.rd.at_ (by omega)
  injection e with e
  injection e with e1 e2
  subst e1 e2
  have := hc j hj
  rw [hx, Nat.zero_add] at this
  exact this
theorem BldS.blk (h : BldS w0 g2 v2 g7 c7 n ts w) (hn : 0 < n) : ∃ cur, Hid (Blk w g7 24 cur) ∧ Hid (∀ j, j < n → j < cur.size) := by
  obtain ⟨g, cur, e, -, hk, hs, -⟩ := h.own.whole (by rw [h.len]; exact hn)
  injection e with e
  injection e with e1 e2
  subst e1
  exact ⟨cur, Lib.hid hk, Lib.hid (fun j hj => by rw [h.len] at hs; omega)⟩
theorem BldS.ne (h : BldS w0 g2 v2 g7 c7 n ts w) (hk : Blk w g7 24 cur) : g2 ≠ g7 := by
  rintro rfl
  have h1 := h.b2
  unfold Blk at h1 hk
  rw [h1] at hk
  injection hk with hk
  injection hk with _ h5
  exact absurd h5 (by decide)
theorem BldS.put (h : BldS w0 g2 v2 g7 c7 n ts w) (hk : Blk w g7 24 cur) (hj : j < n) (hk2 : Blk w' g7 24 (cur.setIfInBounds j (.int .u64 z))) (ho : Only g7 w w') : BldS w0 g2 v2 g7 c7 n (ts.set j z) w' := by
  obtain ⟨h1, h2⟩ := own_set h.own hk (by rw [h.len]; exact hj) h.bel h.le7 hk2 ho
  exact ⟨h.b2.only ho (h.ne hk), h1, h2, by rw [List.length_set]; exact h.len, h.le7⟩
theorem BldS.frz (h : BldS w0 g2 v2 g7 c7 n ts w) (hn : 0 < n) : w.frozen? ⟨g7, j, none⟩ = false := by
  obtain ⟨cur, hk, -⟩ := h.blk hn
  exact hk.out.frozen j
theorem bld_start {l : List Int} {w1 : World} (hk : Blk w1 g2 40 #[v2]) (hb : Below w0.heap.size w0 w1) (ho : OwnI w w1.heap.size 24 .u64 v l) (hb2 : Below w1.heap.size w1 w) (hn : l.length = n) (h0 : 0 < n) :
    ∃ g7 c7, v = .slice (some ⟨g7, 0, none⟩) n c7 ∧ Hid (BldS w0 g2 v2 g7 c7 n l w) ∧ Hid (n ≤ c7) ∧ Hid (c7 ≤ maxLen) := by
  obtain ⟨A, c, rfl, h1, h2⟩ := ho.form
  obtain ⟨g, cur, rfl, h3, -⟩ := ho.whole (by omega)
  rw [hn] at h1 ho
  have hs := hb.size
  exact ⟨g, c, by rw [hn], Lib.hid ⟨hk.below hb2 hk.lt, ho.lower hs, hb.trans (hb2.mono hs), hn, by omega⟩, Lib.hid h1, Lib.hid h2⟩
end
def PAnyT (_ : World) : Prop := True
end
end Go.Proofs.YtgnclifmfefbcaaGreatDoor

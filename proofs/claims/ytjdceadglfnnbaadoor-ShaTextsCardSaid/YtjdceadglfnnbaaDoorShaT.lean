/-
  What the program's sha.Text returns, and that it leaves memory as it was.
  Conditions: the arguments lie in their types' ranges.
-/
import Derived.Test.YtjdceadglfnnbaaDoorShaM
import Derived.Test.YtjdceadglfnnbaaDoorRefK
set_option linter.unusedSimpArgs false
namespace Go.Proofs.YtjdceadglfnnbaaDoor
open Go.ChangeShapes Go.WideShapes Go.ChangeAt Go.RowKit
set_option linter.unusedVariables false
def AnyW (_ : World) : Prop := True
theorem index_hash (zs : List Int) (hl : zs.length = 32) (i : Nat) (h1 : i < 32) (w : World) : (Instr.index 26 (.agg (intsA .u8 zs)) (.int .i64 (i : Int))).run Tryd.prog w = .ok (.int .u8 (zs.getD i 0)) w := by
  obtain ⟨i0, hi, _, hs, _⟩ := info_parts info_u8'
  have := run_index_arr (P := Tryd.prog) Tryd.underlying26 Tryd.underlying5 hi hs (intsA .u8 zs) .i64 (i : Int) (.int .u8 (zs.getD i 0)) (by omega) (by omega) (by rw [Int.toNat_natCast]; exact intsA_at .u8 zs i (by omega)) w
  exact this
theorem run_hex_at (a : Nat) (ha : a < 16) (w : World) : (Instr.index 9 (.string ⟨#[48, 49, 50, 51, 52, 53, 54, 55, 56, 57, 97, 98, 99, 100, 101, 102]⟩) (.int .u8 (a : Int))).run Tryd.prog w = .ok (.int .u8 (digN a)) w := by
  have h0 := hex_at a ha ha
  have h1 : (0 : Int) ≤ (a : Int) := by omega
  have h2 : (a : Int) < 16 := by omega
  rw [← h0]
  go_simp
theorem run_build2 (x y : Int) (w : World) : (Instr.buildSlice 29 2 #[(0, .int .u8 x), (1, .int .u8 y)]).run Tryd.prog w = .ok (.slice (some ⟨w.heap.size, 0, none⟩) 2 2) (w.alloc (.cells (intsA .u8 [x, y]) 5)) := by
  go_simp
  try rfl
theorem step_build2 {ops : Array Oper} {o : Oper} {a : Act} {w : World} {K : Act → World → Prop} {Q : Exit → Act → World → Prop} {E : Prop} (d : Option Tmp) (hd : o.dst = d) (hw : Region.wanted o (yielded ops a.tmps) = true) (p q : Operand) (ho : o.op = .buildSlice 29 2 #[(0, p), (1, q)])
    (x y : Int) (hp : a.eval p = .int .u8 x) (hq : a.eval q = .int .u8 y) (h : K (a.put d (.slice (some ⟨w.heap.size, 0, none⟩) 2 2)) (w.alloc (.cells (intsA .u8 [x, y]) 5))) :
    if Region.wanted o (yielded ops a.tmps) = true then Oper.wp Tryd.prog o a w K Q else E := by
  subst hd
  rw [if_pos hw]
  have hr := run_build2 x y w
  have he : (execOp a.eval o).run Tryd.prog w = .ok (.value (.slice (some ⟨w.heap.size, 0, none⟩) 2 2)) (w.alloc (.cells (intsA .u8 [x, y]) 5)) := by
    unfold execOp
    simp only [ho, List.map_toArray, List.map_cons, List.map_nil, hp, hq]
    change ((Instr.buildSlice 29 2 #[(0, .int .u8 x), (1, .int .u8 y)]) >>= fun v => pure (Next.value v)).run Tryd.prog w = _
    simp only [Sem.run_bind, hr, Result.andThen_ok, Sem.run_pure]
  unfold Oper.wp
  rw [he]
  exact h
theorem and_u8 (z : Int) (z0 : 0 ≤ z) (z1 : z < 256) : bits .and .u8 z 15 = z % 16 := by
  have h : ∀ a : Fin 256, bits .and .u8 ((a : Nat) : Int) 15 = ((a : Nat) : Int) % 16 := by decide +kernel
  have := h ⟨z.toNat, by omega⟩
  simpa [Int.toNat_of_nonneg z0] using this
set_option maxHeartbeats 1000000 in
theorem qtext_c (h : List Int) (hl : h.length = 32) (hh : ∀ z ∈ h, 0 ≤ z ∧ z < 256) (w : World) :
    Calls Tryd.prog 24 #[.agg (intsA .u8 h)] w fun e w' => e = .returned (.string (strB (textL h))) ∧ Below w.heap.size w w' := by
  obtain ⟨i0, hi, hz0, hz1, hzb⟩ := info_parts info_u8'
  have hmk : ∀ W, (Instr.makeSlice 29 (.int .i64 0) (.int .i64 64)).run Tryd.prog W = .ok (.slice (some ⟨W.heap.size, 0, none⟩) 0 64) (W.alloc (.cells (intsA .u8 (List.replicate 64 0)) 5)) := fun W => run_make_cap (P := Tryd.prog) 29 5 i0 .u8 Tryd.underlying29 hi hz0 hz1 hzb 0 64 (by omega) (by omega) W
  obtain ⟨L, hL⟩ : ∃ L : List Int, List.replicate 64 0 = L := ⟨_, rfl⟩
  have HLL := Lib.hid (show L.length = 64 by rw [← hL]; simp)
  rw [hL] at hmk
  have hix := fun i hi W => index_hash h hl i hi W
  have HIX := Lib.hid hix
  have SH := Lib.hid (show (Tryd.prog.info? 26).map (·.size) = some h.length by rw [hl]; exact size_hash)
  clear hL hix
  go_enter Tryd.func24, Tryd.ntmps24
  go_wp2_with (first
    | (with_reducible refine at_any ?_; refine at_dst 1 rfl ?_; refine wpList_box_ints rfl 26 (.tmp 0) rfl .u8 h rfl ?_; intro w1 hk1 hs1 hb1; have hkb := Lib.hid (hk1.out.alloc (.cells (intsA .u8 L) 5)))
    | (with_reducible refine at_any ?_; refine at_dst 7 rfl ?_; refine wpList_load_ints rfl 26 (.tmp 1) rfl w.heap.size rfl 26 .u8 h hkb.out _ Tryd.underlying26 rfl SH.out ?_))
  have HO0 : OwnI (w1.alloc (.cells (intsA .u8 L) 5)) w.heap.size 5 .u8 (.slice (some ⟨w1.heap.size, 0, none⟩) 0 64) [] := OwnI.of_blk (zs := []) (BlkI.new _ _ _ _) hb1.size (by simp) (by simp [maxLen]) HLL.out rfl
  have HB0 : Below w.heap.size w (w1.alloc (.cells (intsA .u8 L) 5)) := hb1.alloc hb1.size _
  obtain ⟨w2, hw2⟩ : ∃ w2, w1.alloc (.cells (intsA .u8 L) 5) = w2 := ⟨_, rfl⟩
  rw [hw2] at HO0 HB0 ⊢
  clear hk1 hs1 hb1 hw2 hkb hmk
  go_loopw [3, 8] (fun t v wr => ∃ i : Nat, i ≤ 32 ∧ v = .int .i64 i ∧ OwnI wr w.heap.size 5 .u8 t (textL (h.take i)) ∧ Below w.heap.size w wr) (fun _ v _ => 32 - (intOf v).toNat)
  case atStart => exact ⟨0, by omega, rfl, HO0, HB0⟩
  case round =>
    clear HO0 HB0
    obtain ⟨i, hi', rfl, hown, hb⟩ := hrel
    obtain ⟨A1, c1, rfl, hc1, hc2⟩ := hown.form
    by_cases hlt : i < 32
    · have hz : 0 ≤ h.getD i 0 ∧ h.getD i 0 < 256 := by
        have h1 : i < h.length := by omega
        simp [h1]; exact hh _ (List.getElem_mem h1)
      have hnx := textL_next h i (by omega)
      have ix := fun W => HIX.out i hlt W
      obtain ⟨z, hze⟩ : ∃ z, h.getD i 0 = z := ⟨_, rfl⟩
      rw [hze] at ix hz hnx
      obtain ⟨a, ha⟩ : ∃ a : Nat, z / 16 = (a : Int) := ⟨(z / 16).toNat, by omega⟩
      obtain ⟨b, hbb⟩ : ∃ b : Nat, z % 16 = (b : Int) := ⟨(z % 16).toNat, by omega⟩
      have a1 : a < 16 := by omega
      have b1 : b < 16 := by omega
      rw [ha, hbb, List.append_assoc] at hnx
      have bz := and_u8 z hz.1 hz.2
      rw [hbb] at bz
      obtain ⟨Tx, hT⟩ : ∃ T, textL (h.take i) = T := ⟨_, rfl⟩
      have hTl : Tx.length ≤ 100 := by rw [← hT, textL_len, List.length_take]; omega
      rw [hT] at hnx hown hc1 ⊢
      have HNX := Lib.hid hnx
      have H1 := Lib.hid hown
      have H2 := Lib.hid hb
      have y1 := fun W => run_hex_at a a1 W
      have y2 := fun W => run_hex_at b b1 W
      have q0 : (0 : Int) ≤ (i : Int) ∧ (i : Int) < 32 := by omega
      clear hnx hT hze hown hb
      go_wp2
      refine wp_region_held_drew (S := AnyW) (by kernel_rfl) trivial (fun hH => ?_)
      refine held_v 0 (some 11) rfl rfl (by kernel_rfl) (by kernel_rfl) (by kernel_rfl) (fun _ _ _ _ h => h) (by kernel_rfl) (.slice A1 Tx.length c1) (fun W h => by go_simp) hH ?_
      try simp only [Act.put, List.setIfInBounds_toArray, List.set_cons_zero, List.set_cons_succ]
      refine held_v 1 (some 12) rfl rfl (by kernel_rfl) (by kernel_rfl) (by kernel_rfl) (fun _ _ _ _ h => h) (by kernel_rfl) (.int .u8 z) (fun W h => by go_simp) hH ?_
      try simp only [Act.put, List.setIfInBounds_toArray, List.set_cons_zero, List.set_cons_succ]
      refine held_v 2 (some 13) rfl rfl (by kernel_rfl) (by kernel_rfl) (by kernel_rfl) (fun _ _ _ _ h => h) (by kernel_rfl) (.int .u8 (a : Int)) (fun W h => by go_simp) hH ?_
      try simp only [Act.put, List.setIfInBounds_toArray, List.set_cons_zero, List.set_cons_succ]
      refine held_v 3 (some 14) rfl rfl (by kernel_rfl) (by kernel_rfl) (by kernel_rfl) (fun _ _ _ _ h => h) (by kernel_rfl) (.int .u8 (digN a)) (fun W h => by have q := y1 W; go_simp) hH ?_
      try simp only [Act.put, List.setIfInBounds_toArray, List.set_cons_zero, List.set_cons_succ]
      refine held_v 4 (some 15) rfl rfl (by kernel_rfl) (by kernel_rfl) (by kernel_rfl) (fun _ _ _ _ h => h) (by kernel_rfl) (.int .u8 z) (fun W h => by go_simp) hH ?_
      try simp only [Act.put, List.setIfInBounds_toArray, List.set_cons_zero, List.set_cons_succ]
      refine held_v 5 (some 16) rfl rfl (by kernel_rfl) (by kernel_rfl) (by kernel_rfl) (fun _ _ _ _ h => h) (by kernel_rfl) (.int .u8 (b : Int)) (fun W h => by go_simp) hH ?_
      try simp only [Act.put, List.setIfInBounds_toArray, List.set_cons_zero, List.set_cons_succ]
      refine held_v 6 (some 17) rfl rfl (by kernel_rfl) (by kernel_rfl) (by kernel_rfl) (fun _ _ _ _ h => h) (by kernel_rfl) (.int .u8 (digN b)) (fun W h => by have q := y2 W; go_simp) hH ?_
      try simp only [Act.put, List.setIfInBounds_toArray, List.set_cons_zero, List.set_cons_succ]
      refine wpAnyH_ready (rs := [7]) (by kernel_rfl) (by decide) ?_
      refine AllReadyH.cons rfl (fun K hK => ?_) AllReadyH.nil
      refine step_build2 (some 18) rfl (by kernel_rfl) (.tmp 14) (.tmp 17) rfl (digN a) (digN b) (by kernel_rfl) (by kernel_rfl) ?_
      have HR5 := (BlkI.new wr.drew 5 .u8 [digN a, digN b]).rd
      have HO5 := H1.out.drew.alloc (.cells (intsA .u8 [digN a, digN b]) 5)
      have HB5 := H2.out.drew.alloc (by have := H2.out.size; exact this) (.cells (intsA .u8 [digN a, digN b]) 5)
      obtain ⟨g5, hg5⟩ : ∃ g, wr.drew.heap.size = g := ⟨_, rfl⟩
      obtain ⟨w5, hw5⟩ : ∃ w5, wr.drew.alloc (.cells (intsA .u8 [digN a, digN b]) 5) = w5 := ⟨_, rfl⟩
      rw [hg5, hw5] at HR5
      rw [hw5] at HO5 HB5
      rw [hg5, hw5]
      refine hK.out _ _ hH (fun _ => ?_)
      clear hK K hg5 hw5
      try simp only [Act.put, List.setIfInBounds_toArray, List.set_cons_zero, List.set_cons_succ]
      refine wpAnyH_ready (rs := [8]) (by kernel_rfl) (by decide) ?_
      refine AllReadyH.cons rfl (fun K hK => ?_) AllReadyH.nil
      refine step_append_ints w5 rfl (.tmp 11) (.tmp 18) 29 rfl w.heap.size 5 i0 _ 1 .u8 Tryd.underlying29 hi hz0 hz1 hzb rfl (.slice A1 Tx.length c1) Tx (by kernel_rfl) HO5 w5.heap.size (some ⟨g5, 0, none⟩) 2 2 [digN a, digN b] (by kernel_rfl) HR5 (by simp [maxLen]; omega) (by omega) HB5.size ?_
      intro v6 w6 hown6 hg6 hat6
      have HB6 := Lib.hid (HO5.below_ HB5 HB5.size hg6)
      rw [show [digN (a : Int), digN (b : Int)] = [digN (a : Int)] ++ [digN (b : Int)] from rfl, ← HNX.out] at hown6
      have HO6 := Lib.hid hown6
      clear hown6 hg6 hat6 HR5 HO5 HB5
      refine hK.out _ _ hH (fun hH => ?_)
      clear hK K
      try simp only [Act.put, List.setIfInBounds_toArray, List.set_cons_zero, List.set_cons_succ]
      refine held_v 9 (some 3) rfl rfl (by kernel_rfl) (by kernel_rfl) (by kernel_rfl) (fun _ _ _ _ h => h) (by kernel_rfl) (v6) (fun W h => by go_simp) hH ?_
      try simp only [Act.put, List.setIfInBounds_toArray, List.set_cons_zero, List.set_cons_succ]
      refine wpAnyH_done (by kernel_rfl) ?_ _
      go_wp2
      go_roundw
      case rel => exact ⟨i + 1, by omega, by go_num, HO6.out, HB6.out⟩
      case measure => simp [intOf]; omega
    · obtain rfl : i = 32 := by omega
      rw [show ((32 : Nat) : Int) = 32 from rfl]
      rw [List.take_of_length_le (by omega)] at hown ⊢
      have hs := str_rd5 (c := c1) (hown.rd rfl)
      clear hown
      go_wp2
      go_ret
      exact ⟨rfl, hb⟩
end Go.Proofs.YtjdceadglfnnbaaDoor

/-
  What the program's stream.Block returns, and that it leaves memory as it was.
  Conditions: the arguments lie in their types' ranges; the table of constants holds what the program's text lays.
-/
import Derived.Test.YtdnjnbeoioicfaaDoorStrmA
import Derived.Test.YtdnjnbeoioicfaaDoorStrmM
import Derived.Test.YtdnjnbeoioicfaaDoorShaA
set_option linter.unusedSimpArgs false
namespace Go.Proofs.YtdnjnbeoioicfaaDoor
open Go.ChangeShapes Go.WideShapes Go.ChangeAt Go.RowKit
set_option linter.unusedVariables false
theorem qput64_c (x : Int) (h0 : 0 ≤ x) (h1 : x < 18446744073709551616) (w : World) : Calls Tryd.prog 19 #[.int .u64 x] w fun e w' => e = .returned (.agg (intsA .u8 (put8L x))) ∧ Below w.heap.size w w' :=
  (put64_c x h0 h1 w).mono fun _ _ ⟨h, h2, _⟩ => ⟨h, h2⟩
set_option maxHeartbeats 2000000 in
theorem qblock_c (s : List Int) (d i : Int) (hl : s.length = 32) (hs : ∀ z ∈ s, 0 ≤ z ∧ z < 256) (d0 : 0 ≤ d) (d1 : d < 18446744073709551616) (i0 : 0 ≤ i) (i1 : i < 18446744073709551616) (w : World) (hkst : Kst w) :
    Calls Tryd.prog 8 #[.agg (intsA .u8 s), .int .u64 d, .int .u64 i] w fun e w' => e = .returned (.agg (intsA .u8 (blkL s d i))) ∧ Below w.heap.size w w' := by
  have HPD := Lib.hid (fun W => qput64_c d d0 d1 W)
  have HPI := Lib.hid (fun W => qput64_c i i0 i1 W)
  have hin := blkIn_in s d i hs d0 d1 i0 i1
  have hxl : (put8L d).length = 8 := rfl
  have hyl : (put8L i).length = 8 := rfl
  have hX : ∀ z ∈ put8L d, 0 ≤ z ∧ z < 256 := put8L_in d d0 d1
  have hY : ∀ z ∈ put8L i, 0 ≤ z ∧ z < 256 := put8L_in i i0 i1
  have hj : blkL s d i = shaL (s ++ put8L d ++ put8L i) := rfl
  have hRl := blkL_len s d i
  obtain ⟨X, hXe⟩ : ∃ X, put8L d = X := ⟨_, rfl⟩
  obtain ⟨Y, hYe⟩ : ∃ Y, put8L i = Y := ⟨_, rfl⟩
  obtain ⟨R, hRe⟩ : ∃ R, blkL s d i = R := ⟨_, rfl⟩
  rw [hXe] at HPD hxl hX hj
  rw [hYe] at HPI hyl hY hj
  rw [hRe] at hj hRl ⊢
  obtain ⟨Z, hZ⟩ : ∃ Z : List Int, List.replicate 32 0 = Z := ⟨_, rfl⟩
  obtain ⟨V, hV⟩ : ∃ V : List Int, List.replicate 8 0 = V := ⟨_, rfl⟩
  have HZ0 := Lib.hid zero_hash
  have HV0 := Lib.hid zero_b8s
  rw [hZ] at HZ0
  rw [hV] at HV0
  have hZl : Z.length = 32 := by rw [← hZ]; simp
  have hVl : V.length = 8 := by rw [← hV]; simp
  have SR := Lib.hid (show (Tryd.prog.info? 23).map (·.size) = some R.length by rw [hRl]; exact size_hash)
  have SRA := Lib.hid (show (Tryd.prog.info? 23).map (·.size) = some (intsA .u8 R).size by rw [intsA_size, hRl]; exact size_hash)
  have ZRA := Lib.hid (show (intsA .u8 Z).size = (intsA .u8 R).size by rw [intsA_size, intsA_size, hRl, hZl])
  have SX := Lib.hid (show (Tryd.prog.info? 42).map (·.size) = some X.length by rw [hxl]; exact size_b8s)
  have SY := Lib.hid (show (Tryd.prog.info? 42).map (·.size) = some Y.length by rw [hyl]; exact size_b8s)
  have VX := Lib.hid (show V.length = X.length by rw [hxl, hVl])
  have VY := Lib.hid (show V.length = Y.length by rw [hyl, hVl])
  have HSM := Lib.hid (fun (g3 g7 g8 : Nat) A W h (k : Kst W) => qsum_c A 3 3 [⟨some ⟨g3, 0, none⟩, 32, 32, s⟩, ⟨some ⟨g7, 0, none⟩, 8, 8, X⟩, ⟨some ⟨g8, 0, none⟩, 8, 8, Y⟩] W h (Nat.le_refl _)
    ⟨by simp, fun r hr => by
      simp only [List.mem_cons, List.not_mem_nil, or_false] at hr
      rcases hr with rfl | rfl | rfl
      · exact ⟨by dsimp only; omega, hs⟩
      · exact ⟨by dsimp only; omega, hX⟩
      · exact ⟨by dsimp only; omega, hY⟩⟩ k)
  have HJ := Lib.hid (show ∀ g3 g7 g8 : Nat, shaL (joinL [⟨some ⟨g3, 0, none⟩, 32, 32, s⟩, ⟨some ⟨g7, 0, none⟩, 8, 8, X⟩, ⟨some ⟨g8, 0, none⟩, 8, 8, Y⟩]) = R from fun _ _ _ => by rw [hj]; simp [joinL])
  have HSL := Lib.hid hl
  have HXL := Lib.hid hxl
  have HYL := Lib.hid hyl
  have HKS := Lib.hid hkst
  clear hin hxl hyl hX hY hj hRl hXe hYe hRe hZ hV hZl hVl hl hs hkst
  go_enter Tryd.func8, Tryd.ntmps8
  go_wp2_with (first
    | (with_reducible refine at_any ?_; refine at_dst 3 rfl ?_; refine wpList_box_ints rfl 23 (.tmp 0) rfl .u8 s rfl ?_; intro w1 hk1 hs1 hb1; have F1 := Lib.hid (Fx.box hk1.out hb1); clear hk1 hs1 hb1)
    | (with_reducible refine at_any ?_; refine at_dst 6 rfl ?_; refine wpList_alloc_ints rfl 23 rfl .u8 Z HZ0.out ?_; intro w2 hk2 hs2 hb2; have U1 := Lib.hid (Fx.under_new F1.out rfl); have F2 := Lib.hid (Fx.new F1.out hk2.out hb2); clear hk2 hs2 F1 hb2)
    | (go_at_call 19; (with_reducible refine (HPD.out _).mono ?_); rintro e w3 ⟨rfl, hb3⟩; have F3 := Lib.hid (F2.out.below hb3); clear F2 hb3)
    | (go_at_call 19; (with_reducible refine (HPI.out _).mono ?_); rintro e w4 ⟨rfl, hb4⟩; have F4 := Lib.hid (F3.out.below hb4); clear F3 hb4)
    | (with_reducible refine at_any ?_; refine at_dst 7 rfl ?_; refine wpList_alloc_ints rfl 42 rfl .u8 V HV0.out ?_; intro w5 hk5 hs5 hb5; have U4 := Lib.hid (Fx.under_new F4.out rfl); have F5 := Lib.hid (Fx.new F4.out hk5.out hb5); clear hk5 hs5 F4 hb5)
    | (with_reducible refine at_any ?_; refine at_dst 8 rfl ?_; refine wpList_alloc_ints rfl 42 rfl .u8 V HV0.out ?_; intro w6 hk6 hs6 hb6; have U5 := Lib.hid (Fx.under_new F5.out rfl); have F6 := Lib.hid (Fx.new F5.out hk6.out hb6); clear hk6 hs6 F5 hb6)
    | (with_reducible refine at_any ?_; refine at_store 7 rfl ?_; refine wpList_store_ints rfl 42 (.tmp 7) (.tmp 10) rfl w4.heap.size rfl 42 .u8 V X (Fx.snd F6.out) rfl VX.out SX.out ?_; intro w7 hk7 hs7 hb7 ho7; have F7 := Lib.hid (Fx.put2 F6.out U5.out U4.out hk7.out hs7.out hb7 ho7); have U7 := Lib.hid (Fx.under_put U5.out (intsA .u8 X)); clear hk7 hs7 hb7 ho7 F6 U5)
    | (with_reducible refine at_any ?_; refine at_store 8 rfl ?_; refine wpList_store_ints rfl 42 (.tmp 8) (.tmp 12) rfl w5.heap.size rfl 42 .u8 V Y (Fx.fst F7.out) rfl VY.out SY.out ?_; intro w8 hk8 hs8 hb8 ho8; have F8 := Lib.hid (Fx.put1 F7.out U7.out hk8.out hs8.out hb8 ho8); clear hk8 hs8 hb8 ho8 F7))
  have hB : Blk4 w w5.heap.size w4.heap.size w1.heap.size w.heap.size Y X Z s w8 := F8.out
  have h7 : w4.heap.size < w5.heap.size := U7.out.1
  have h6 : w1.heap.size < w4.heap.size := U4.out.1
  have h3 : w.heap.size < w1.heap.size := U1.out.1
  clear F8 U7 U4 U1
  obtain ⟨g8, hg8⟩ : ∃ g, w5.heap.size = g := ⟨_, rfl⟩
  obtain ⟨g7, hg7⟩ : ∃ g, w4.heap.size = g := ⟨_, rfl⟩
  obtain ⟨g6, hg6⟩ : ∃ g, w1.heap.size = g := ⟨_, rfl⟩
  obtain ⟨g3, hg3⟩ : ∃ g, w.heap.size = g := ⟨_, rfl⟩
  have h0 : w.heap.size ≤ g3 := by omega
  rw [hg8, hg7, hg6, hg3] at hB
  rw [hg8, hg7] at h7
  rw [hg6, hg7] at h6
  rw [hg3, hg6] at h3
  rw [hg8, hg7, hg6, hg3]
  clear hg8 hg7 hg6 hg3
  refine wp_region_held_drew (S := Blk4W w g8 g7 g6 g3 Y X s) (by kernel_rfl) (hB.drew.any) (fun hS => ?_)
  have hH := hB.drew
  refine held_v 0 (some 13) rfl rfl (by kernel_rfl) (by kernel_rfl) (by kernel_rfl) (fun _ _ _ _ h => h) (by kernel_rfl) (.slice (some ⟨g3, 0, none⟩) 32 32) (fun W h => by go_simp) hS ?_
  try simp only [Act.put, List.setIfInBounds_toArray, List.set_cons_zero, List.set_cons_succ]
  refine held_v 1 (some 14) rfl rfl (by kernel_rfl) (by kernel_rfl) (by kernel_rfl) (fun _ _ _ _ h => h) (by kernel_rfl) (.slice (some ⟨g7, 0, none⟩) 8 8) (fun W h => by go_simp) hS ?_
  try simp only [Act.put, List.setIfInBounds_toArray, List.set_cons_zero, List.set_cons_succ]
  refine held_v 2 (some 15) rfl rfl (by kernel_rfl) (by kernel_rfl) (by kernel_rfl) (fun _ _ _ _ h => h) (by kernel_rfl) (.slice (some ⟨g8, 0, none⟩) 8 8) (fun W h => by go_simp) hS ?_
  try simp only [Act.put, List.setIfInBounds_toArray, List.set_cons_zero, List.set_cons_succ]
  refine wpAnyH_ready (rs := [3]) (by kernel_rfl) (by decide) ?_
  refine AllReadyH.cons rfl (fun K hK => ?_) AllReadyH.nil
  refine step_run (some 16) rfl (by kernel_rfl) _ (exec_build3 _ _ _ g3 g7 g8 32 8 8 rfl (by kernel_rfl) (by kernel_rfl) (by kernel_rfl)) ?_
  have hrow := rows3 hH.c3 hH.c7 hH.c8 HSL.out HXL.out HYL.out
  have hH9 := hH.below ((Below.refl _ _).alloc (Nat.le_refl _) (.cells (row3 g3 g7 g8 32 8 8) 29))
  refine hK.out _ _ hH9.any (fun hS => ?_)
  clear hK K
  try simp only [Act.put, List.setIfInBounds_toArray, List.set_cons_zero, List.set_cons_succ]
  refine wpAnyH_ready (rs := [4]) (by kernel_rfl) (by decide) ?_
  refine AllReadyH.cons rfl (fun K hK => ?_) AllReadyH.nil
  refine step_call (some 17) rfl (by kernel_rfl) _ _ (by kernel_rfl) _ (HSM.out g3 g7 g8 _ _ hrow (HKS.out.below hH9.bel)) ?_
  rintro e w10 ⟨rfl, hb10⟩
  rw [HJ.out g3 g7 g8]
  have hH10 := hH9.below hb10
  refine ⟨_, rfl, ?_⟩
  refine hK.out _ _ hH10.any (fun hS => ?_)
  clear hK K
  try simp only [Act.put, List.setIfInBounds_toArray, List.set_cons_zero, List.set_cons_succ]
  refine wpAnyH_ready (rs := [5]) (by kernel_rfl) (by decide) ?_
  refine AllReadyH.cons rfl (fun K hK => ?_) AllReadyH.nil
  refine step_store none rfl (by kernel_rfl) 23 (.tmp 6) (.tmp 17) rfl g6 (by kernel_rfl) 23 (intsA .u8 Z) (intsA .u8 R) hH10.c6 (by kernel_rfl) ZRA.out SRA.out (all_oneCell_toArray (ints_one .u8 R)) ?_
  intro w11 hk11 hs11 hb11 ho11
  have hH11 := hH10.put6 h6 h7 h3 h0 hk11.out hs11.out hb11 ho11
  refine hK.out _ _ hH11.any (fun hS => ?_)
  clear hK K
  try simp only [Act.put, List.setIfInBounds_toArray, List.set_cons_zero, List.set_cons_succ]
  refine wpAnyH_done (by kernel_rfl) ?_ _
  go_wp2_with (refine bodyPost_cell 6 23 rfl g6 rfl 23 .u8 R hH11.c6 _ Tryd.underlying23 rfl SR.out rfl ?_)
  exact hH11.bel
end Go.Proofs.YtdnjnbeoioicfaaDoor

/-
  What the program's writer that writes does with a block (take), and what else of memory it leaves.
  Conditions: those that each theorem names.
-/
import Derived.Test.YtdnjnbeoioicfaaDoorShaM
import Derived.Test.YtdnjnbeoioicfaaDoorCompT
set_option linter.unusedSimpArgs false
namespace Go.Proofs.YtdnjnbeoioicfaaDoor
open Go.ChangeShapes Go.WideShapes Go.ChangeAt Go.RowKit
set_option linter.unusedVariables false
/-- Nothing is handed back; the writer at g has this state, rest and bytes; nothing else has changed. -/
def RetG (w : World) (g : Nat) (V : Array Value) (e : Ending) (w' : World) : Prop := e = .returned (.tuple #[]) ∧ Blk w' g 71 V ∧ Only g w w'
set_option maxHeartbeats 1000000 in
theorem qtake_c (g : Nat) (A : Option Addr) (r c : Nat) (s b : List Int) (n : Int) (hl : s.length = 8) (hs : WIn s) (hbl : b.length = 64) (hb : ∀ z ∈ b, 0 ≤ z ∧ z < 256) (w : World) (hg : Blk w g 71 (wrV s A r c n)) (hkst : Kst w) :
    Calls Tryd.prog 39 #[.pointer (some ⟨g, 0, none⟩), .agg (intsA .u8 b)] w (RetG w g (wrV (takeL s b) A r c n)) := by
  have hyl := takeL_len s b hl
  have HC := Lib.hid (fun W => ctake_c s b hl hs hbl hb W)
  obtain ⟨y, hy⟩ : ∃ y, takeL s b = y := ⟨_, rfl⟩
  rw [hy] at hyl HC ⊢
  have HPU := Lib.hid (wrV_put s y hl hyl A r c n)
  have SS := Lib.hid (sized s hl)
  have SY := Lib.hid (show (Tryd.prog.info? 53).map (·.size) = some (intsA .u32 y).size by rw [intsA_size, hyl]; exact size_state)
  have SB := Lib.hid (show (Tryd.prog.info? 64).map (·.size) = some (b.map (Value.int .u8)).length by rw [List.length_map, hbl]; exact size_blk)
  have LY := Lib.hid (show (intsA .u32 y).size ≤ (wrV s A r c n).size by rw [intsA_size, hyl, wrV_size s hl]; omega)
  have OY := Lib.hid (all_oneCell_toArray (ints_one .u32 y))
  have HST := Lib.hid (fun W (h : Blk W g 71 (wrV s A r c n)) => wrV_range h)
  obtain ⟨V, hV⟩ : ∃ V, wrV s A r c n = V := ⟨_, rfl⟩
  rw [hV] at hg HPU LY HST
  have HG := Lib.hid hg
  have HK := Lib.hid hkst
  clear hV hy hl hs hbl hb hg hkst
  go_enter Tryd.func39, Tryd.ntmps39
  go_wp2_with (with_reducible refine at_any ?_; refine at_dst 3 rfl ?_; refine wpList_box_ints rfl 64 (.tmp 1) rfl .u8 b rfl ?_; intro w1 hk1 hs1 hb1)
  have HG1 := HG.out.below hb1 HG.out.lt
  have HO1 : Only g w w1 := Only.of_below hb1
  have HK1 := HK.out.below hb1
  have HB1 := hk1.out
  have hne : w.heap.size ≠ g := by have := HG.out.lt; omega
  obtain ⟨q, hq⟩ : ∃ q, w.heap.size = q := ⟨_, rfl⟩
  rw [hq] at HB1 hne
  rw [hq]
  clear hk1 hs1 hb1 hq
  refine wp_region_held_drew (S := LiesB q b) (by kernel_rfl) (HB1.drew) (fun hH => ?_)
  refine held_v 0 (some 4) rfl rfl (by kernel_rfl) (by kernel_rfl) (by kernel_rfl) (fun _ _ _ _ h => h) (by kernel_rfl) (.pointer (some ⟨g, 0, none⟩)) (fun W h => by go_simp) hH ?_
  try simp only [Act.put, List.setIfInBounds_toArray, List.set_cons_zero, List.set_cons_succ]
  refine held_v 1 (some 5) rfl rfl (by kernel_rfl) (by kernel_rfl) (by kernel_rfl) (fun _ _ _ _ h => h) (by kernel_rfl) (.pointer (some ⟨g, 0, none⟩)) (fun W h => by go_simp) hH ?_
  try simp only [Act.put, List.setIfInBounds_toArray, List.set_cons_zero, List.set_cons_succ]
  refine held_v 2 (some 6) rfl rfl (by kernel_rfl) (by kernel_rfl) (by kernel_rfl) (fun _ _ _ _ h => h) (by kernel_rfl) (.pointer (some ⟨g, 0, none⟩)) (fun W h => by go_simp) hH ?_
  try simp only [Act.put, List.setIfInBounds_toArray, List.set_cons_zero, List.set_cons_succ]
  refine held_v 3 (some 7) rfl rfl (by kernel_rfl) (by kernel_rfl) (by kernel_rfl) (fun _ _ _ _ h => h) (by kernel_rfl) (.pointer (some ⟨g, 0, none⟩)) (fun W h => by go_simp) hH ?_
  try simp only [Act.put, List.setIfInBounds_toArray, List.set_cons_zero, List.set_cons_succ]
  refine held_v 4 (some 8) rfl rfl (by kernel_rfl) (by kernel_rfl) (by kernel_rfl) (fun _ _ _ _ h => h) (by kernel_rfl) (.pointer (some ⟨g, 0, none⟩)) (fun W h => by go_simp) hH ?_
  try simp only [Act.put, List.setIfInBounds_toArray, List.set_cons_zero, List.set_cons_succ]
  refine held_load_at 6 (some 10) rfl rfl (by kernel_rfl) (by kernel_rfl) (by kernel_rfl) (fun _ _ _ _ h => h) (by kernel_rfl) 64 (.tmp 3) rfl q 0 (by kernel_rfl) (b.map (Value.int .u8)) (fun W h => blk_range h) _ Tryd.underlying64 rfl SB.out hH ?_
  try simp only [Act.put, List.setIfInBounds_toArray, List.set_cons_zero, List.set_cons_succ]
  refine wpAnyH_ready (rs := [5]) (by kernel_rfl) (by decide) ?_
  refine AllReadyH.cons rfl (fun K hK => ?_) AllReadyH.nil
  refine step_load_at (some 9) rfl (by kernel_rfl) 53 (.tmp 8) rfl g 0 (by kernel_rfl) (s.map (Value.int .u32)) (HST.out _ HG1.drew) _ Tryd.underlying53 rfl (by rw [List.length_map]; exact SS.out) ?_
  refine hK.out _ _ hH (fun _ => ?_)
  clear hK K
  try simp only [Act.put, List.setIfInBounds_toArray, List.set_cons_zero, List.set_cons_succ]
  refine wpAnyH_ready (rs := [7]) (by kernel_rfl) (by decide) ?_
  refine AllReadyH.cons rfl (fun K hK => ?_) AllReadyH.nil
  refine step_call (some 11) rfl (by kernel_rfl) _ _ (by kernel_rfl) _ (HC.out w1.drew HK1.drew) ?_
  rintro e w4 ⟨rfl, hb4⟩
  have HG4 := HG1.drew.below hb4 HG1.lt
  have hH4 : LiesB q b w4 := BlkI.below hH hb4 (BlkI.lt hH)
  have HO4 : Only g w w4 := HO1.trans (Only.of_below (w := w1.drew) hb4).of_drew
  refine ⟨_, rfl, ?_⟩
  refine hK.out _ _ hH4 (fun hH4 => ?_)
  clear hK K
  try simp only [Act.put, List.setIfInBounds_toArray, List.set_cons_zero, List.set_cons_succ]
  refine held_v 8 (some 12) rfl rfl (by kernel_rfl) (by kernel_rfl) (by kernel_rfl) (fun _ _ _ _ h => h) (by kernel_rfl) (.pointer (some ⟨g, 0, none⟩)) (fun W h => by go_simp) hH4 ?_
  try simp only [Act.put, List.setIfInBounds_toArray, List.set_cons_zero, List.set_cons_succ]
  refine held_v 9 (some 13) rfl rfl (by kernel_rfl) (by kernel_rfl) (by kernel_rfl) (fun _ _ _ _ h => h) (by kernel_rfl) (.pointer (some ⟨g, 0, none⟩)) (fun W h => by go_simp) hH4 ?_
  try simp only [Act.put, List.setIfInBounds_toArray, List.set_cons_zero, List.set_cons_succ]
  refine held_v 10 (some 14) rfl rfl (by kernel_rfl) (by kernel_rfl) (by kernel_rfl) (fun _ _ _ _ h => h) (by kernel_rfl) (.pointer (some ⟨g, 0, none⟩)) (fun W h => by go_simp) hH4 ?_
  try simp only [Act.put, List.setIfInBounds_toArray, List.set_cons_zero, List.set_cons_succ]
  refine wpAnyH_ready (rs := [11]) (by kernel_rfl) (by decide) ?_
  refine AllReadyH.cons rfl (fun K hK => ?_) AllReadyH.nil
  refine step_store_at none rfl (by kernel_rfl) 53 (.tmp 14) (.tmp 11) rfl g (by kernel_rfl) 71 V (intsA .u32 y) HG4 (by kernel_rfl) LY.out SY.out OY.out ?_
  intro w5 hk5 ho5
  have hH5 : LiesB q b w5 := Blk.only hH4 ho5 hne
  refine hK.out _ _ hH5 (fun _ => ?_)
  clear hK K
  try simp only [Act.put, List.setIfInBounds_toArray, List.set_cons_zero, List.set_cons_succ]
  refine wpAnyH_done (by kernel_rfl) ?_ _
  go_wp2
  go_end0
  exact ⟨rfl, by rw [← HPU.out]; exact hk5.out, HO4.trans ho5⟩
end Go.Proofs.YtdnjnbeoioicfaaDoor

/-
  What the program's package pad returns, and that it leaves memory as it was.
  Conditions: the arguments lie in their types' ranges; a message's length is small.
-/
import Derived.Test.YtdnjnbeoioicfaaDoorPadR
import Derived.Test.YtdnjnbeoioicfaaDoorCopyA
import Derived.Deep.RegionLaw
namespace Go.Proofs.YtdnjnbeoioicfaaDoor
open Go.ChangeShapes Go.WideShapes Go.ChangeAt Go.RowKit
set_option linter.unusedVariables false

theorem tail_cells (rest ps : List Int) (r z M : Nat) (hr : rest.length = r) (hp : ps.length = 8) (hM : r + 1 + z + 8 = M) :
    splice ((splice (List.replicate M 0) 0 rest).set r 128) (M - 8) ps = rest ++ 128 :: List.replicate z 0 ++ ps := by
  subst hr
  have e1 : splice (List.replicate M (0 : Int)) 0 rest = rest ++ 0 :: List.replicate (z + 8) 0 := by
    rw [← List.replicate_succ]
    simp [splice]; omega
  rw [e1, List.set_append_right _ _ (Nat.le_refl _), Nat.sub_self, List.set_cons_zero]
  have e2 : List.replicate (z + 8) (0 : Int) = List.replicate z 0 ++ List.replicate 8 0 := by rw [List.replicate_append_replicate]
  rw [e2, ← List.cons_append, ← List.append_assoc]
  unfold splice
  rw [List.take_append_of_le_length (by simp; omega), List.take_of_length_le (by simp; omega), List.drop_eq_nil_of_le (by simp; omega), List.append_nil]

def blocksN (n : Int) : Int := if 2305843009213693952 ≤ n then 0 else (n + 72) / 64
theorem size_u8 : (Tryd.prog.info? 5).map (·.size) = some 1 := by kernel_rfl

theorem pblocks_c (n : Int) (n0 : 0 ≤ n) (n1 : n < 18446744073709551616) (w : World) :
    Calls Tryd.prog 44 #[.int .u64 n] w fun e w' => e = .returned (.int .u64 (blocksN n)) ∧ w = w' := by
  unfold blocksN
  by_cases h : 2305843009213693952 ≤ n
  · rw [if_pos h]
    go_enter Tryd.func44, Tryd.ntmps44
    go_wp2
    go_ret
    exact ⟨rfl, rfl⟩
  · rw [if_neg h]
    have H := Lib.hid (show (n + 72) / 64 = (n + 8) / 64 + 1 by omega)
    go_enter Tryd.func44, Tryd.ntmps44
    go_wp2
    go_ret
    exact ⟨ret_int H.out.symm, rfl⟩

theorem ptail_no (A : Option Addr) (c r : Nat) (n : Int) (w : World) (hm : r ≤ 1000000) (n0 : 0 ≤ n) (n1 : n < 18446744073709551616) (hn : 2305843009213693952 ≤ n ∨ (r : Int) ≠ n % 64) :
    Calls Tryd.prog 37 #[.slice A r c, .int .u64 n] w (RetNo w) := by
  by_cases h : 2305843009213693952 ≤ n
  · have t : decide (2305843009213693952 ≤ n) = true := by simpa using h
    go_enter Tryd.func37, Tryd.ntmps37
    go_wp2
    go_ret2
    exact ⟨_, _, rfl, Below.refl _ _⟩
  · have h3 : (r : Int) ≠ n % 64 := by rcases hn with h1 | h1; exact absurd h1 h; exact h1
    have t1 : ((r : Int) != n % 64) = true := by rw [bne_iff_ne]; exact h3
    clear hn h3
    go_enter Tryd.func37, Tryd.ntmps37
    go_wp2
    go_ret2
    exact ⟨_, _, rfl, Below.refl _ _⟩

set_option maxHeartbeats 1000000 in
theorem ptail_a (A : Option Addr) (c r : Nat) (rest : List Int) (n : Int) (w : World) (hr : Rd .u8 w w.heap.size A r rest) (hc : r ≤ c) (n0 : 0 ≤ n) (n1 : n < 2305843009213693952) (hn : (r : Int) = n % 64) (hrz : r ≤ 55) :
    Calls Tryd.prog 37 #[.slice A r c, .int .u64 n] w (RetTailR w (tailL rest n)) := by
  obtain ⟨ps, hps⟩ : ∃ ps, put8L (8 * n) = ps := ⟨_, rfl⟩
  obtain ⟨p0, p1, p2, p3, p4, p5, p6, p7, rfl⟩ : ∃ p0 p1 p2 p3 p4 p5 p6 p7, ps = [p0, p1, p2, p3, p4, p5, p6, p7] := ⟨_, _, _, _, _, _, _, _, hps.symm⟩
  have hput := fun W => put64_c (n * 8) (by omega) (by omega) W
  rw [put8_list, show put8L (n * 8) = put8L (8 * n) by rw [Int.mul_comm], hps] at hput
  have htl : tailL rest n = rest ++ 128 :: List.replicate (zer r) 0 ++ [p0, p1, p2, p3, p4, p5, p6, p7] := by unfold tailL; rw [hr.len, hps]
  rw [htl]
  have HP := Lib.hid hput
  have hps8 : [p0, p1, p2, p3, p4, p5, p6, p7].length = 8 := rfl
  clear hput hps htl
  obtain ⟨ps, hps⟩ : ∃ ps, [p0, p1, p2, p3, p4, p5, p6, p7] = ps := ⟨_, rfl⟩
  rw [hps] at hps8 ⊢
  have HPS := Lib.hid hps
  have HP8 := Lib.hid hps8
  clear hps hps8
  obtain ⟨i0, hi, hz0, hz1, hzb⟩ := info_parts info_u8'
  have r1 : r < 64 := by omega
  have t1 : ((r : Int) != n % 64) = false := by rw [hn]; simp
  have hl := Lib.hid hr.len
  have hq : blocksN (n % 64) = if r ≤ 55 then 1 else 2 := by
    unfold blocksN
    rw [if_neg (by omega)]
    split <;> omega
  rw [if_pos hrz] at hq
  obtain ⟨zs, hzs⟩ : ∃ zs : List Int, List.replicate 64 0 = zs := ⟨_, rfl⟩
  have hmk : ∀ W, (Instr.makeSlice 29 (.int .u64 64) (.int .u64 64)).run Tryd.prog W = .ok (.slice (some ⟨W.heap.size, 0, none⟩) 64 64) (W.alloc (.cells (intsA .u8 (List.replicate 64 0)) 5)) := fun W => run_make_ints (P := Tryd.prog) 29 5 i0 .u8 Tryd.underlying29 hi hz0 hz1 .u64 .u64 64 (by rw [hzb]; decide) (by decide) W
  have hcells := tail_cells rest ps r (zer r) 64 hr.len HP8.out (by unfold zer; rw [if_pos hrz]; omega)
  have hlen : (rest ++ 128 :: List.replicate (zer r) 0 ++ ps).length = 64 := by
    rw [← hcells, length_splice, List.length_set, length_splice] <;> simp [hr.len, HP8.out, splice] <;> omega
  rw [hzs] at hmk hcells
  have hzl : zs.length = 64 := by rw [← hzs]; simp
  have HSL := Lib.hid (show (splice zs 0 rest).length = 64 by rw [length_splice _ _ _ (by rw [hzl, hr.len]; omega), hzl])
  have HZL := Lib.hid hzl
  have HQ := Lib.hid hq
  have HC := Lib.hid hcells
  have HLN := Lib.hid hlen
  have HR := Lib.hid hr
  clear hn hq hzl hzs hcells hlen hr
  obtain ⟨T, hT⟩ : ∃ T, rest ++ 128 :: List.replicate (zer r) 0 ++ ps = T := ⟨_, rfl⟩
  rw [hT] at HC HLN ⊢
  clear hT
  go_enter Tryd.func37, Tryd.ntmps37
  go_wp2_with (first
    | (go_at_call 44; (with_reducible refine (pblocks_c _ (by omega) (by omega) _).mono ?_); rw [HQ.out]; rintro e _ ⟨rfl, rfl⟩)
    | (with_reducible refine at_any ?_; refine at_dst 25 rfl ?_; refine wpList_copy_ints rfl (.tmp 23) (.tmp 24) 29 29 rfl 5 Tryd.underlying29 size_u8 _ _ _ _ _ _ rfl rfl w.heap.size 0 .u8 zs 5 (BlkI.new _ _ _ _) r (by omega) w.heap.size rest (HR.out.alloc (Nat.le_refl _) _) (fun _ => rfl) (by rw [HZL.out]; omega) w.heap.size w ((Below.refl _ _).alloc (Nat.le_refl _) _) (Nat.le_refl _) ?_; intro w1 HK1 hb1; have hlt1 := HK1.out.lt; have hc1 := HK1.out.cell (j := r) (by rw [HSL.out]; omega); have hf1 := HK1.out.frozen r; have HK2 := Lib.hid (HK1.out.set_ r 128); have HB2 := Lib.hid (hb1.setCell (p := ⟨w.heap.size, r, none⟩) (Nat.le_refl _) (.int .u8 128)))
    | (go_at_call 19; (with_reducible refine (HP.out _).mono ?_); rintro e w4 ⟨rfl, hb4, _⟩))
  have HK4 := Lib.hid ((HK2.out.below hb4 HK2.out.lt).alloc (Obj.cells #[.int .u8 p0, .int .u8 p1, .int .u8 p2, .int .u8 p3, .int .u8 p4, .int .u8 p5, .int .u8 p6, .int .u8 p7] 42))
  have HB4 := Lib.hid ((HB2.out.trans (hb4.mono HB2.out.size)).alloc (HB2.out.trans (hb4.mono HB2.out.size)).size (Obj.cells #[.int .u8 p0, .int .u8 p1, .int .u8 p2, .int .u8 p3, .int .u8 p4, .int .u8 p5, .int .u8 p6, .int .u8 p7] 42))
  have HP4 : Hid (BlkI (w4.alloc (Obj.cells #[.int .u8 p0, .int .u8 p1, .int .u8 p2, .int .u8 p3, .int .u8 p4, .int .u8 p5, .int .u8 p6, .int .u8 p7] 42)) w4.heap.size 42 .u8 ps) := by rw [← HPS.out]; exact BlkI.new w4 _ .u8 [p0, p1, p2, p3, p4, p5, p6, p7]
  obtain ⟨W5, hW5⟩ : ∃ W5, w4.alloc (Obj.cells #[.int .u8 p0, .int .u8 p1, .int .u8 p2, .int .u8 p3, .int .u8 p4, .int .u8 p5, .int .u8 p6, .int .u8 p7] 42) = W5 := ⟨_, rfl⟩
  rw [hW5] at HK4 HB4 HP4 ⊢
  obtain ⟨g5, hg5⟩ : ∃ g5, w4.heap.size = g5 := ⟨_, rfl⟩
  rw [hg5] at HP4 ⊢
  have HR5 : Hid (Rd .u8 W5 W5.heap.size (some ⟨g5, 0, none⟩) 8 ps) := by have := HP4.out.rd; rwa [HP8.out] at this
  clear hW5 hg5 hb4 hb1 HB2 HK2 HK1 hc1 hf1 hlt1 HP hmk
  have w56 : IntKind.i64.wrap 56 = 56 := by decide
  go_region_law (refine step_dst 39 rfl ?_; refine step_copy_ints rfl (.tmp 37) (.tmp 38) 29 29 rfl 5 Tryd.underlying29 size_u8 (some ⟨w.heap.size, 56, none⟩) (some ⟨g5, 0, none⟩) 8 8 8 8 (by kernel_rfl) (by kernel_rfl) w.heap.size 56 .u8 _ 5 HK4.out.drew 8 (by omega) _ ps HR5.out.drew (fun _ => rfl) (by rw [List.length_set, HSL.out]; omega) w.heap.size w HB4.out.drew (Nat.le_refl _) ?_; intro w6 HK6 hb6)
  all_goals
    go_wp2
    go_ret2
    have hk := HK6.out
    rw [HC.out] at hk
    have hrd := hk.rd
    rw [HLN.out] at hrd
    exact ⟨some ⟨w.heap.size, 0, none⟩, 64, by rw [HLN.out]; rfl, by rw [HLN.out]; exact hrd, by rw [HLN.out]; omega, hb6⟩

set_option maxHeartbeats 1000000 in
theorem ptail_b (A : Option Addr) (c r : Nat) (rest : List Int) (n : Int) (w : World) (hr : Rd .u8 w w.heap.size A r rest) (hc : r ≤ c) (n0 : 0 ≤ n) (n1 : n < 2305843009213693952) (hn : (r : Int) = n % 64) (hrz : ¬ r ≤ 55) :
    Calls Tryd.prog 37 #[.slice A r c, .int .u64 n] w (RetTailR w (tailL rest n)) := by
  obtain ⟨ps, hps⟩ : ∃ ps, put8L (8 * n) = ps := ⟨_, rfl⟩
  obtain ⟨p0, p1, p2, p3, p4, p5, p6, p7, rfl⟩ : ∃ p0 p1 p2 p3 p4 p5 p6 p7, ps = [p0, p1, p2, p3, p4, p5, p6, p7] := ⟨_, _, _, _, _, _, _, _, hps.symm⟩
  have hput := fun W => put64_c (n * 8) (by omega) (by omega) W
  rw [put8_list, show put8L (n * 8) = put8L (8 * n) by rw [Int.mul_comm], hps] at hput
  have htl : tailL rest n = rest ++ 128 :: List.replicate (zer r) 0 ++ [p0, p1, p2, p3, p4, p5, p6, p7] := by unfold tailL; rw [hr.len, hps]
  rw [htl]
  have HP := Lib.hid hput
  have hps8 : [p0, p1, p2, p3, p4, p5, p6, p7].length = 8 := rfl
  clear hput hps htl
  obtain ⟨ps, hps⟩ : ∃ ps, [p0, p1, p2, p3, p4, p5, p6, p7] = ps := ⟨_, rfl⟩
  rw [hps] at hps8 ⊢
  have HPS := Lib.hid hps
  have HP8 := Lib.hid hps8
  clear hps hps8
  obtain ⟨i0, hi, hz0, hz1, hzb⟩ := info_parts info_u8'
  have r1 : r < 64 := by omega
  have t1 : ((r : Int) != n % 64) = false := by rw [hn]; simp
  have hl := Lib.hid hr.len
  have hq : blocksN (n % 64) = if r ≤ 55 then 1 else 2 := by
    unfold blocksN
    rw [if_neg (by omega)]
    split <;> omega
  rw [if_neg hrz] at hq
  obtain ⟨zs, hzs⟩ : ∃ zs : List Int, List.replicate 128 0 = zs := ⟨_, rfl⟩
  have hmk : ∀ W, (Instr.makeSlice 29 (.int .u64 128) (.int .u64 128)).run Tryd.prog W = .ok (.slice (some ⟨W.heap.size, 0, none⟩) 128 128) (W.alloc (.cells (intsA .u8 (List.replicate 128 0)) 5)) := fun W => run_make_ints (P := Tryd.prog) 29 5 i0 .u8 Tryd.underlying29 hi hz0 hz1 .u64 .u64 128 (by rw [hzb]; decide) (by decide) W
  have hcells := tail_cells rest ps r (zer r) 128 hr.len HP8.out (by unfold zer; rw [if_neg hrz]; omega)
  have hlen : (rest ++ 128 :: List.replicate (zer r) 0 ++ ps).length = 128 := by
    rw [← hcells, length_splice, List.length_set, length_splice] <;> simp [hr.len, HP8.out, splice] <;> omega
  rw [hzs] at hmk hcells
  have hzl : zs.length = 128 := by rw [← hzs]; simp
  have HSL := Lib.hid (show (splice zs 0 rest).length = 128 by rw [length_splice _ _ _ (by rw [hzl, hr.len]; omega), hzl])
  have HZL := Lib.hid hzl
  have HQ := Lib.hid hq
  have HC := Lib.hid hcells
  have HLN := Lib.hid hlen
  have HR := Lib.hid hr
  clear hn hq hzl hzs hcells hlen hr
  obtain ⟨T, hT⟩ : ∃ T, rest ++ 128 :: List.replicate (zer r) 0 ++ ps = T := ⟨_, rfl⟩
  rw [hT] at HC HLN ⊢
  clear hT
  go_enter Tryd.func37, Tryd.ntmps37
  go_wp2_with (first
    | (go_at_call 44; (with_reducible refine (pblocks_c _ (by omega) (by omega) _).mono ?_); rw [HQ.out]; rintro e _ ⟨rfl, rfl⟩)
    | (with_reducible refine at_any ?_; refine at_dst 25 rfl ?_; refine wpList_copy_ints rfl (.tmp 23) (.tmp 24) 29 29 rfl 5 Tryd.underlying29 size_u8 _ _ _ _ _ _ rfl rfl w.heap.size 0 .u8 zs 5 (BlkI.new _ _ _ _) r (by omega) w.heap.size rest (HR.out.alloc (Nat.le_refl _) _) (fun _ => rfl) (by rw [HZL.out]; omega) w.heap.size w ((Below.refl _ _).alloc (Nat.le_refl _) _) (Nat.le_refl _) ?_; intro w1 HK1 hb1; have hlt1 := HK1.out.lt; have hc1 := HK1.out.cell (j := r) (by rw [HSL.out]; omega); have hf1 := HK1.out.frozen r; have HK2 := Lib.hid (HK1.out.set_ r 128); have HB2 := Lib.hid (hb1.setCell (p := ⟨w.heap.size, r, none⟩) (Nat.le_refl _) (.int .u8 128)))
    | (go_at_call 19; (with_reducible refine (HP.out _).mono ?_); rintro e w4 ⟨rfl, hb4, _⟩))
  have HK4 := Lib.hid ((HK2.out.below hb4 HK2.out.lt).alloc (Obj.cells #[.int .u8 p0, .int .u8 p1, .int .u8 p2, .int .u8 p3, .int .u8 p4, .int .u8 p5, .int .u8 p6, .int .u8 p7] 42))
  have HB4 := Lib.hid ((HB2.out.trans (hb4.mono HB2.out.size)).alloc (HB2.out.trans (hb4.mono HB2.out.size)).size (Obj.cells #[.int .u8 p0, .int .u8 p1, .int .u8 p2, .int .u8 p3, .int .u8 p4, .int .u8 p5, .int .u8 p6, .int .u8 p7] 42))
  have HP4 : Hid (BlkI (w4.alloc (Obj.cells #[.int .u8 p0, .int .u8 p1, .int .u8 p2, .int .u8 p3, .int .u8 p4, .int .u8 p5, .int .u8 p6, .int .u8 p7] 42)) w4.heap.size 42 .u8 ps) := by rw [← HPS.out]; exact BlkI.new w4 _ .u8 [p0, p1, p2, p3, p4, p5, p6, p7]
  obtain ⟨W5, hW5⟩ : ∃ W5, w4.alloc (Obj.cells #[.int .u8 p0, .int .u8 p1, .int .u8 p2, .int .u8 p3, .int .u8 p4, .int .u8 p5, .int .u8 p6, .int .u8 p7] 42) = W5 := ⟨_, rfl⟩
  rw [hW5] at HK4 HB4 HP4 ⊢
  obtain ⟨g5, hg5⟩ : ∃ g5, w4.heap.size = g5 := ⟨_, rfl⟩
  rw [hg5] at HP4 ⊢
  have HR5 : Hid (Rd .u8 W5 W5.heap.size (some ⟨g5, 0, none⟩) 8 ps) := by have := HP4.out.rd; rwa [HP8.out] at this
  clear hW5 hg5 hb4 hb1 HB2 HK2 HK1 hc1 hf1 hlt1 HP hmk
  have w120 : IntKind.i64.wrap 120 = 120 := by decide
  go_region_law (refine step_dst 39 rfl ?_; refine step_copy_ints rfl (.tmp 37) (.tmp 38) 29 29 rfl 5 Tryd.underlying29 size_u8 (some ⟨w.heap.size, 120, none⟩) (some ⟨g5, 0, none⟩) 8 8 8 8 (by kernel_rfl) (by kernel_rfl) w.heap.size 120 .u8 _ 5 HK4.out.drew 8 (by omega) _ ps HR5.out.drew (fun _ => rfl) (by rw [List.length_set, HSL.out]; omega) w.heap.size w HB4.out.drew (Nat.le_refl _) ?_; intro w6 HK6 hb6)
  all_goals
    go_wp2
    go_ret2
    have hk := HK6.out
    rw [HC.out] at hk
    have hrd := hk.rd
    rw [HLN.out] at hrd
    exact ⟨some ⟨w.heap.size, 0, none⟩, 128, by rw [HLN.out]; rfl, by rw [HLN.out]; exact hrd, by rw [HLN.out]; omega, hb6⟩

theorem ptail_c (A : Option Addr) (c r : Nat) (rest : List Int) (n : Int) (w : World) (hr : Rd .u8 w w.heap.size A r rest) (hc : r ≤ c) (n0 : 0 ≤ n) (n1 : n < 2305843009213693952) (hn : (r : Int) = n % 64) :
    Calls Tryd.prog 37 #[.slice A r c, .int .u64 n] w (RetTailR w (tailL rest n)) := by
  by_cases hrz : r ≤ 55
  · exact ptail_a A c r rest n w hr hc n0 n1 hn hrz
  · exact ptail_b A c r rest n w hr hc n0 n1 hn hrz
end Go.Proofs.YtdnjnbeoioicfaaDoor

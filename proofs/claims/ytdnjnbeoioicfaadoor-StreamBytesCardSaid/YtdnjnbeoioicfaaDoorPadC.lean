/-
  What the program's pad.Cut returns, and that it leaves memory as it was.
  Conditions: the arguments lie in their types' ranges; a message's length is small.
-/
import Derived.Test.YtdnjnbeoioicfaaDoorPadT
namespace Go.Proofs.YtdnjnbeoioicfaaDoor
open Go.ChangeShapes Go.WideShapes Go.ChangeAt Go.RowKit
set_option linter.unusedVariables false

/-- The blocks' cells when j of them are filled. -/
def cutL (zs : List Int) (q j : Nat) : List Int := zs.take (64 * j) ++ List.replicate (64 * (q - j)) 0
theorem cutL_len (zs : List Int) (q j : Nat) (hj : j ≤ q) (hz : 64 * q ≤ zs.length) : (cutL zs q j).length = q * 64 := by
  simp [cutL]; omega
theorem cutL_zero (zs : List Int) (q : Nat) : List.replicate (q * 64) 0 = cutL zs q 0 := by simp [cutL, Nat.mul_comm]
theorem cutL_full (zs : List Int) (q : Nat) : cutL zs q q = zs.take (64 * q) := by simp [cutL]
theorem cutL_next (zs : List Int) (q j : Nat) (hj : j < q) (hz : 64 * q ≤ zs.length) : splice (cutL zs q j) (j * 64) ((zs.drop (64 * j)).take 64) = cutL zs q (j + 1) := by
  have e1 : (zs.take (64 * j)).length = j * 64 := by rw [List.length_take]; omega
  have e2 : ((zs.drop (64 * j)).take 64).length = 64 := by rw [List.length_take, List.length_drop]; omega
  have e3 : zs.take (64 * (j + 1)) = zs.take (64 * j) ++ (zs.drop (64 * j)).take 64 := by rw [Nat.mul_add, Nat.mul_one, List.take_add]
  rw [show cutL zs q (j + 1) = zs.take (64 * j) ++ (zs.drop (64 * j)).take 64 ++ List.replicate (64 * (q - (j + 1))) 0 by unfold cutL; rw [e3]]
  obtain ⟨x, hx⟩ : ∃ x, (zs.drop (64 * j)).take 64 = x := ⟨_, rfl⟩
  obtain ⟨h, hh⟩ : ∃ h, zs.take (64 * j) = h := ⟨_, rfl⟩
  unfold splice cutL
  rw [hh] at e1 ⊢
  rw [hx] at e2 ⊢
  rw [e2, List.take_append_of_le_length (by omega), List.take_of_length_le (by omega), List.drop_append, List.drop_eq_nil_of_le (by omega), List.nil_append, List.drop_replicate, List.append_assoc, e1]
  congr 3
  omega
theorem splice_all (L cs : List Int) (h : L.length = cs.length) : splice L 0 cs = cs := by
  unfold splice
  rw [List.take_zero, List.nil_append, Nat.zero_add, List.drop_eq_nil_of_le (by omega), List.append_nil]
theorem cutN_flat (zs : List Int) (q : Nat) : (cutN zs q).flatten = zs.take (64 * q) := by
  induction q with
  | zero => simp [cutN]
  | succ q ih =>
    rw [show cutN zs (q + 1) = cutN zs q ++ [(zs.drop (64 * q)).take 64] by unfold cutN; rw [List.range_succ, List.map_append]; rfl, List.flatten_append, ih, Nat.mul_add, Nat.mul_one, List.take_add]
    simp
theorem cutN_len (zs : List Int) (q : Nat) (hz : 64 * q ≤ zs.length) : ∀ x ∈ cutN zs q, x.length = 64 := by
  intro x hx
  unfold cutN at hx
  obtain ⟨i, hi, rfl⟩ := List.mem_map.1 hx
  have := List.mem_range.1 hi
  rw [List.length_take, List.length_drop]
  omega

set_option maxHeartbeats 1000000 in
theorem pcut_c (A : Option Addr) (c L : Nat) (zs : List Int) (w : World) (hr : Rd .u8 w w.heap.size A L zs) (hc : L ≤ c) (hL : L ≤ 1000000) :
    Calls Tryd.prog 38 #[.slice A L c] w (RetCutR w zs (L / 64) L (cutN zs (L / 64))) := by
  obtain ⟨i0, hi, hz0, hz1, hzb⟩ := info_parts info_u8'
  obtain ⟨i1, hi1, hy0, hy1, hyb⟩ := info_parts info_a64
  obtain ⟨q, hq⟩ : ∃ q, L / 64 = q := ⟨_, rfl⟩
  rw [hq]
  have hqI : (L : Int) / 64 = (q : Int) := by omega
  have hq1 : 64 * q ≤ L := by omega
  have hq2 : L < 64 * q + 64 := by omega
  obtain ⟨k, hk⟩ : ∃ k, L - 64 * q = k := ⟨_, rfl⟩
  have hkI : (L : Int) % 64 = (k : Int) := by omega
  have hmk : ∀ W, (Instr.makeSlice 47 (.int .i64 (q : Int)) (.int .i64 (q : Int))).run Tryd.prog W = .ok (.slice (some ⟨W.heap.size, 0, none⟩) q q) (W.alloc (.cells (intsA .u8 (List.replicate (q * 64) 0)) 64)) := fun W => run_make_arrs (P := Tryd.prog) 47 64 i1 .u8 64 (by omega) Tryd.underlying47 hi1 hy0 hy1 .i64 .i64 q (by rw [hyb]; omega) (by omega) W
  rw [cutL_zero zs] at hmk
  have hmk2 : ∀ W, (Instr.makeSlice 29 (.int .i64 (k : Int)) (.int .i64 (k : Int))).run Tryd.prog W = .ok (.slice (some ⟨W.heap.size, 0, none⟩) k k) (W.alloc (.cells (intsA .u8 (List.replicate k 0)) 5)) := fun W => run_make_ints (P := Tryd.prog) 29 5 i0 .u8 Tryd.underlying29 hi hz0 hz1 .i64 .i64 k (by rw [hzb]; omega) (by omega) W
  obtain ⟨ks, hks⟩ : ∃ ks : List Int, List.replicate k 0 = ks := ⟨_, rfl⟩
  rw [hks] at hmk2
  have HKS := Lib.hid hks
  have hlen := Lib.hid hr.len
  have HR := Lib.hid hr
  have HK := Lib.hid hk
  clear hq hks hr hk
  go_enter Tryd.func38, Tryd.ntmps38
  go_wp2
  go_loopw [13] (fun a wr => ∃ j : Nat, j ≤ q ∧ a = .int .i64 j ∧ BlkI wr w.heap.size 64 .u8 (cutL zs q j) ∧ Below w.heap.size w wr) (fun a _ => q - (intOf a).toNat)
  case atStart => exact ⟨0, by omega, rfl, BlkI.new _ _ _ _, (Below.refl _ _).alloc (Nat.le_refl _) _⟩
  case round =>
    obtain ⟨j, hj, rfl, hblk, hb⟩ := hrel
    by_cases hlt : j < q
    · obtain ⟨m, hm⟩ : ∃ m, 64 * j = m := ⟨_, rfl⟩
      have e64 : IntKind.i64.wrap ((j : Int) * 64) = (m : Int) := by rw [IntWalk.i64_in _ (by omega)]; omega
      have m0 : (0 : Int) ≤ (m : Int) := by omega
      have m1 : (m : Int) ≤ (L : Int) := by omega
      have m2 : m + 64 ≤ L := by omega
      have m3 : ¬ c = m := by omega
      have j0 : (0 : Int) ≤ (j : Int) := by omega
      have j1 : (j : Int) < (q : Int) := by omega
      have hsrc := ((HR.out.below hb).from_ (i := m) (by omega) hc).upto (j := 64) (by omega)
      rw [if_neg m3] at hsrc
      obtain ⟨b0, off, rfl, hb0, _⟩ := HR.out.at_ (by omega)
      rw [Option.map_some, Nat.mul_one, add_flat] at hsrc
      have hnx := cutL_next zs q j hlt (by rw [hlen.out]; exact hq1)
      rw [hm] at hnx
      obtain ⟨x, hx⟩ : ∃ x, (zs.drop m).take 64 = x := ⟨_, rfl⟩
      rw [hx] at hnx hsrc
      have hcl := cutL_len zs q j hj (by rw [hlen.out]; exact hq1)
      have HNX := Lib.hid hnx
      have HCL := Lib.hid hcl
      have HSR := Lib.hid hsrc
      have HBL := Lib.hid hblk
      have HB := Lib.hid hb
      clear hnx hcl hsrc hblk hx hm hb
      go_wp2
      go_region_law (refine step_dst 24 rfl ?_; refine step_copy_ints rfl (.tmp 19) (.tmp 23) 29 29 rfl 5 Tryd.underlying29 size_u8 (some ⟨w.heap.size, j * 64, none⟩) (some ⟨b0, off + m, none⟩) 64 64 (L - m) (c - m) (by kernel_rfl) (by kernel_rfl) w.heap.size (j * 64) .u8 _ 64 HBL.out.drew 64 (by omega) _ x HSR.out.drew (fun _ => rfl) (by rw [HCL.out]; omega) w.heap.size w HB.out.drew (Nat.le_refl _) ?_; intro w6 HK6 hb6)
      all_goals
        go_wp2
        go_roundw
        case rel => exact ⟨j + 1, by omega, by go_num, by rw [← HNX.out]; exact HK6.out, hb6⟩
        case measure => simp [intOf]; omega
    · obtain rfl : j = q := by omega
      have hk1 := HK.out
      have hfr : Rd .u8 wr w.heap.size (if c = L - k then A else A.map (·.add ((L - k) * 1))) k (zs.drop (64 * j)) := by
        have h := (HR.out.below hb).from_ (i := L - k) (by omega) hc
        rw [show L - (L - k) = k by omega, show zs.drop (L - k) = zs.drop (64 * j) by congr 1; omega] at h
        exact h
      rw [Nat.mul_one] at hfr
      have hdl : (zs.drop (64 * j)).length = k := by rw [List.length_drop, hlen.out]; exact hk1
      obtain ⟨y, hy⟩ : ∃ y, zs.drop (64 * j) = y := ⟨_, rfl⟩
      have hsp := splice_all ks y (by rw [← HKS.out, ← hy, hdl]; simp)
      have hkl : ks.length = k := by rw [← HKS.out]; simp
      have HY := Lib.hid hy
      rw [hy] at hfr hdl
      have HDL := Lib.hid hdl
      have HSP := Lib.hid hsp
      have HKL := Lib.hid hkl
      have HBL := Lib.hid hblk
      have HB := Lib.hid hb
      have hkL : k ≤ L := by omega
      clear hdl hsp hkl hblk hb hk1 hy HKS
      by_cases hck : c = L - k
      all_goals
        first | rw [if_pos hck] at hfr | rw [if_neg hck] at hfr
        have HF := Lib.hid hfr
        clear hfr
        go_wp2_with (with_reducible refine at_any ?_; refine at_dst 38 rfl ?_; refine wpList_copy_ints rfl (.tmp 30) (.tmp 37) 29 29 rfl 5 Tryd.underlying29 size_u8 _ _ _ _ _ _ rfl rfl wr.heap.size 0 .u8 ks 5 (BlkI.new _ _ _ _) k (by omega) w.heap.size y (HF.out.alloc HB.out.size _) (fun _ => rfl) (by rw [HKL.out]; omega) wr.heap.size wr ((Below.refl _ _).alloc (Nat.le_refl _) _) (Nat.le_refl _) ?_; intro w7 HK7 hb7)
        go_ret2
        have hcn : (cutN zs j).length = j := by simp [cutN]
        have hkk := HK7.out
        rw [HSP.out] at hkk
        have hr2 := hkk.rd
        rw [HDL.out] at hr2
        have hr1 := (HBL.out.below hb7 HBL.out.lt).rdA (s := 64) (bs := cutN zs j) (by rw [cutL_full, cutN_flat]) (cutN_len zs j (by rw [hlen.out]; exact hq1))
        rw [hcn] at hr1
        exact ⟨some ⟨w.heap.size, 0, none⟩, j, some ⟨wr.heap.size, 0, none⟩, k, by rw [hcn, HK.out]; rfl, by rw [hcn]; exact hr1, by rw [HK.out, HY.out]; exact hr2, by rw [HK.out]; exact Nat.le_refl _, HB.out.trans (hb7.mono HB.out.size)⟩
end Go.Proofs.YtdnjnbeoioicfaaDoor

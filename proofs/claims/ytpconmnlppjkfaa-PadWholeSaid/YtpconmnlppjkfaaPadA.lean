/-
  What the program's pad.Pad and pad.Cut return, and that they leave memory as it was.
  Conditions: the arguments lie in their types' ranges; a message's length is small.
-/
import Derived.Test.YtpconmnlppjkfaaPadC
namespace Go.Proofs.Ytpconmnlppjkfaa
open Go.ChangeShapes Go.WideShapes Go.ChangeAt Go.RowKit
set_option linter.unusedVariables false

theorem pad_cells (hd tl : List Int) (N t : Nat) (h1 : hd.length = N) (h2 : tl.length = t) : splice (splice (List.replicate (N + t) 0) 0 hd) N tl = hd ++ tl := by
  subst h1; subst h2
  have e : splice (List.replicate (hd.length + tl.length) (0 : Int)) 0 hd = hd ++ List.replicate tl.length 0 := by simp [splice]
  rw [e]
  unfold splice
  rw [List.take_left, List.drop_eq_nil_of_le (by simp), List.append_nil]

set_option maxHeartbeats 1000000 in
theorem ppad_c (A : Option Addr) (c L : Nat) (b : List Int) (w : World) (hr : Rd .u8 w w.heap.size A L b) (hc : L ≤ c) (hL : L ≤ 1000000) :
    Calls Try.prog 14 #[.slice A L c] w (RetR w (padL b)) := by
  obtain ⟨i0, hi, hz0, hz1, hzb⟩ := info_parts info_u8'
  obtain ⟨N, hN⟩ : ∃ N : Nat, N = L - L % 64 := ⟨_, rfl⟩
  have hN1 : (L : Int) - (L : Int) % 64 = (N : Int) := by omega
  have hN2 : N ≤ L := by omega
  have hN3 : L < N + 64 := by omega
  have hrest := hr.from_ hN2 hc
  have hhead := hr.upto hN2
  have hp : padL b = b.take N ++ tailL (b.drop N) L := by unfold padL; rw [hr.len, ← hN]
  rw [hp]
  have hl := hr.len
  have e1 : (b.take N).length = N := by rw [List.length_take, hl]; omega
  have e2 : (tailL (b.drop N) L).length ≤ L - N + 128 := by
    rw [tailL_len, List.length_drop, hl]
    have := zer_le (L - N)
    omega
  have e3 : ((L - N : Nat) : Int) = (L : Int) % 64 := by omega
  have E3 := Lib.hid e3
  obtain ⟨tl, htl⟩ : ∃ tl, tailL (b.drop N) L = tl := ⟨_, rfl⟩
  obtain ⟨t, ht⟩ : ∃ t, tl.length = t := ⟨_, rfl⟩
  have HTL := Lib.hid htl
  have HT := Lib.hid ht
  rw [htl, ht] at e2
  rw [htl]
  obtain ⟨M, hM⟩ : ∃ M, N + t = M := ⟨_, rfl⟩
  have hcells := pad_cells (b.take N) tl N t e1 ht
  have hlen : (b.take N ++ tl).length = M := by rw [List.length_append, e1, ht, hM]
  obtain ⟨hd, hhd⟩ : ∃ hd, b.take N = hd := ⟨_, rfl⟩
  rw [hhd] at hcells hlen e1 hhead ⊢
  rw [hM] at hcells
  obtain ⟨zs, hzs⟩ : ∃ zs : List Int, List.replicate M 0 = zs := ⟨_, rfl⟩
  have hmk : ∀ W, (Instr.makeSlice 22 (.int .u64 (M : Int)) (.int .u64 (M : Int))).run Try.prog W = .ok (.slice (some ⟨W.heap.size, 0, none⟩) M M) (W.alloc (.cells (intsA .u8 (List.replicate M 0)) 5)) := fun W => run_make_ints (P := Try.prog) 22 5 i0 .u8 Try.underlying22 hi hz0 hz1 .u64 .u64 M (by rw [hzb]; omega) (by omega) W
  rw [hzs] at hmk hcells
  have hzl : zs.length = M := by rw [← hzs]; simp
  have HZL := Lib.hid hzl
  have HSL := Lib.hid (show (splice zs 0 hd).length = M by rw [length_splice _ _ _ (by rw [hzl, e1]; omega), hzl])
  have HC := Lib.hid hcells
  have HLN := Lib.hid hlen
  have HH := Lib.hid hhead
  have hM1 : (N : Int) + (t : Int) = (M : Int) := by omega
  have hM2 : N ≤ M := by omega
  have ht1 : 0 < t := by rw [← ht, ← htl, tailL_len]; omega
  have hM3 : ¬ M = N := by omega
  obtain ⟨T, hT⟩ : ∃ T, hd ++ tl = T := ⟨_, rfl⟩
  rw [hT] at HC HLN ⊢
  clear hN hp hl e1 e3 htl hhead hr hT hzs hzl hcells hlen hhd ht
  rw [Nat.mul_one] at hrest
  by_cases hcN : c = N
  all_goals
    first | rw [if_pos hcN] at hrest | rw [if_neg hcN] at hrest
    have HR := Lib.hid hrest
    clear hrest
    go_enter Try.func14, Try.ntmps14
    go_wp2_with (first
      | (go_at_call 8; (with_reducible refine (ptail_c _ _ _ _ _ _ HR.out (by omega) (by omega) (by omega) E3.out).mono ?_); rw [HTL.out]; rintro e w1 ⟨A1, c1, rfl, ho1, hc1, hb1⟩; rw [HT.out] at ho1 hc1; rw [HT.out]; have HO1 := Lib.hid ho1; clear ho1)
      | (with_reducible refine at_any ?_; refine at_dst 33 rfl ?_; refine wpList_copy_ints rfl (.tmp 29) (.tmp 32) 22 22 rfl 5 Try.underlying22 size_u8 _ _ _ _ _ _ rfl rfl w1.heap.size 0 .u8 zs 5 (BlkI.new _ _ _ _) N (by omega) w.heap.size hd ((HH.out.below hb1).alloc hb1.size _) (fun _ => rfl) (by rw [HZL.out]; omega) w1.heap.size w1 ((Below.refl _ _).alloc (Nat.le_refl _) _) (Nat.le_refl _) ?_; intro w2 HK2 hb2)
      | (with_reducible refine at_any ?_; refine at_dst 38 rfl ?_; refine wpList_copy_ints rfl (.tmp 36) (.tmp 37) 22 22 rfl 5 Try.underlying22 size_u8 _ _ _ _ _ _ rfl rfl w1.heap.size N .u8 _ 5 HK2.out t (by omega) w1.heap.size tl (HO1.out.below hb2) (fun _ => rfl) (by rw [HSL.out]; omega) w1.heap.size w1 hb2 (Nat.le_refl _) ?_; intro w3 HK3 hb3))
    go_ret
    have hk := HK3.out
    rw [HC.out] at hk
    have hrd := hk.rd
    rw [HLN.out] at hrd
    exact ⟨some ⟨w1.heap.size, 0, none⟩, M, by rw [HLN.out]; rfl, by rw [HLN.out]; exact hrd, by rw [HLN.out]; omega, hb1.trans (hb3.mono hb1.size)⟩
end Go.Proofs.Ytpconmnlppjkfaa

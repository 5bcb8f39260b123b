/-
  What drawlotref10's Two and Pow return.
  Conditions: limbs lie in their type's range; the numbers have at most 100,000 limbs.
-/
import Derived.Test.YtoimepmignlmkaaDoorRefS
set_option maxRecDepth 100000
set_option linter.unusedSimpArgs false
namespace Go.Proofs.YtoimepmignlmkaaDoor
open Go.ChangeShapes Go.WideShapes Go.ChangeAt Go.RowKit
set_option linter.unusedVariables false
set_option maxHeartbeats 4000000 in
theorem r10two_c (k : Int) (k0 : -9223372036854775808 ≤ k) (k1 : k < 9223372036854775808) (w : World) : Calls Tryd.prog 29 #[.int .i64 k] w (RetNE w (twoR k)) := by
  by_cases hok : 0 ≤ k ∧ k ≤ 8191
  · obtain ⟨h0, h1⟩ := hok
    obtain ⟨m, rfl⟩ := Int.eq_ofNat_of_zero_le h0
    have e1 : twoR (m : Int) = (0, natL (2 ^ m)) := by unfold twoR; rw [if_pos ⟨h0, h1⟩, Int.toNat_natCast]
    rw [e1, ← two_limbs]
    obtain ⟨i0, hi0, hz0, hz1, hzb⟩ := info_parts info_u32d
    obtain ⟨q, hq⟩ : ∃ q, m / 32 = q := ⟨_, rfl⟩
    obtain ⟨r, hr⟩ : ∃ q, m % 32 = q := ⟨_, rfl⟩
    have hdiv : (m : Int) / 32 = (q : Int) := by omega
    have hmod : (m : Int) % 32 = (r : Int) := by omega
    have hrs := rep_set q ((2 ^ r : Nat) : Int)
    rw [hq, hr]
    have hmk : ∀ W, (Instr.makeSlice 26 (.int .i64 ((q : Int) + 1)) (.int .i64 ((q : Int) + 1))).run Tryd.prog W = .ok (.slice (some ⟨W.heap.size, 0, none⟩) (q + 1) (q + 1)) (W.alloc (.cells (intsA .u32 (List.replicate (q + 1) 0)) 45)) := fun W => run_make_ints (P := Tryd.prog) 26 45 i0 .u32 Tryd.underlying26 hi0 hz0 hz1 .i64 .i64 (q + 1) (by rw [hzb]; omega) (by omega) W
    have HS0 : Hid (NatS w w.heap.size (List.replicate (q + 1) 0) (w.alloc (.cells (intsA .u32 (List.replicate (q + 1) 0)) 45))) := Lib.hid ⟨Blk.new _ _ _, Nat.le_refl _, (Below.refl _ _).alloc (Nat.le_refl _) _⟩
    have hr32 : r ≤ 31 := by omega
    have hp2 := fun i (h : i ≤ r) => pow_two_le (show i ≤ 31 by omega)
    have HP2 := Lib.hid hp2
    have HRS := Lib.hid hrs
    have hq2 : (q : Int) ≤ 255 := by omega
    have HQM : Hid (q + 1 ≤ maxLen) := Lib.hid (by unfold maxLen; omega)
    obtain ⟨R, hR⟩ : ∃ R, List.replicate q 0 ++ [((2 ^ r : Nat) : Int)] = R := ⟨_, rfl⟩
    have hRl : R.length = q + 1 := by rw [← hR]; simp
    have HRL := Lib.hid hRl
    rw [hR] at HRS ⊢
    clear hq hr hrs hp2 hi0 hz0 hz1 hzb e1 hR hRl k0 k1 h0
    go_enter Tryd.func29, Tryd.ntmps29
    go_wp2
    clear hmk
    obtain ⟨g, hg⟩ : ∃ g, w.heap.size = g := ⟨_, rfl⟩
    have HS1 : Hid (NatS w g (List.replicate (q + 1) 0) (w.alloc (.cells (intsA .u32 (List.replicate (q + 1) 0)) 45))) := by rw [← hg]; exact HS0
    rw [hg]
    clear hg HS0
    obtain ⟨w1, hw1⟩ : ∃ w1, w.alloc (.cells (intsA .u32 (List.replicate (q + 1) 0)) 45) = w1 := ⟨_, rfl⟩
    rw [hw1] at HS1
    rw [hw1]
    clear hw1
    go_loop [5, 6] (fun v cc => ∃ i : Nat, i ≤ r ∧ v = .int .u32 ((2 ^ i : Nat) : Int) ∧ cc = .int .i64 (i : Int)) (fun _ cc => r - (intOf cc).toNat)
    case atStart => exact ⟨0, by omega, rfl, rfl⟩
    case round =>
      obtain ⟨i, hi, rfl, rfl⟩ := hrel
      by_cases hlt : i < r
      · have hp := HP2.out (i + 1) (by omega)
        rw [Nat.pow_succ] at hp
        have HS := Lib.hid (Nat.pow_succ (m := i) (n := 2))
        obtain ⟨P, hP⟩ : ∃ P, 2 ^ i = P := ⟨_, rfl⟩
        rw [hP] at hp HS ⊢
        have hm : 2 * ((P : Int)) = ((P * 2 : Nat) : Int) := by omega
        obtain ⟨M, hM⟩ : ∃ M, P * 2 = M := ⟨_, rfl⟩
        rw [hM] at hp hm HS
        have e2 : IntKind.u32.wrap (2 * (P : Int)) = (M : Int) := by rw [hm, IntKind.wrap_u32]; omega
        have hlt2 : (i : Int) < (r : Int) := by omega
        clear hP hM hm
        go_wp2
        go_round
        case rel => exact ⟨i + 1, by omega, by rw [HS.out], by go_num⟩
        case measure => simp [intOf]; omega
      · obtain rfl : i = r := by omega
        obtain ⟨P, hP⟩ : ∃ P, 2 ^ i = P := ⟨_, rfl⟩
        rw [hP] at HRS ⊢
        have hqq : (q : Int) < (q : Int) + 1 := by omega
        have HJS : Hid (q < (intsA .u32 (List.replicate (q + 1) 0)).size) := Lib.hid (by rw [intsA_size, List.length_replicate]; omega)
        clear hP HP2
        go_wp2_with (first
          | (with_reducible refine at_any ?_; refine at_store 29 rfl ?_; refine wpList_store_cell rfl 45 (.tmp 29) (.tmp 28) rfl g q rfl 45 (intsA .u32 (List.replicate (q + 1) 0)) (NatS.blk HS1.out) (.int .u32 (P : Int)) rfl HJS.out size_u32s rfl rfl ?_; intro w90 hk90 ho90; have HF9 := Lib.hid (NatS.set HS1.out hk90.out ho90); clear hk90 ho90))
        go_ret2
        have hf := HF9.out
        rw [HRS.out] at hf
        have hrd := hf.rd
        rw [HRL.out] at hrd
        exact ⟨some ⟨g, 0, none⟩, q + 1, ret_sliceE HRL.out.symm, by rw [HRL.out]; exact Nat.le_refl _, HQM.out, by rw [HRL.out]; exact hrd, hf.bel⟩
  · have e1 : twoR k = (1, []) := if_neg hok
    rw [e1]
    have h2 : k < 0 ∨ (¬ k < 0 ∧ 8191 < k) := by omega
    clear hok e1
    rcases h2 with h | ⟨h, h'⟩
    all_goals
      go_enter Tryd.func29, Tryd.ntmps29
      go_wp2
      go_ret2
      exact RetNE.nil 1 (Below.refl _ _)
set_option maxHeartbeats 4000000 in
theorem r10pow_c (zs : List Int) (hz : Lim zs) (A : Option Addr) (n c : Nat) (hnc : n ≤ c) (hcm : c ≤ maxLen) (k : Int) (k0 : -9223372036854775808 ≤ k) (k1 : k < 9223372036854775808) (w : World) (hrd : Rd .u32 w w.heap.size A n zs) : Calls Tryd.prog 27 #[.slice A n c, .int .i64 k] w (RetNE w (powR zs k)) := by
  have hrt := fun W h => r10right_c zs A n c (by omega) W h
  have HR := Lib.hid hrd
  by_cases hok : rightN zs = true ∧ 0 ≤ k ∧ k ≤ 64
  · obtain ⟨hr, h0, h1⟩ := hok
    obtain ⟨m, rfl⟩ := Int.eq_ofNat_of_zero_le h0
    rw [hr] at hrt
    have HRT := Lib.hid hrt
    obtain ⟨i0, hi0, hz0, hz1, hzb⟩ := info_parts info_nat
    have HPZ := Lib.hid (fun (rs : List NRow) h => powR_zs (zs := zs) (k := m) (rs := rs) hr (by omega) h)
    have HZ := Lib.hid hz
    have HNC := Lib.hid hnc
    have HCM := Lib.hid hcm
    have hm64 : m ≤ 64 := by omega
    clear hrd hrt hr hz hnc hcm h0 k0 k1
    go_enter Tryd.func27, Tryd.ntmps27
    go_wp2_with (first
      | (go_at_call 23; (with_reducible refine (HRT.out _ HR.out).mono ?_); rintro e _ ⟨rfl, rfl⟩))
    go_loopw [6, 7] (fun v cc wr => ∃ i : Nat, i ≤ m ∧ cc = .int .i64 (i : Int) ∧ wr.ownsRow w.heap.size 26 1 v i (List.replicate i (.slice A n c)) ∧ Below w.heap.size w wr) (fun _ cc _ => m - (intOf cc).toNat)
    case atStart => exact ⟨0, by omega, rfl, ownV_nil _ _ _, Below.refl _ _⟩
    case round =>
      obtain ⟨i, hi, rfl, hown, hbl⟩ := hrel
      have HOW := Lib.hid hown
      have HBL := Lib.hid hbl
      have hsz := hbl.size
      by_cases hlt : i < m
      · have hil : i ≤ 64 := by omega
        have hrep : List.replicate i (Value.slice A n c) ++ [Value.slice A n c] = List.replicate (i + 1) (Value.slice A n c) := (List.replicate_succ' (n := i)).symm
        have HRE := Lib.hid hrep
        clear hown hbl hrep
        go_wp2_with (first
          | (at_builtin; refine wpList_append_val rfl (.tmp 24) (.tmp 26) 22 rfl w.heap.size 26 i0 _ 24 Tryd.underlying22 hi0 hz0 hz1 hzb rfl _ i (List.replicate i (.slice A n c)) rfl (World.ownsRow.alloc HOW.out _) wr.heap.size (.slice A n c) rfl (by rw [(Blk.new wr 26 #[Value.slice A n c]).cell]; rfl) rfl (by simp [maxLen]; omega) (by omega) (by simp; omega) ?_; intro v6 w6 hown6 hg6; have hb6 : Below w.heap.size w w6 := ownV_below (World.ownsRow.alloc HOW.out _) (HBL.out.alloc hsz _) (by simp; omega) hg6; rw [HRE.out] at hown6; have HO6 := Lib.hid hown6; have HB6 := Lib.hid hb6; clear hown6 hb6 hg6))
        go_roundw
        case rel => exact ⟨i + 1, by omega, by go_num, HO6.out, HB6.out⟩
        case measure => simp [intOf]; omega
      · obtain rfl : i = m := by omega
        obtain ⟨A7, c7, rfl, hc7, hm7, hrn⟩ := rdNs_own (rs := List.replicate i ⟨A, n, c, zs⟩) (by rw [List.map_replicate]; exact hown) List.length_replicate (fun r hr => by
          rw [List.eq_of_mem_replicate hr]
          exact ⟨(HR.out.below hbl).mono hsz, HNC.out, HCM.out, HZ.out⟩)
        have hmul := r10mul_c (List.replicate i ⟨A, n, c, zs⟩) A7 i c7 (by omega) wr hrn
        rw [HPZ.out _ (by rw [List.map_replicate])] at hmul
        have HMUL := Lib.hid hmul
        clear hown hbl hrn hmul HOW hc7 hm7
        obtain ⟨R, hR⟩ : ∃ R, powR zs (i : Int) = R := ⟨_, rfl⟩
        rw [hR] at HMUL
        obtain ⟨re, rz⟩ := R
        have HRR := Lib.hid hR
        clear hR HPZ
        go_wp2_with (first
          | (go_at_call 13; (with_reducible refine HMUL.out.mono ?_); rintro e w5 ⟨A5, c5, rfl, hl5, hm5, hr5, hb5⟩; have HB5 := Lib.hid (HBL.out.trans (hb5.mono HBL.out.size)); have HL5 := Lib.hid hl5; have HM5 := Lib.hid hm5; have HR5 := Lib.hid hr5; clear hl5 hm5 hr5 hb5))
        go_ret2
        rw [HRR.out]
        exact ⟨_, _, rfl, HL5.out, HM5.out, HR5.out, HB5.out⟩
  · have e1 : powR zs k = (1, []) := if_neg hok
    rw [e1]
    have h2 : rightN zs = false ∨ (rightN zs = true ∧ k < 0) ∨ (rightN zs = true ∧ ¬ k < 0 ∧ 64 < k) := by
      cases h : rightN zs
      · exact .inl rfl
      · rw [h] at hok
        by_cases h3 : k < 0
        · exact .inr (.inl ⟨rfl, h3⟩)
        · exact .inr (.inr ⟨rfl, h3, by
            by_cases h4 : 64 < k
            · exact h4
            · exact absurd ⟨rfl, by omega, by omega⟩ hok⟩)
    clear hok e1 hrd
    rcases h2 with h | ⟨h, h'⟩ | ⟨h, h', h''⟩
    all_goals
      rw [h] at hrt
      have HRT := Lib.hid hrt
      clear hrt h
      go_enter Tryd.func27, Tryd.ntmps27
      go_wp2_with (first
        | (go_at_call 23; (with_reducible refine (HRT.out _ HR.out).mono ?_); rintro e _ ⟨rfl, rfl⟩))
      go_ret2
      exact RetNE.nil 1 (Below.refl _ _)
end Go.Proofs.YtoimepmignlmkaaDoor

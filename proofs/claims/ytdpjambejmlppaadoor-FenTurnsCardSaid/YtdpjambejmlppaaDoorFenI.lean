/-
  What the landed Stakes returns: the stakes of a tree, unbuilt from behind.
  Conditions: those that each theorem names; the library's table of trailing zeros is as the program's text lays it.
-/
import Derived.Test.YtdpjambejmlppaaDoorFenG
set_option maxRecDepth 100000
set_option linter.unusedVariables false
set_option linter.unusedSimpArgs false
namespace Go.Proofs.YtdpjambejmlppaaDoor
open Go.ChangeShapes Go.WideShapes Go.ChangeAt Go.RowKit
set_option maxHeartbeats 8000000 in
theorem q11stakes_c (l : List Int) (hz : ∀ z ∈ l, 0 ≤ z) (hs : sumL l < 9223372036854775808) (hl : l.length ≤ 1048576) (A : Option Addr) (n c : Nat) (hn : l.length = n) (hc : n ≤ c) (hcm : c ≤ maxLen) (w : World) (hT : TzT w) (hrd : Rd .u64 w w.heap.size A n (treeL l)) : Calls Tryd.prog 16 #[.agg #[.slice A n c]] w (RetL w l) := by
  have HR := Lib.hid hrd
  have HTT := Lib.hid hT
  have hm2 : (n : Int) ≤ 1048576 := by omega
  have HN8 : Hid (n ≤ 100000000) := Lib.hid (by omega)
  by_cases h0 : n = 0
  · subst h0
    obtain rfl : l = [] := List.length_eq_zero_iff.1 hn
    have e : treeL [] = [] := rfl
    rw [e] at HR
    clear hrd hz hs hl hn hc hcm hT e
    go_enter Tryd.func16, Tryd.ntmps16
    go_wp2_with (first
      | (with_reducible refine at_any ?_; refine at_dst 1 rfl ?_; refine wpList_box_any rfl 25 (.tmp 0) rfl #[.slice A 0 c] rfl ?_; intro w1 hk1 hs1 hb1; have HK1 := Lib.hid hk1.out; have HB1 := Lib.hid hb1; have cz := Blk.cell0 HK1.out; clear hk1 hs1 hb1)
      | (go_at_call 27; (with_reducible refine (clone64_c [] A 0 c HN8.out _ (HR1 HR.out HB1.out)).mono ?_); rintro e w2 ⟨v6, rfl, ho2, hb2⟩; obtain ⟨A7, c7, rfl, hc7, hm7⟩ := ho2.form; have HB2 := Lib.hid (HB1.out.trans (hb2.mono HB1.out.size)); have hl0 : ([] : List Int).length = 0 := rfl; rw [hl0]; clear hl0 hb2 ho2))
    go_loopw [4] (fun nn wr => nn = .int .i64 0 ∧ w2 = wr) (fun _ _ => 0)
    case atStart => exact ⟨rfl, by first | rfl | trivial⟩
    case round =>
      obtain ⟨rfl, rfl⟩ := hrel
      go_wp2
      go_ret
      exact ⟨A7, c7, rfl, rd_nil _ _ _ _, hc7, hm7, HB2.out⟩
  · have HPOS : Hid (0 < n) := Lib.hid (by omega)
    have HLN : Hid ((treeL l).length = n) := Lib.hid ((treeL_len l).trans hn)
    have HLL := Lib.hid hn
    have HPREV := Lib.hid (fun M (h1 : 1 ≤ M) (h2 : M + lowN M ≤ n) => bldF_prev (l := l) (k := M - 1) (by have := lowN_pos (n := M) (by omega); omega) (by rw [show M - 1 + 1 = M by omega]; omega))
    have HOUT := Lib.hid (fun M (h1 : 1 ≤ M) (h2 : n < M + lowN M) => bldF_out (l := l) (k := M - 1) (by rw [show M - 1 + 1 = M by omega]; omega))
    have HBD := Lib.hid (fun k m (hm : m < n) => bldF_bd hz k m (by omega))
    have HALL : Hid (bldF l n = treeL l) := Lib.hid (by rw [← hn]; exact bldF_all l)
    have HZ : Hid (bldF l 0 = l) := Lib.hid (bldF_zero l)
    have HSX := Lib.hid hs
    have HLOW := Lib.hid (fun M (h1 : 1 ≤ M) (h2 : M ≤ n) W hW => q11low_c M (by omega) (by omega) W hW)
    clear hrd hz hs hl hn hc hcm hT h0
    go_enter Tryd.func16, Tryd.ntmps16
    go_wp2_with (first
      | (with_reducible refine at_any ?_; refine at_dst 1 rfl ?_; refine wpList_box_any rfl 25 (.tmp 0) rfl #[.slice A n c] rfl ?_; intro w1 hk1 hs1 hb1; have HK1 := Lib.hid hk1.out; have HB1 := Lib.hid hb1; have cz := Blk.cell0 HK1.out; clear hk1 hs1 hb1)
      | (go_at_call 27; (with_reducible refine (clone64_c (treeL l) A n c HN8.out _ (HR1 HR.out HB1.out)).mono ?_); rintro e w2 ⟨v6, rfl, ho2, hb2⟩; obtain ⟨g7, c7, rfl, HS2, HC7, HM7⟩ := bld_start HK1.out HB1.out ho2 hb2 HLN.out HPOS.out; clear ho2 hb2))
    obtain ⟨g2, hg2⟩ : ∃ g, w.heap.size = g := ⟨_, rfl⟩
    have HS3 : Hid (BldS w g2 (.slice A n c) g7 c7 n (treeL l) w2) := Lib.hid (by rw [← hg2]; exact HS2.out)
    rw [hg2]
    clear HS2 hg2 HK1 HB1 cz
    go_loopw [4] (fun nn wr => ∃ M : Nat, M ≤ n ∧ nn = .int .i64 (M : Int) ∧ BldS w g2 (.slice A n c) g7 c7 n (bldF l M) wr) (fun nn _ => (intOf nn).toNat)
    case atStart => exact ⟨n, Nat.le_refl _, rfl, by rw [HALL.out]; exact HS3.out⟩
    case round =>
      clear HS3
      obtain ⟨M, hM2, rfl, hS⟩ := hrel
      have HS := Lib.hid hS
      clear hS
      by_cases hM1 : 1 ≤ M
      · have hlow := fun W hW => HLOW.out M hM1 hM2 W hW
        have hlp := lowN_pos (n := M) (by omega)
        have hll := lowN_le M
        have hmi : (M : Int) ≤ 1048576 := by omega
        have hm1 : (1 : Int) ≤ (M : Int) := by omega
        have HMN := Lib.hid hM2
        have hMnI : (M : Int) ≤ (n : Int) := by omega
        by_cases ha : M + lowN M ≤ n
        · have hnx := HPREV.out M hM1 ha
          have hbq := HBD.out M (M + lowN M - 1) (by omega)
          have hbk := HBD.out M (M - 1) (by omega)
          have hbs := HBD.out (M - 1) (M + lowN M - 1) (by omega)
          obtain ⟨k, hk⟩ : ∃ k, M - 1 = k := ⟨_, rfl⟩
          have hk1 : k + 1 = M := by omega
          rw [hk] at hnx hbs hbk
          rw [hk1] at hnx
          obtain ⟨lo, hlo⟩ : ∃ x, lowN M = x := ⟨_, rfl⟩
          rw [hlo] at hnx hbq hbs hlp hll ha hlow
          obtain ⟨q, hq⟩ : ∃ q, M + lo - 1 = q := ⟨_, rfl⟩
          have hkq : k + lo = q := by omega
          rw [hkq] at hnx
          rw [hq] at hbq hbs
          obtain ⟨B, hB⟩ : ∃ B, bldF l M = B := ⟨_, rfl⟩
          rw [hB] at HS hnx hbq hbk
          obtain ⟨x, hx2⟩ : ∃ z, B.getD q 0 = z := ⟨_, rfl⟩
          obtain ⟨y, hy⟩ : ∃ z, B.getD k 0 = z := ⟨_, rfl⟩
          have hlB := HS.out.len
          have hsv : (bldF l k).getD q 0 = x - y := by
            rw [← hnx, List.getD_eq_getElem?_getD, List.getElem?_set_self (by omega), hx2, hy]
            rfl
          rw [hsv] at hbs
          rw [hx2, hy] at hnx
          rw [hx2] at hbq
          rw [hy] at hbk
          have hsx := HSX.out
          have HX := Lib.hid hx2
          have HY := Lib.hid hy
          have HLOWW := Lib.hid hlow
          obtain ⟨s, hs⟩ : ∃ s, x - y = s := ⟨_, rfl⟩
          rw [hs] at hnx hbs
          have HNX := Lib.hid hnx
          have HSW : Hid (IntKind.u64.wrap (x - y) = s) := Lib.hid (by rw [hs, IntKind.wrap_u64]; omega)
          obtain ⟨a, hae⟩ : ∃ a, M + lo = a := ⟨_, rfl⟩
          have haI : (M : Int) + (lo : Int) = (a : Int) := by omega
          have han : (a : Int) ≤ (n : Int) := by omega
          have ha1 : (1 : Int) ≤ (a : Int) := by omega
          have HQW : Hid (IntKind.i64.wrap ((a : Int) - 1) = (q : Int)) := Lib.hid (by rw [IntKind.wrap_i64]; omega)
          have HQN : Hid ((q : Int) < (n : Int)) := Lib.hid (by omega)
          have HQL : Hid (q < n) := Lib.hid (by omega)
          have HKW : Hid (IntKind.i64.wrap ((M : Int) - 1) = (k : Int)) := Lib.hid (by rw [IntKind.wrap_i64]; omega)
          have HKW2 : Hid (IntKind.i64.wrap (k : Int) = (k : Int)) := Lib.hid (by rw [IntKind.wrap_i64]; omega)
          have HKN : Hid ((k : Int) < (n : Int)) := Lib.hid (by omega)
          have HKL : Hid (k < n) := Lib.hid (by omega)
          have HKM : Hid (k + 1 = M) := Lib.hid hk1
          have hkI : (M : Int) - 1 = (k : Int) := by omega
          clear hnx hbq hbk hbs hk hk1 hlo hq hkq hB hx2 hy hlB hsv hsx hs hlp hll ha hlow hM1 hM2 hae
          go_wp2_with (first
            | (go_at_call 28; (with_reducible refine (HLOWW.out _ (HTT.out.below HS.out.bel)).mono ?_); rintro e _ ⟨rfl, rfl⟩))
          have HS8 := Lib.hid HS.out.drew
          obtain ⟨cur, HKC, HSC⟩ := HS8.out.blk HPOS.out
          have HXC := Lib.hid (HS8.out.cell HQL.out HX.out)
          have HYC := Lib.hid (HS8.out.cell HKL.out HY.out)
          clear HS
          refine wp_region_held_drew (S := PAnyT) (by kernel_rfl) trivial (fun hH => ?_)
          refine wpAnyH_letter #[false, false, false, false, false, false, false, false, false, false, false, false, false] (by kernel_rfl) (fun _ _ d _ _ h => by cases d <;> exact h) (fun QL HQ1 HQ2 => ?_)
          refine held_v 0 (some 23) rfl (by kernel_rfl) (by kernel_rfl) (by kernel_rfl) (by kernel_rfl) (fun c a v w h => HQ2.out c a _ v w h) (by kernel_rfl) (.slice (some ⟨g7, 0, none⟩) n c7) (fun W h => by kernel_rfl) trivial ?_
          try simp only [Act.put, List.setIfInBounds_toArray, List.set_cons_zero, List.set_cons_succ]
          refine held_v 1 (some 24) rfl (by kernel_rfl) (by kernel_rfl) (by kernel_rfl) (by kernel_rfl) (fun c a v w h => HQ2.out c a _ v w h) (by kernel_rfl) (.int .i64 (a : Int)) (fun W h => by kernel_rfl) trivial ?_
          try simp only [Act.put, List.setIfInBounds_toArray, List.set_cons_zero, List.set_cons_succ]
          refine held_v 2 (some 25) rfl (by kernel_rfl) (by kernel_rfl) (by kernel_rfl) (by kernel_rfl) (fun c a v w h => HQ2.out c a _ v w h) (by kernel_rfl) (.int .i64 (q : Int)) (fun W h => by have p := HQW.out; go_simp) trivial ?_
          try simp only [Act.put, List.setIfInBounds_toArray, List.set_cons_zero, List.set_cons_succ]
          refine held_v 3 (some 26) rfl (by kernel_rfl) (by kernel_rfl) (by kernel_rfl) (by kernel_rfl) (fun c a v w h => HQ2.out c a _ v w h) (by kernel_rfl) (.pointer (some ⟨g7, q, none⟩)) (fun W h => by have p := HQN.out; go_simp) trivial ?_
          try simp only [Act.put, List.setIfInBounds_toArray, List.set_cons_zero, List.set_cons_succ]
          refine held_v 5 (some 28) rfl (by kernel_rfl) (by kernel_rfl) (by kernel_rfl) (by kernel_rfl) (fun c a v w h => HQ2.out c a _ v w h) (by kernel_rfl) (.slice (some ⟨g7, 0, none⟩) n c7) (fun W h => by kernel_rfl) trivial ?_
          try simp only [Act.put, List.setIfInBounds_toArray, List.set_cons_zero, List.set_cons_succ]
          refine held_v 6 (some 29) rfl (by kernel_rfl) (by kernel_rfl) (by kernel_rfl) (by kernel_rfl) (fun c a v w h => HQ2.out c a _ v w h) (by kernel_rfl) (.int .i64 (M : Int)) (fun W h => by kernel_rfl) trivial ?_
          try simp only [Act.put, List.setIfInBounds_toArray, List.set_cons_zero, List.set_cons_succ]
          refine held_v 7 (some 30) rfl (by kernel_rfl) (by kernel_rfl) (by kernel_rfl) (by kernel_rfl) (fun c a v w h => HQ2.out c a _ v w h) (by kernel_rfl) (.int .i64 (k : Int)) (fun W h => by have p := HKW.out; have p2 := HKW2.out; go_simp) trivial ?_
          try simp only [Act.put, List.setIfInBounds_toArray, List.set_cons_zero, List.set_cons_succ]
          refine held_v 8 (some 31) rfl (by kernel_rfl) (by kernel_rfl) (by kernel_rfl) (by kernel_rfl) (fun c a v w h => HQ2.out c a _ v w h) (by kernel_rfl) (.pointer (some ⟨g7, k, none⟩)) (fun W h => by have p := HKN.out; go_simp) trivial ?_
          try simp only [Act.put, List.setIfInBounds_toArray, List.set_cons_zero, List.set_cons_succ]
          refine wpAnyH_ready (rs := [4, 9]) (by kernel_rfl) (by decide) ?_
          refine AllReadyH.cons rfl (fun K hK => ?_) (AllReadyH.cons rfl (fun K hK => ?_) AllReadyH.nil)
          · refine step_v (some 27) (by kernel_rfl) (by kernel_rfl) (.int .u64 x) (by have p := HXC.out; go_simp) ?_
            refine hK.out _ _ trivial (fun _ => ?_)
            clear hK K
            try simp only [Act.put, List.setIfInBounds_toArray, List.set_cons_zero, List.set_cons_succ]
            refine wpAnyH_ready (rs := [9]) (by kernel_rfl) (by decide) ?_
            refine AllReadyH.cons rfl (fun K hK => ?_) AllReadyH.nil
            refine step_v (some 32) (by kernel_rfl) (by kernel_rfl) (.int .u64 y) (by have p := HYC.out; go_simp) ?_
            refine hK.out _ _ trivial (fun _ => ?_)
            clear hK K
            try simp only [Act.put, List.setIfInBounds_toArray, List.set_cons_zero, List.set_cons_succ]
            refine held_v 10 (some 33) rfl (by kernel_rfl) (by kernel_rfl) (by kernel_rfl) (by kernel_rfl) (fun c a v w h => HQ2.out c a _ v w h) (by kernel_rfl) (.int .u64 s) (fun W h => by have p := HSW.out; go_simp) trivial ?_
            try simp only [Act.put, List.setIfInBounds_toArray, List.set_cons_zero, List.set_cons_succ]
            refine held_v 11 (some 34) rfl (by kernel_rfl) (by kernel_rfl) (by kernel_rfl) (by kernel_rfl) (fun c a v w h => HQ2.out c a _ v w h) (by kernel_rfl) (.pointer (some ⟨g7, q, none⟩)) (fun W h => by have p := HQN.out; go_simp) trivial ?_
            try simp only [Act.put, List.setIfInBounds_toArray, List.set_cons_zero, List.set_cons_succ]
            refine wpAnyH_ready (rs := [12]) (by kernel_rfl) (by decide) ?_
            refine AllReadyH.cons rfl (fun K hK => ?_) AllReadyH.nil
            refine step_store_cell none (by kernel_rfl) (by kernel_rfl) 32 (.tmp 34) (.tmp 33) rfl g7 q (by kernel_rfl) 32 cur HKC.out (.int .u64 s) (by kernel_rfl) (HSC.out _ HQL.out) size_u64f rfl rfl ?_
            intro w41 hkw41 how41
            have HNEW := Lib.hid (BldS.put HS8.out HKC.out HQL.out hkw41.out how41)
            clear hkw41 how41
            refine hK.out _ _ trivial (fun _ => ?_)
            clear hK K
            try simp only [Act.put, List.setIfInBounds_toArray, List.set_cons_zero, List.set_cons_succ]
            refine wpAnyH_done (by kernel_rfl) ?_ _
            refine HQ1.out _ _ ?_
            clear HQ1 HQ2
            clear HS8 HKC HSC HX HY HXC HYC
            go_wp2
            go_roundw
            case rel => exact ⟨k, by have := HKL.out; omega, by go_num, by rw [← HNX.out]; exact HNEW.out⟩
            case measure => have := HKM.out; simp [intOf]; omega
          · refine step_v (some 32) (by kernel_rfl) (by kernel_rfl) (.int .u64 y) (by have p := HYC.out; go_simp) ?_
            refine hK.out _ _ trivial (fun _ => ?_)
            clear hK K
            try simp only [Act.put, List.setIfInBounds_toArray, List.set_cons_zero, List.set_cons_succ]
            refine wpAnyH_ready (rs := [4]) (by kernel_rfl) (by decide) ?_
            refine AllReadyH.cons rfl (fun K hK => ?_) AllReadyH.nil
            refine step_v (some 27) (by kernel_rfl) (by kernel_rfl) (.int .u64 x) (by have p := HXC.out; go_simp) ?_
            refine hK.out _ _ trivial (fun _ => ?_)
            clear hK K
            try simp only [Act.put, List.setIfInBounds_toArray, List.set_cons_zero, List.set_cons_succ]
            refine held_v 10 (some 33) rfl (by kernel_rfl) (by kernel_rfl) (by kernel_rfl) (by kernel_rfl) (fun c a v w h => HQ2.out c a _ v w h) (by kernel_rfl) (.int .u64 s) (fun W h => by have p := HSW.out; go_simp) trivial ?_
            try simp only [Act.put, List.setIfInBounds_toArray, List.set_cons_zero, List.set_cons_succ]
            refine held_v 11 (some 34) rfl (by kernel_rfl) (by kernel_rfl) (by kernel_rfl) (by kernel_rfl) (fun c a v w h => HQ2.out c a _ v w h) (by kernel_rfl) (.pointer (some ⟨g7, q, none⟩)) (fun W h => by have p := HQN.out; go_simp) trivial ?_
            try simp only [Act.put, List.setIfInBounds_toArray, List.set_cons_zero, List.set_cons_succ]
            refine wpAnyH_ready (rs := [12]) (by kernel_rfl) (by decide) ?_
            refine AllReadyH.cons rfl (fun K hK => ?_) AllReadyH.nil
            refine step_store_cell none (by kernel_rfl) (by kernel_rfl) 32 (.tmp 34) (.tmp 33) rfl g7 q (by kernel_rfl) 32 cur HKC.out (.int .u64 s) (by kernel_rfl) (HSC.out _ HQL.out) size_u64f rfl rfl ?_
            intro w42 hkw42 how42
            have HNEW := Lib.hid (BldS.put HS8.out HKC.out HQL.out hkw42.out how42)
            clear hkw42 how42
            refine hK.out _ _ trivial (fun _ => ?_)
            clear hK K
            try simp only [Act.put, List.setIfInBounds_toArray, List.set_cons_zero, List.set_cons_succ]
            refine wpAnyH_done (by kernel_rfl) ?_ _
            refine HQ1.out _ _ ?_
            clear HQ1 HQ2
            clear HS8 HKC HSC HX HY HXC HYC
            go_wp2
            go_roundw
            case rel => exact ⟨k, by have := HKL.out; omega, by go_num, by rw [← HNX.out]; exact HNEW.out⟩
            case measure => have := HKM.out; simp [intOf]; omega
        · have hout := HOUT.out M hM1 (by omega)
          rw [show M - 1 + 1 = M by omega] at hout
          have HO := Lib.hid hout
          obtain ⟨k, hk⟩ : ∃ k, M - 1 = k := ⟨_, rfl⟩
          rw [hk] at HO
          have HKM : Hid (k + 1 = M) := Lib.hid (by omega)
          have hkI : (M : Int) - 1 = (k : Int) := by omega
          obtain ⟨lo, hlo⟩ : ∃ x, lowN M = x := ⟨_, rfl⟩
          rw [hlo] at hlp hll ha hlow
          have HLOWW := Lib.hid hlow
          obtain ⟨a, hae⟩ : ∃ a, M + lo = a := ⟨_, rfl⟩
          have haI : (M : Int) + (lo : Int) = (a : Int) := by omega
          have han : ¬ (a : Int) ≤ (n : Int) := by omega
          have ha1 : (a : Int) ≤ 2097152 := by omega
          clear hout hlo hlp hll ha hlow hM1 hM2 hae hk
          go_wp2_with (first
            | (go_at_call 28; (with_reducible refine (HLOWW.out _ (HTT.out.below HS.out.bel)).mono ?_); rintro e _ ⟨rfl, rfl⟩))
          go_roundw
          case rel => exact ⟨k, by have := HKM.out; have := HMN.out; omega, by go_num, by rw [← HO.out]; exact HS.out⟩
          case measure => have := HKM.out; simp [intOf]; omega
      · obtain rfl : M = 0 := by omega
        rw [HZ.out] at HS
        rw [show ((0 : Nat) : Int) = 0 from rfl]
        clear hM1 hM2
        go_wp2
        go_ret
        exact ⟨some ⟨g7, 0, none⟩, c7, by rw [HLL.out]; rfl, by rw [HLL.out]; exact HS.out.rd, by rw [HLL.out]; exact HC7.out, HM7.out, HS.out.bel⟩
end Go.Proofs.YtdpjambejmlppaaDoor

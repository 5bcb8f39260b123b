/-
  Texts of this claim, joined (what the claim does not need is left out): FenI, FenF, FenJ, FenA, LedA, ScnA, ComV, ComZ, NatD, NatL, ComX, ComY, MapK, ComB, OddP, OddM, NatA, NatB, NatC, NatG, NatE, NatF, DivP, ShlA, DivA, NatH, NatI, OddA.
-/
import Derived.Test.YtgnclifmfefbcaaGreatDoorHGc
import Derived.DeepKeys4
import Derived.Maps.Keyed
import Derived.Maps.OwnOps
import Derived.Deep.CutRange
import Derived.Deep.CutBlock
import Derived.Test.YtgnclifmfefbcaaGreatDoorRows
import Derived.Shelf.Strconv.Itoa0
import Derived.Shelf.Strconv.Itoa1
import Derived.Shelf.Strconv.Itoa2
import Derived.Shelf.Small.Bits
import Derived.Shelf.Bits.Mul64
import Derived.Shelf.Strings.Prefix
import Derived.Laws.CopyRow
import Derived.Lib.SlBuf
set_option maxRecDepth 100000
set_option linter.unusedVariables false
set_option linter.unusedSimpArgs false
set_option linter.unusedSectionVars false
namespace Go.Proofs.YtgnclifmfefbcaaGreatDoor
section
open Go.ChangeShapes Go.WideShapes Go.ChangeAt Go.RowKit
set_option maxHeartbeats 8000000 in
theorem q11stakes_c (l : List Int) (hz : ∀ z ∈ l, 0 ≤ z) (hs : sumL l < 9223372036854775808) (hl : l.length ≤ 1048576) (A : Option Addr) (n c : Nat) (hn : l.length = n) (hc : n ≤ c) (hcm : c ≤ maxLen) (w : World) (hT : TzT w) (hrd : Rd .u64 w w.heap.size A n (treeL l)) : Calls Tryz.prog 31 #[.agg #[.slice A n c]] w (RetL w l) := by
  have HR := Lib.hid hrd
  have HTT := Lib.hid hT
  have hm2 : (n : Int) ≤ 1048576 := by omega
  have HN8 : Hid (n ≤ 100000000) := Lib.hid (by omega)
  by_cases h0 : n = 0
  · subst h0
    obtain rfl : l = [] := List.length_eq_zero_iff.1 hn
    have e : treeL [] = [] := rfl
    rw [e] at HR
    clear hrd hz hs hl hn hc hcm hT e
    go_enter Tryz.func31, Tryz.ntmps31
    go_wp2_with (first
      | (with_reducible refine at_any ?_; refine at_dst 1 rfl ?_; refine wpList_box_any rfl 40 (.tmp 0) rfl #[.slice A 0 c] rfl ?_; intro w1 hk1 hs1 hb1; have HK1 := Lib.hid hk1.out; have HB1 := Lib.hid hb1; have cz := Blk.cell0 HK1.out; clear hk1 hs1 hb1)
      | (go_at_call 52; (with_reducible refine (clone64_c [] A 0 c HN8.out _ (HR1 HR.out HB1.out)).mono ?_); rintro e w2 ⟨v6, rfl, ho2, hb2⟩; obtain ⟨A7, c7, rfl, hc7, hm7⟩ := ho2.form; have HB2 := Lib.hid (HB1.out.trans (hb2.mono HB1.out.size)); have hl0 : ([] : List Int).length = 0 := rfl; rw [hl0]; clear hl0 hb2 ho2))
    go_loopw [4] (fun nn wr => nn = .int .i64 0 ∧ w2 = wr) (fun _ _ => 0)
    case atStart => exact ⟨rfl, by first | rfl | trivial⟩
    case round =>
      obtain ⟨rfl, rfl⟩ := hrel
      go_wp2
      go_ret
      exact ⟨A7, c7, rfl, rd_nil _ _ _ _, hc7, hm7, HB2.out⟩
  · have HPOS : Hid (0 < n) := Lib.hid (by omega)
    have HLN : Hid ((treeL l).length = n) := Lib.hid ((treeL_len l).trans hn)
    have HLL := Lib.hid hn
    have HPREV := Lib.hid (fun M (h1 : 1 ≤ M) (h2 : M + lowN M ≤ n) => bldF_prev (l := l) (k := M - 1) (by have := lowN_pos (n := M) (by omega); omega) (by rw [show M - 1 + 1 = M by omega]; omega))
    have HOUT := Lib.hid (fun M (h1 : 1 ≤ M) (h2 : n < M + lowN M) => bldF_out (l := l) (k := M - 1) (by rw [show M - 1 + 1 = M by omega]; omega))
    have HBD := Lib.hid (fun k m (hm : m < n) => bldF_bd hz k m (by omega))
    have HALL : Hid (bldF l n = treeL l) := Lib.hid (by rw [← hn]; exact bldF_all l)
    have HZ : Hid (bldF l 0 = l) := Lib.hid (bldF_zero l)
    have HSX := Lib.hid hs
    have HLOW := Lib.hid (fun M (h1 : 1 ≤ M) (h2 : M ≤ n) W hW => q11low_c M (by omega) (by omega) W hW)
    clear hrd hz hs hl hn hc hcm hT h0
    go_enter Tryz.func31, Tryz.ntmps31
    go_wp2_with (first
      | (with_reducible refine at_any ?_; refine at_dst 1 rfl ?_; refine wpList_box_any rfl 40 (.tmp 0) rfl #[.slice A n c] rfl ?_; intro w1 hk1 hs1 hb1; have HK1 := Lib.hid hk1.out; have HB1 := Lib.hid hb1; have cz := Blk.cell0 HK1.out; clear hk1 hs1 hb1)
      | (go_at_call 52; (with_reducible refine (clone64_c (treeL l) A n c HN8.out _ (HR1 HR.out HB1.out)).mono ?_); rintro e w2 ⟨v6, rfl, ho2, hb2⟩; obtain ⟨g7, c7, rfl, HS2, HC7, HM7⟩ := bld_start HK1.out HB1.out ho2 hb2 HLN.out HPOS.out; clear ho2 hb2))
    obtain ⟨g2, hg2⟩ : ∃ g, w.heap.size = g := ⟨_, rfl⟩
    have HS3 : Hid (BldS w g2 (.slice A n c) g7 c7 n (treeL l) w2) := Lib.hid (by rw [← hg2]; exact HS2.out)
    rw [hg2]
    clear HS2 hg2 HK1 HB1 cz
    go_loopw [4] (fun nn wr => ∃ M : Nat, M ≤ n ∧ nn = .int .i64 (M : Int) ∧ BldS w g2 (.slice A n c) g7 c7 n (bldF l M) wr) (fun nn _ => (intOf nn).toNat)
    case atStart => exact ⟨n, Nat.le_refl _, rfl, by rw [HALL.out]; exact HS3.out⟩
    case round =>
      clear HS3
      obtain ⟨M, hM2, rfl, hS⟩ := hrel
      have HS := Lib.hid hS
      clear hS
      by_cases hM1 : 1 ≤ M
      · have hlow := fun W hW => HLOW.out M hM1 hM2 W hW
        have hlp := lowN_pos (n := M) (by omega)
        have hll := lowN_le M
        have hmi : (M : Int) ≤ 1048576 := by omega
        have hm1 : (1 : Int) ≤ (M : Int) := by omega
        have HMN := Lib.hid hM2
        have hMnI : (M : Int) ≤ (n : Int) := by omega
        by_cases ha : M + lowN M ≤ n
        · have hnx := HPREV.out M hM1 ha
          have hbq := HBD.out M (M + lowN M - 1) (by omega)
          have hbk := HBD.out M (M - 1) (by omega)
          have hbs := HBD.out (M - 1) (M + lowN M - 1) (by omega)
          obtain ⟨k, hk⟩ : ∃ k, M - 1 = k := ⟨_, rfl⟩
          have hk1 : k + 1 = M := by omega
          rw [hk] at hnx hbs hbk
          rw [hk1] at hnx
          obtain ⟨lo, hlo⟩ : ∃ x, lowN M = x := ⟨_, rfl⟩
          rw [hlo] at hnx hbq hbs hlp hll ha hlow
          obtain ⟨q, hq⟩ : ∃ q, M + lo - 1 = q := ⟨_, rfl⟩
          have hkq : k + lo = q := by omega
          rw [hkq] at hnx
          rw [hq] at hbq hbs
          obtain ⟨B, hB⟩ : ∃ B, bldF l M = B := ⟨_, rfl⟩
          rw [hB] at HS hnx hbq hbk
          obtain ⟨x, hx2⟩ : ∃ z, B.getD q 0 = z := ⟨_, rfl⟩
          obtain ⟨y, hy⟩ : ∃ z, B.getD k 0 = z := ⟨_, rfl⟩
          have hlB := HS.out.len
          have hsv : (bldF l k).getD q 0 = x - y := by
            rw [← hnx, List.getD_eq_getElem?_getD, List.getElem?_set_self (by omega), hx2, hy]
            rfl
          rw [hsv] at hbs
          rw [hx2, hy] at hnx
          rw [hx2] at hbq
          rw [hy] at hbk
          have hsx := HSX.out
          have HX := Lib.hid hx2
          have HY := Lib.hid hy
          have HLOWW := Lib.hid hlow
          obtain ⟨s, hs⟩ : ∃ s, x - y = s := ⟨_, rfl⟩
          rw [hs] at hnx hbs
          have HNX := Lib.hid hnx
          have HSW : Hid (IntKind.u64.wrap (x - y) = s) := Lib.hid (by rw [hs, IntKind.wrap_u64]; omega)
          obtain ⟨a, hae⟩ : ∃ a, M + lo = a := ⟨_, rfl⟩
          have haI : (M : Int) + (lo : Int) = (a : Int) := by omega
          have han : (a : Int) ≤ (n : Int) := by omega
          have ha1 : (1 : Int) ≤ (a : Int) := by omega
          have HQW : Hid (IntKind.i64.wrap ((a : Int) - 1) = (q : Int)) := Lib.hid (by rw [IntKind.wrap_i64]; omega)
          have HQN : Hid ((q : Int) < (n : Int)) := Lib.hid (by omega)
          have HQL : Hid (q < n) := Lib.hid (by omega)
          have HKW : Hid (IntKind.i64.wrap ((M : Int) - 1) = (k : Int)) := Lib.hid (by rw [IntKind.wrap_i64]; omega)
          have HKW2 : Hid (IntKind.i64.wrap (k : Int) = (k : Int)) := Lib.hid (by rw [IntKind.wrap_i64]; omega)
          have HKN : Hid ((k : Int) < (n : Int)) := Lib.hid (by omega)
          have HKL : Hid (k < n) := Lib.hid (by omega)
          have HKM : Hid (k + 1 = M) := Lib.hid hk1
          have hkI : (M : Int) - 1 = (k : Int) := by omega
          clear hnx hbq hbk hbs hk hk1 hlo hq hkq hB hx2 hy hlB hsv hsx hs hlp hll ha hlow hM1 hM2 hae
          go_wp2_with (first
            | (go_at_call 53; (with_reducible refine (HLOWW.out _ (HTT.out.below HS.out.bel)).mono ?_); rintro e _ ⟨rfl, rfl⟩))
          have HS8 := Lib.hid HS.out.drew
          obtain ⟨cur, HKC, HSC⟩ := HS8.out.blk HPOS.out
          have HXC := Lib.hid (HS8.out.cell HQL.out HX.out)
          have HYC := Lib.hid (HS8.out.cell HKL.out HY.out)
          clear HS
          refine wp_region_held_drew (S := PAnyT) (by kernel_rfl) trivial (fun hH => ?_)
          refine wpAnyH_letter #[false, false, false, false, false, false, false, false, false, false, false, false, false] (by kernel_rfl) (fun _ _ d _ _ h => by cases d <;> exact h) (fun QL HQ1 HQ2 => ?_)
          refine held_v 0 (some 23) rfl (by kernel_rfl) (by kernel_rfl) (by kernel_rfl) (by kernel_rfl) (fun c a v w h => HQ2.out c a _ v w h) (by kernel_rfl) (.slice (some ⟨g7, 0, none⟩) n c7) (fun W h => by kernel_rfl) trivial ?_
          try simp only [Act.put, List.setIfInBounds_toArray, List.set_cons_zero, List.set_cons_succ]
          refine held_v 1 (some 24) rfl (by kernel_rfl) (by kernel_rfl) (by kernel_rfl) (by kernel_rfl) (fun c a v w h => HQ2.out c a _ v w h) (by kernel_rfl) (.int .i64 (a : Int)) (fun W h => by kernel_rfl) trivial ?_
          try simp only [Act.put, List.setIfInBounds_toArray, List.set_cons_zero, List.set_cons_succ]
          refine held_v 2 (some 25) rfl (by kernel_rfl) (by kernel_rfl) (by kernel_rfl) (by kernel_rfl) (fun c a v w h => HQ2.out c a _ v w h) (by kernel_rfl) (.int .i64 (q : Int)) (fun W h => by have p := HQW.out; go_simp) trivial ?_
          try simp only [Act.put, List.setIfInBounds_toArray, List.set_cons_zero, List.set_cons_succ]
          refine held_v 3 (some 26) rfl (by kernel_rfl) (by kernel_rfl) (by kernel_rfl) (by kernel_rfl) (fun c a v w h => HQ2.out c a _ v w h) (by kernel_rfl) (.pointer (some ⟨g7, q, none⟩)) (fun W h => by have p := HQN.out; go_simp) trivial ?_
          try simp only [Act.put, List.setIfInBounds_toArray, List.set_cons_zero, List.set_cons_succ]
          refine held_v 5 (some 28) rfl (by kernel_rfl) (by kernel_rfl) (by kernel_rfl) (by kernel_rfl) (fun c a v w h => HQ2.out c a _ v w h) (by kernel_rfl) (.slice (some ⟨g7, 0, none⟩) n c7) (fun W h => by kernel_rfl) trivial ?_
          try simp only [Act.put, List.setIfInBounds_toArray, List.set_cons_zero, List.set_cons_succ]
          refine held_v 6 (some 29) rfl (by kernel_rfl) (by kernel_rfl) (by kernel_rfl) (by kernel_rfl) (fun c a v w h => HQ2.out c a _ v w h) (by kernel_rfl) (.int .i64 (M : Int)) (fun W h => by kernel_rfl) trivial ?_
          try simp only [Act.put, List.setIfInBounds_toArray, List.set_cons_zero, List.set_cons_succ]
          refine held_v 7 (some 30) rfl (by kernel_rfl) (by kernel_rfl) (by kernel_rfl) (by kernel_rfl) (fun c a v w h => HQ2.out c a _ v w h) (by kernel_rfl) (.int .i64 (k : Int)) (fun W h => by have p := HKW.out; have p2 := HKW2.out; go_simp) trivial ?_
          try simp only [Act.put, List.setIfInBounds_toArray, List.set_cons_zero, List.set_cons_succ]
          refine held_v 8 (some 31) rfl (by kernel_rfl) (by kernel_rfl) (by kernel_rfl) (by kernel_rfl) (fun c a v w h => HQ2.out c a _ v w h) (by kernel_rfl) (.pointer (some ⟨g7, k, none⟩)) (fun W h => by have p := HKN.out; go_simp) trivial ?_
          try simp only [Act.put, List.setIfInBounds_toArray, List.set_cons_zero, List.set_cons_succ]
          refine wpAnyH_ready (rs := [4, 9]) (by kernel_rfl) (by decide) ?_
          refine AllReadyH.cons rfl (fun K hK => ?_) (AllReadyH.cons rfl (fun K hK => ?_) AllReadyH.nil)
          · refine step_v (some 27) (by kernel_rfl) (by kernel_rfl) (.int .u64 x) (by have p := HXC.out; go_simp) ?_
            refine hK.out _ _ trivial (fun _ => ?_)
            clear hK K
            try simp only [Act.put, List.setIfInBounds_toArray, List.set_cons_zero, List.set_cons_succ]
            refine wpAnyH_ready (rs := [9]) (by kernel_rfl) (by decide) ?_
            refine AllReadyH.cons rfl (fun K hK => ?_) AllReadyH.nil
            refine step_v (some 32) (by kernel_rfl) (by kernel_rfl) (.int .u64 y) (by have p := HYC.out; go_simp) ?_
            refine hK.out _ _ trivial (fun _ => ?_)
            clear hK K
            try simp only [Act.put, List.setIfInBounds_toArray, List.set_cons_zero, List.set_cons_succ]
            refine held_v 10 (some 33) rfl (by kernel_rfl) (by kernel_rfl) (by kernel_rfl) (by kernel_rfl) (fun c a v w h => HQ2.out c a _ v w h) (by kernel_rfl) (.int .u64 s) (fun W h => by have p := HSW.out; go_simp) trivial ?_
            try simp only [Act.put, List.setIfInBounds_toArray, List.set_cons_zero, List.set_cons_succ]
            refine held_v 11 (some 34) rfl (by kernel_rfl) (by kernel_rfl) (by kernel_rfl) (by kernel_rfl) (fun c a v w h => HQ2.out c a _ v w h) (by kernel_rfl) (.pointer (some ⟨g7, q, none⟩)) (fun W h => by have p := HQN.out; go_simp) trivial ?_
            try simp only [Act.put, List.setIfInBounds_toArray, List.set_cons_zero, List.set_cons_succ]
            refine wpAnyH_ready (rs := [12]) (by kernel_rfl) (by decide) ?_
            refine AllReadyH.cons rfl (fun K hK => ?_) AllReadyH.nil
            refine step_store_cell none (by kernel_rfl) (by kernel_rfl) 24 (.tmp 34) (.tmp 33) rfl g7 q (by kernel_rfl) 24 cur HKC.out (.int .u64 s) (by kernel_rfl) (HSC.out _ HQL.out) size_u64f rfl rfl ?_
            intro w41 hkw41 how41
            have HNEW := Lib.hid (BldS.put HS8.out HKC.out HQL.out hkw41.out how41)
            clear hkw41 how41
            refine hK.out _ _ trivial (fun _ => ?_)
            clear hK K
            try simp only [Act.put, List.setIfInBounds_toArray, List.set_cons_zero, List.set_cons_succ]
            refine wpAnyH_done (by kernel_rfl) ?_ _
            refine HQ1.out _ _ ?_
            clear HQ1 HQ2
            clear HS8 HKC HSC HX HY HXC HYC
            go_wp2
            go_roundw
            case rel => exact ⟨k, by have := HKL.out; omega, by go_num, by rw [← HNX.out]; exact HNEW.out⟩
            case measure => have := HKM.out; simp [intOf]; omega
          · refine step_v (some 32) (by kernel_rfl) (by kernel_rfl) (.int .u64 y) (by have p := HYC.out; go_simp) ?_
            refine hK.out _ _ trivial (fun _ => ?_)
            clear hK K
            try simp only [Act.put, List.setIfInBounds_toArray, List.set_cons_zero, List.set_cons_succ]
            refine wpAnyH_ready (rs := [4]) (by kernel_rfl) (by decide) ?_
            refine AllReadyH.cons rfl (fun K hK => ?_) AllReadyH.nil
            refine step_v (some 27) (by kernel_rfl) (by kernel_rfl) (.int .u64 x) (by have p := HXC.out; go_simp) ?_
            refine hK.out _ _ trivial (fun _ => ?_)
            clear hK K
            try simp only [Act.put, List.setIfInBounds_toArray, List.set_cons_zero, List.set_cons_succ]
            refine held_v 10 (some 33) rfl (by kernel_rfl) (by kernel_rfl) (by kernel_rfl) (by kernel_rfl) (fun c a v w h => HQ2.out c a _ v w h) (by kernel_rfl) (.int .u64 s) (fun W h => by have p := HSW.out; go_simp) trivial ?_
            try simp only [Act.put, List.setIfInBounds_toArray, List.set_cons_zero, List.set_cons_succ]
            refine held_v 11 (some 34) rfl (by kernel_rfl) (by kernel_rfl) (by kernel_rfl) (by kernel_rfl) (fun c a v w h => HQ2.out c a _ v w h) (by kernel_rfl) (.pointer (some ⟨g7, q, none⟩)) (fun W h => by have p := HQN.out; go_simp) trivial ?_
            try simp only [Act.put, List.setIfInBounds_toArray, List.set_cons_zero, List.set_cons_succ]
            refine wpAnyH_ready (rs := [12]) (by kernel_rfl) (by decide) ?_
            refine AllReadyH.cons rfl (fun K hK => ?_) AllReadyH.nil
            refine step_store_cell none (by kernel_rfl) (by kernel_rfl) 24 (.tmp 34) (.tmp 33) rfl g7 q (by kernel_rfl) 24 cur HKC.out (.int .u64 s) (by kernel_rfl) (HSC.out _ HQL.out) size_u64f rfl rfl ?_
            intro w42 hkw42 how42
            have HNEW := Lib.hid (BldS.put HS8.out HKC.out HQL.out hkw42.out how42)
            clear hkw42 how42
            refine hK.out _ _ trivial (fun _ => ?_)
            clear hK K
            try simp only [Act.put, List.setIfInBounds_toArray, List.set_cons_zero, List.set_cons_succ]
            refine wpAnyH_done (by kernel_rfl) ?_ _
            refine HQ1.out _ _ ?_
            clear HQ1 HQ2
            clear HS8 HKC HSC HX HY HXC HYC
            go_wp2
            go_roundw
            case rel => exact ⟨k, by have := HKL.out; omega, by go_num, by rw [← HNX.out]; exact HNEW.out⟩
            case measure => have := HKM.out; simp [intOf]; omega
        · have hout := HOUT.out M hM1 (by omega)
          rw [show M - 1 + 1 = M by omega] at hout
          have HO := Lib.hid hout
          obtain ⟨k, hk⟩ : ∃ k, M - 1 = k := ⟨_, rfl⟩
          rw [hk] at HO
          have HKM : Hid (k + 1 = M) := Lib.hid (by omega)
          have hkI : (M : Int) - 1 = (k : Int) := by omega
          obtain ⟨lo, hlo⟩ : ∃ x, lowN M = x := ⟨_, rfl⟩
          rw [hlo] at hlp hll ha hlow
          have HLOWW := Lib.hid hlow
          obtain ⟨a, hae⟩ : ∃ a, M + lo = a := ⟨_, rfl⟩
          have haI : (M : Int) + (lo : Int) = (a : Int) := by omega
          have han : ¬ (a : Int) ≤ (n : Int) := by omega
          have ha1 : (a : Int) ≤ 2097152 := by omega
          clear hout hlo hlp hll ha hlow hM1 hM2 hae hk
          go_wp2_with (first
            | (go_at_call 53; (with_reducible refine (HLOWW.out _ (HTT.out.below HS.out.bel)).mono ?_); rintro e _ ⟨rfl, rfl⟩))
          go_roundw
          case rel => exact ⟨k, by have := HKM.out; have := HMN.out; omega, by go_num, by rw [← HO.out]; exact HS.out⟩
          case measure => have := HKM.out; simp [intOf]; omega
      · obtain rfl : M = 0 := by omega
        rw [HZ.out] at HS
        rw [show ((0 : Nat) : Int) = 0 from rfl]
        clear hM1 hM2
        go_wp2
        go_ret
        exact ⟨some ⟨g7, 0, none⟩, c7, by rw [HLL.out]; rfl, by rw [HLL.out]; exact HS.out.rd, by rw [HLL.out]; exact HC7.out, HM7.out, HS.out.bel⟩
end
section
open Go.ChangeShapes Go.WideShapes Go.ChangeAt Go.RowKit
theorem ret_iiF {a b c d : Int} (h : a = b) (h2 : c = d) : Ending.returned (.tuple #[.int .i64 a, .int .i64 c]) = .returned (.tuple #[.int .i64 b, .int .i64 d]) := by rw [h, h2]
theorem fx_start {w w1 : World} {A : Option Addr} {m c : Nat} {ts : List Int} (hk : Blk w1 w.heap.size 40 #[.slice A m c]) (hr : Rd .u64 w w.heap.size A m ts) (hb : Below w.heap.size w w1) : Fx [.blk w.heap.size 40 #[.slice A m c], .rdb .u64 w.heap.size A m ts, .bel w] w1 :=
  ⟨hk, ⟨hr.below hb, hb.size⟩, hb, trivial⟩
set_option maxHeartbeats 8000000 in
theorem q11owner_c (l : List Int) (hz : ∀ z ∈ l, 0 ≤ z) (hs : sumL l < 9223372036854775808) (hl : l.length ≤ 1048576) (A : Option Addr) (m c : Nat) (hm : l.length = m) (hc : m ≤ c) (hcm : c ≤ maxLen) (t : Int) (t0 : 0 ≤ t) (t1 : t < 18446744073709551616) (w : World) (hT : TzT w) (hrd : Rd .u64 w w.heap.size A m (treeL l)) : Calls Tryz.prog 58 #[.agg #[.slice A m c], .int .u64 t] w fun e w' => e = .returned (.tuple #[.int .i64 (ownV l t), .int .i64 (ownE l t)]) ∧ Below w.heap.size w w' := by
  have HTT := Lib.hid hT
  have htot := fun W hW h => q11total_c l hz hs hl A m c hm hc hcm W hW h
  have hmI : (m : Int) ≤ 1048576 := by omega
  have hno : ¬ t < sumL l → ownV l t = 0 ∧ ownE l t = 3 := fun h => own_no hz (by omega)
  have HIS := Lib.hid (fun o (h : o < m) h1 h2 => own_is hz (t := t) (o := o) t0 (by omega) h1 h2)
  have HALL : Hid (preL l m = sumL l) := Lib.hid (by rw [← hm, preL_all])
  have HMID := Lib.hid (fun n s k (h1 : s = 2 ^ k) (h2 : 2 * s ∣ n) (h3 : n + s ≤ m) => tree_mid (l := l) h1 h2 (by omega))
  have HMO := Lib.hid (fun a b (h : a ≤ b) => preL_mono hz (l := l) h)
  have HNN := Lib.hid (fun a => preL_nn hz (l := l) a)
  have HLE := Lib.hid (fun a => Int.lt_of_le_of_lt (preL_le hz (l := l) a) hs)
  have hm0 : t < sumL l → 0 < m := fun h => by
    rcases Nat.eq_zero_or_pos m with h0 | h0
    · have : sumL l = 0 := by rw [← HALL.out, h0]; rfl
      omega
    · exact h0
  obtain ⟨x, hx⟩ : ∃ x, sumL l = x := ⟨_, rfl⟩
  obtain ⟨ts, hts⟩ : ∃ x, treeL l = x := ⟨_, rfl⟩
  rw [hx] at htot hno HALL hm0 hs
  rw [hts] at htot hrd HMID
  have HR := Lib.hid hrd
  have HTO := Lib.hid htot
  by_cases htx : t < x
  · have hmp := hm0 htx
    have hmp2 : (1 : Int) ≤ (m : Int) := by omega
    have HTX := Lib.hid htx
    obtain ⟨k0, -, hk1, hk2⟩ := bitLen_is m (by omega) (by omega)
    have HHI := Lib.hid (fun W => q11high_c m k0 hk1 hk2 (by omega) W)
    obtain ⟨g, off, hA, -, hcc⟩ := hrd.at_ hmp
    have HCELL : Hid (∀ j, j < m → ∀ W, Rd .u64 W W.heap.size A m ts → W.cell? ⟨g, off + j, none⟩ = some (.int .u64 (ts.getD j 0))) := Lib.hid (fun j hj W h => by
      obtain ⟨g2, off2, e1, -, e2⟩ := h.at_ hmp
      rw [hA] at e1
      injection e1 with e1
      injection e1 with e1 e3
      subst e1 e3
      exact e2 j hj)
    subst hA
    obtain ⟨A, hA⟩ : ∃ A : Option Addr, (some ⟨g, off, none⟩ : Option Addr) = A := ⟨_, rfl⟩
    have HA := Lib.hid hA
    have hntx : ¬ x ≤ t := by omega
    rw [hA] at HR HTO HCELL ⊢
    have HST : Hid (0 + 2 ^ (k0 + 1) ≤ m → t < preL l (0 + 2 ^ (k0 + 1))) := Lib.hid (fun h => absurd h (by omega))
    have hpk0 : 2 ^ (k0 + 1) = 2 * 2 ^ k0 := by rw [Nat.pow_succ, Nat.mul_comm]
    have HSM : Hid (2 ^ (k0 + 1) ≤ 2097152) := Lib.hid (by omega)
    have HSD : Hid (((2 ^ (k0 + 1) / 2 : Nat) : Int) = ((2 ^ k0 : Nat) : Int)) := Lib.hid (by rw [show 2 ^ (k0 + 1) = 2 * 2 ^ k0 by rw [Nat.pow_succ, Nat.mul_comm], Nat.mul_div_cancel_left _ (by omega)])
    have HP0 := Lib.hid hmp
    obtain ⟨sd, hsd⟩ : ∃ z : Int, ((2 ^ k0 : Nat) : Int) = z := ⟨_, rfl⟩
    rw [hsd] at HHI HSD
    clear hrd htot hno hm0 hz hl hm hc hcm hx hk1 hk2 hcc hts hT hA hsd hpk0
    go_enter Tryz.func58, Tryz.ntmps58
    go_wp2_with (first
      | (with_reducible refine at_any ?_; refine at_dst 2 rfl ?_; refine wpList_box_any rfl 40 (.tmp 0) rfl #[.slice A m c] rfl ?_; intro w1 hk1 hs1 hb1; have G1 := Lib.hid (fx_start hk1.out HR.out hb1); clear hk1 hs1 hb1)
      | (with_reducible refine at_any ?_; refine at_dst 11 rfl ?_; refine wpList_load_fen (by kernel_rfl) (.tmp 2) rfl w.heap.size rfl 40 (.slice A m c) (Fx.b0 G1.out) ?_)
      | (go_at_call 56; (with_reducible refine (HTO.out _ (HTT.out.below (Fx.e2 G1.out)) (Fx.r1 G1.out)).mono ?_); rintro e w2 ⟨rfl, hb2⟩; have G2 := Lib.hid (Fx.below G1.out hb2); clear hb2)
      | (with_reducible refine at_any ?_; refine at_dst 15 rfl ?_; refine wpList_load_fen (by kernel_rfl) (.tmp 2) rfl w.heap.size rfl 40 (.slice A m c) (Fx.b0 G2.out) ?_)
      | (go_at_call 76; (with_reducible refine (q11len_c A m c _).mono ?_); rintro e w3 ⟨rfl, hb3⟩; have G3 := Lib.hid (Fx.below G2.out hb3); clear hb3)
      | (go_at_call 80; (with_reducible refine (HHI.out _).mono ?_); rintro e _ ⟨rfl, rfl⟩))
    obtain ⟨gB, hgB⟩ : ∃ g, w.heap.size = g := ⟨_, rfl⟩
    have G9 : Hid (Fx [.blk gB 40 #[.slice A m c], .rdb .u64 w.heap.size A m ts, .bel w] w3) := Lib.hid (by rw [← hgB]; exact G3.out)
    rw [hgB]
    clear hgB G3
    go_loopw [6, 7, 8] (fun nn tt ss wr => ∃ (K n : Nat), ss = .int .i64 ((2 ^ K / 2 : Nat) : Int) ∧ nn = .int .i64 (n : Int) ∧ tt = .int .u64 (t - preL l n) ∧ 2 ^ K ≤ 2097152 ∧ 2 ^ K ∣ n ∧ n < m ∧ preL l n ≤ t ∧ (n + 2 ^ K ≤ m → t < preL l (n + 2 ^ K)) ∧ Fx [.blk gB 40 #[.slice A m c], .rdb .u64 w.heap.size A m ts, .bel w] wr) (fun _ _ ss _ => (intOf ss).toNat)
    case atStart => exact ⟨k0 + 1, 0, by rw [HSD.out], rfl, by rw [show preL l 0 = 0 from rfl, Int.sub_zero], HSM.out, ⟨0, rfl⟩, HP0.out, t0, HST.out, G9.out⟩
    case round =>
      clear HST HSM HSD G9 HHI HTO
      obtain ⟨K, n, rfl, rfl, rfl, hKm, hdv, hnm, hpn, hnx, hG⟩ := hrel
      have G11 := Lib.hid hG
      clear hG
      have hnmI : (n : Int) < (m : Int) := by omega
      have hn0I : (0 : Int) ≤ (n : Int) := by omega
      cases K with
      | zero =>
        obtain ⟨e1, e2⟩ := HIS.out n hnm hpn (by have h := hnx (by rw [Nat.pow_zero]; omega); rw [Nat.pow_zero] at h; exact h)
        have E1 := Lib.hid e1
        have E2 := Lib.hid e2
        rw [show ((2 ^ 0 / 2 : Nat) : Int) = 0 from rfl]
        clear hKm hdv hnm hpn hnx e1 e2
        go_wp2
        go_ret2
        exact ⟨ret_iiF E1.out.symm E2.out.symm, Fx.e2 G11.out⟩
      | succ k =>
        have hnk : 2 ^ (k + 1) = 2 * 2 ^ k := by rw [Nat.pow_succ, Nat.mul_comm]
        have hk1 : 1 ≤ 2 ^ k := Nat.one_le_two_pow
        have hmid := HMID.out n (2 ^ k) k rfl (by rw [← hnk]; exact hdv)
        have hd2 : 2 ^ k ∣ n := Nat.dvd_trans ⟨2, by rw [hnk, Nat.mul_comm]⟩ hdv
        rw [hnk] at hKm hnx
        rw [show 2 ^ (k + 1) / 2 = 2 ^ k by rw [hnk, Nat.mul_div_cancel_left _ (by omega)]]
        have hq : ((2 ^ k : Nat) : Int) / 2 = ((2 ^ k / 2 : Nat) : Int) := by omega
        have hqm : ((2 ^ k / 2 : Nat) : Int).toNat < (((2 ^ k : Nat) : Int)).toNat := by omega
        have HKM : Hid (2 ^ k ≤ 2097152) := Lib.hid (by omega)
        have HD2 := Lib.hid hd2
        have HDS : Hid (2 ^ k ∣ n + 2 ^ k) := Lib.hid (Nat.dvd_add hd2 (Nat.dvd_refl _))
        have hp0 := HNN.out n
        have hpl := HLE.out n
        by_cases hle : n + 2 ^ k < m
        · have hcell := hmid (by omega)
          have hck := HCELL.out (n + 2 ^ k - 1) (by omega)
          rw [hcell] at hck
          have hp1 := HMO.out n (n + 2 ^ k) (by omega)
          have hp2 := HLE.out (n + 2 ^ k)
          by_cases hgo : preL l (n + 2 ^ k) ≤ t
          · have HNX : Hid (n + 2 ^ k + 2 ^ k ≤ m → t < preL l (n + 2 ^ k + 2 ^ k)) := Lib.hid (fun h => by have h2 := hnx (by omega); rw [show n + 2 * 2 ^ k = n + 2 ^ k + 2 ^ k by omega] at h2; exact h2)
            have HRL := Lib.hid hgo
            obtain ⟨s, hsk⟩ : ∃ s, 2 ^ k = s := ⟨_, rfl⟩
            rw [hsk] at hk1 hle hck hp1 hp2 hgo hq HKM hqm ⊢
            have HSK := Lib.hid hsk
            obtain ⟨q, hqq⟩ : ∃ q, n + s - 1 = q := ⟨_, rfl⟩
            rw [hqq] at hck
            have HP1 : Hid (t - preL l n - (preL l (n + s) - preL l n) = t - preL l (n + s)) := Lib.hid (by omega)
            obtain ⟨u, hu⟩ : ∃ u, t - preL l n = u := ⟨_, rfl⟩
            obtain ⟨z, hzz⟩ : ∃ z, preL l (n + s) - preL l n = z := ⟨_, rfl⟩
            rw [hu, hzz] at HP1
            rw [hzz] at hck
            rw [hu]
            have HCK := Lib.hid hck
            have u0 : 0 ≤ u := by omega
            have u1 : u < 18446744073709551616 := by omega
            have z0 : 0 ≤ z := by omega
            have zu : z ≤ u := by omega
            have hsI : (1 : Int) ≤ (s : Int) := by omega
            have hsM : (n : Int) + (s : Int) < (m : Int) := by omega
            have hqI : (n : Int) + (s : Int) - 1 = (q : Int) := by omega
            have hqm2 : (q : Int) < (m : Int) := by omega
            have hq0 : (0 : Int) ≤ (q : Int) := by omega
            obtain ⟨sh, hsh⟩ : ∃ x : Int, ((s / 2 : Nat) : Int) = x := ⟨_, rfl⟩
            have HSH : Hid (sh = ((s / 2 : Nat) : Int)) := Lib.hid hsh.symm
            have hsh0 : 0 ≤ sh ∧ sh ≤ 1048576 := by omega
            obtain ⟨hsh1, hsh2⟩ := hsh0
            rw [hsh] at hq hqm
            have HQM := Lib.hid hqm
            have HLEM := Lib.hid hle
            have HAA := HA.out
            subst HAA
            clear hmid hcell hp0 hpl hp1 hp2 hgo hnk hk1 hd2 hKm hdv hnm hpn hnx hsk hqq hu hzz hsh hqm hck hle
            go_wp2_with (first
              | (with_reducible refine at_any ?_; refine at_dst 26 rfl ?_; refine wpList_load_fen (by kernel_rfl) (.tmp 2) rfl gB rfl 40 _ (Fx.b0 G11.out) ?_)
              | (go_at_call 76; (with_reducible refine (q11len_c _ m c _).mono ?_); rintro e w12 ⟨rfl, hb12⟩; have G12 := Lib.hid (Fx.below G11.out hb12); have c12 := Blk.cell0 (Fx.b0 G12.out); have z12 := HCK.out _ (Fx.r1 G12.out); clear hb12))
            go_quiet (fail)
            go_wp2
            go_roundw
            case rel => exact ⟨k, n + s, by rw [HSK.out, HSH.out], by go_num, by rw [HP1.out], by rw [HSK.out]; exact HKM.out, by have h := HDS.out; rw [HSK.out] at h ⊢; exact h, HLEM.out, by have h := HRL.out; rw [HSK.out] at h; exact h, by have h := HNX.out; rw [HSK.out] at h ⊢; exact h, Fx.below G12.out (below_drewN (Below.refl _ _) _)⟩
            case measure => exact HQM.out
          · have HRN : Hid (t < preL l (n + 2 ^ k)) := Lib.hid (by omega)
            have HNM := Lib.hid hnm
            have HPN := Lib.hid hpn
            obtain ⟨s, hsk⟩ : ∃ s, 2 ^ k = s := ⟨_, rfl⟩
            rw [hsk] at hk1 hle hck hp1 hp2 hgo hq HKM hqm ⊢
            have HSK := Lib.hid hsk
            obtain ⟨q, hqq⟩ : ∃ q, n + s - 1 = q := ⟨_, rfl⟩
            rw [hqq] at hck
            obtain ⟨u, hu⟩ : ∃ u, t - preL l n = u := ⟨_, rfl⟩
            obtain ⟨z, hzz⟩ : ∃ z, preL l (n + s) - preL l n = z := ⟨_, rfl⟩
            rw [hzz] at hck
            rw [hu]
            have HU := Lib.hid hu
            have HCK := Lib.hid hck
            have u0 : 0 ≤ u := by omega
            have zu : ¬ z ≤ u := by omega
            have hsI : (1 : Int) ≤ (s : Int) := by omega
            have hsM : (n : Int) + (s : Int) < (m : Int) := by omega
            have hqI : (n : Int) + (s : Int) - 1 = (q : Int) := by omega
            have hqm2 : (q : Int) < (m : Int) := by omega
            have hq0 : (0 : Int) ≤ (q : Int) := by omega
            obtain ⟨sh, hsh⟩ : ∃ x : Int, ((s / 2 : Nat) : Int) = x := ⟨_, rfl⟩
            have HSH : Hid (sh = ((s / 2 : Nat) : Int)) := Lib.hid hsh.symm
            have hsh0 : 0 ≤ sh ∧ sh ≤ 1048576 := by omega
            obtain ⟨hsh1, hsh2⟩ := hsh0
            rw [hsh] at hq hqm
            have HQM := Lib.hid hqm
            have HAA := HA.out
            subst HAA
            clear hmid hcell hp0 hpl hp1 hp2 hgo hnk hk1 hd2 hKm hdv hnm hpn hnx hsk hqq hu hzz hsh hqm hck hle
            go_wp2_with (first
              | (with_reducible refine at_any ?_; refine at_dst 26 rfl ?_; refine wpList_load_fen (by kernel_rfl) (.tmp 2) rfl gB rfl 40 _ (Fx.b0 G11.out) ?_)
              | (go_at_call 76; (with_reducible refine (q11len_c _ m c _).mono ?_); rintro e w12 ⟨rfl, hb12⟩; have G12 := Lib.hid (Fx.below G11.out hb12); have c12 := Blk.cell0 (Fx.b0 G12.out); have z12 := HCK.out _ (Fx.r1 G12.out); clear hb12))
            go_roundw
            case rel => exact ⟨k, n, by rw [HSK.out, HSH.out], rfl, by rw [HU.out], by rw [HSK.out]; exact HKM.out, HD2.out, HNM.out, HPN.out, fun _ => HRN.out, G12.out⟩
            case measure => exact HQM.out
        · have HNM := Lib.hid hnm
          have HPN := Lib.hid hpn
          have HOUT : Hid (n + 2 ^ k ≤ m → t < preL l (n + 2 ^ k)) := Lib.hid (fun h => by
            have e : n + 2 ^ k = m := by omega
            rw [e, HALL.out]
            exact HTX.out)
          obtain ⟨s, hsk⟩ : ∃ s, 2 ^ k = s := ⟨_, rfl⟩
          rw [hsk] at hk1 hle hq HKM hqm ⊢
          have HSK := Lib.hid hsk
          obtain ⟨u, hu⟩ : ∃ u, t - preL l n = u := ⟨_, rfl⟩
          rw [hu]
          have HU := Lib.hid hu
          have u0 : 0 ≤ u := by omega
          have hsI : (1 : Int) ≤ (s : Int) := by omega
          have hsX : (s : Int) ≤ 2097152 := by have := HKM.out; omega
          have hsM : ¬ (n : Int) + (s : Int) < (m : Int) := by omega
          obtain ⟨sh, hsh⟩ : ∃ x : Int, ((s / 2 : Nat) : Int) = x := ⟨_, rfl⟩
          have HSH : Hid (sh = ((s / 2 : Nat) : Int)) := Lib.hid hsh.symm
          have hsh0 : 0 ≤ sh ∧ sh ≤ 1048576 := by have := HKM.out; omega
          obtain ⟨hsh1, hsh2⟩ := hsh0
          rw [hsh] at hq hqm
          have HQM := Lib.hid hqm
          clear hmid hp0 hpl hnk hk1 hd2 hKm hdv hnm hpn hnx hsk hu hsh hqm hle
          go_wp2_with (first
            | (with_reducible refine at_any ?_; refine at_dst 26 rfl ?_; refine wpList_load_fen (by kernel_rfl) (.tmp 2) rfl gB rfl 40 _ (Fx.b0 G11.out) ?_)
            | (go_at_call 76; (with_reducible refine (q11len_c _ m c _).mono ?_); rintro e w12 ⟨rfl, hb12⟩; have G12 := Lib.hid (Fx.below G11.out hb12); have c12 := Blk.cell0 (Fx.b0 G12.out); clear hb12))
          go_roundw
          case rel => exact ⟨k, n, by rw [HSK.out, HSH.out], rfl, by rw [HU.out], by rw [HSK.out]; exact HKM.out, HD2.out, HNM.out, HPN.out, HOUT.out, G12.out⟩
          case measure => exact HQM.out
  · obtain ⟨e1, e2⟩ := hno htx
    rw [e1, e2]
    have htx2 : x ≤ t := by omega
    clear hrd htot hno hm0 hz hl hm hc hcm hx e1 e2 hts hT
    go_enter Tryz.func58, Tryz.ntmps58
    go_wp2_with (first
      | (with_reducible refine at_any ?_; refine at_dst 2 rfl ?_; refine wpList_box_any rfl 40 (.tmp 0) rfl #[.slice A m c] rfl ?_; intro w1 hk1 hs1 hb1; have G1 := Lib.hid (fx_start hk1.out HR.out hb1); clear hk1 hs1 hb1)
      | (with_reducible refine at_any ?_; refine at_dst 11 rfl ?_; refine wpList_load_fen (by kernel_rfl) (.tmp 2) rfl w.heap.size rfl 40 (.slice A m c) (Fx.b0 G1.out) ?_)
      | (go_at_call 56; (with_reducible refine (HTO.out _ (HTT.out.below (Fx.e2 G1.out)) (Fx.r1 G1.out)).mono ?_); rintro e w2 ⟨rfl, hb2⟩; have G2 := Lib.hid (Fx.below G1.out hb2); clear hb2))
    go_ret2
    exact ⟨rfl, Fx.e2 G2.out⟩
end
section
open Go.ChangeShapes Go.WideShapes Go.ChangeAt Go.RowKit
def RetFenF (w : World) (ts : List Int) (er : Int) (e : Ending) (w' : World) : Prop := ∃ A c, e = .returned (.tuple #[.agg #[.slice A ts.length c], .int .i64 er]) ∧ Rd .u64 w' w'.heap.size A ts.length ts ∧ ts.length ≤ c ∧ c ≤ maxLen ∧ Below w.heap.size w w' ∧ ∀ b off, A = some ⟨b, off, none⟩ → w.heap.size ≤ b
set_option maxHeartbeats 8000000 in
theorem q11setF_c (l : List Int) (hz : ∀ z ∈ l, 0 ≤ z) (hs : sumL l < 9223372036854775808) (hl : l.length ≤ 1048576) (A : Option Addr) (n c : Nat) (hn : l.length = n) (hc : n ≤ c) (hcm : c ≤ maxLen) (i v : Int) (i0 : -9223372036854775808 ≤ i) (i1 : i < 9223372036854775808) (v0 : 0 ≤ v) (v1 : v < 18446744073709551616) (w : World) (hT : TzT w) (hrd : Rd .u64 w w.heap.size A n (treeL l)) : Calls Tryz.prog 33 #[.agg #[.slice A n c], .int .i64 i, .int .u64 v] w (RetFenF w (treeL (setL l i v)) (setE l i v)) := by
  have HTT := Lib.hid hT
  have hat := fun W hW h => q11at_c l hz hs hl A n c hn hc hcm i i0 i1 W hW h
  have htot := fun W hW h => q11total_c l hz hs hl A n c hn hc hcm W hW h
  have hm2 : (n : Int) ≤ 1048576 := by omega
  have HN8 : Hid (n ≤ 100000000) := Lib.hid (by omega)
  have HEMP : Hid (∀ er w', setE l i v = er ∧ setL l i v = [] → Below w.heap.size w w' → RetFenF w (treeL (setL l i v)) (setE l i v) (.returned (.tuple #[.agg #[.slice none 0 0], .int .i64 er])) w') := Lib.hid (fun er w' h hb => by rw [h.1, h.2]; exact ⟨none, 0, rfl, rd_nil _ _ _ _, Nat.le_refl _, by simp [maxLen], hb, fun b off h => by cases h⟩)
  by_cases hin : 0 ≤ i ∧ i < (l.length : Int)
  · obtain ⟨a1, a2⟩ := at_ok hin
    rw [a1, a2] at hat
    obtain ⟨k, rfl⟩ := Int.eq_ofNat_of_zero_le hin.1
    rw [Int.toNat_natCast] at hat
    have hk : k < l.length := by omega
    have hss : sumL (l.set k v) = sumL l + (v - l.getD k 0) := by
      have a1 := preL_set (l := l) (i := k) v hk n
      have a2 : preL (l.set k v) n = sumL (l.set k v) := by
        have := preL_all (l.set k v)
        rw [List.length_set, hn] at this
        exact this
      have a3 : preL l n = sumL l := by rw [← hn, preL_all]
      rw [if_pos (by omega)] at a1
      omega
    have hok := hz _ (getD_in hk)
    have hol : l.getD k 0 ≤ sumL l := by
      have a1 := preL_next hk
      have a2 := preL_nn hz k
      have a3 := preL_le hz (k + 1)
      omega
    have hset := fun p h1 h2 => setF_bd hz v0 hk (p := p) h1 h2
    have hdone := fun p (h : l.length < p) => setF_done (l := l) (i := k) v hk h
    obtain ⟨x, hx⟩ : ∃ x, sumL l = x := ⟨_, rfl⟩
    rw [hx] at htot hss hol hset
    have hs' : x < 9223372036854775808 := by omega
    obtain ⟨o, ho⟩ : ∃ x, l.getD k 0 = x := ⟨_, rfl⟩
    rw [ho] at hat hss hok hol hset hdone
    have HAT := Lib.hid hat
    have HTO := Lib.hid htot
    have hx0 : x - o < 18446744073709551616 := by omega
    have hx1 : 0 ≤ x - o := by omega
    have hwr : IntKind.u64.wrap (x - o) = x - o := by rw [IntKind.wrap_u64]; omega
    have hadd := fun W => q9add_c (x - o) v hx1 hx0 v0 v1 W
    by_cases hs2 : sumL (l.set k v) < 9223372036854775808
    · obtain ⟨b1, b2⟩ := addV_ok (a := x - o) (b := v) (by omega)
      rw [b2] at hadd
      obtain ⟨av, hav⟩ : ∃ z9 : Int, addV (x - o) v = z9 := ⟨_, rfl⟩
      rw [hav] at hadd
      have HAD := Lib.hid hadd
      have HE := Lib.hid (setE_ok (l := l) (i := k) (v := v) hin (by rw [Int.toNat_natCast]; exact hs2))
      have HEND : Hid (∀ A' c' w', Rd .u64 w' w'.heap.size A' n (treeL (l.set k v)) → n ≤ c' → c' ≤ maxLen → Below w.heap.size w w' → (∀ b off, A' = some ⟨b, off, none⟩ → w.heap.size ≤ b) → RetFenF w (treeL (setL l k v)) (setE l k v) (.returned (.tuple #[.agg #[.slice A' n c'], .int .i64 0])) w') := Lib.hid (fun A' c' w' h1 h2 h3 h4 h5 => by rw [HE.out.1, HE.out.2, Int.toNat_natCast]; refine ⟨A', c', by rw [treeL_len, List.length_set, hn], ?_⟩; rw [treeL_len, List.length_set, hn]; exact ⟨h1, h2, h3, h4, h5⟩)
      have HPOS : Hid (0 < n) := Lib.hid (by omega)
      have HKN : Hid (k + 1 ≤ n) := Lib.hid (by omega)
      have HLN : Hid ((treeL l).length = n) := Lib.hid ((treeL_len l).trans hn)
      have HZERO := Lib.hid (setF_zero l k (v - o))
      have HHERE := Lib.hid (fun p (h : chainP k p) (hp : p ≤ n) => setF_here (l := l) (v - o) h (by omega))
      have HNEXT := Lib.hid (fun p (h : chainP k p) (hp : p ≤ n) => setF_next (l := l) (v - o) h (by omega))
      have HSET := Lib.hid (fun p (h : chainP k p) (hp : p ≤ n) => hset p h (by omega))
      have HDONE := Lib.hid (fun p (h : n < p) => hdone p (by omega))
      have HLOW := Lib.hid (fun M (h1 : M ≠ 0) (h2 : M ≤ n) W hW => q11low_c M h1 (by omega) W hW)
      have HS2 := Lib.hid hs2
      have HXB := Lib.hid hs'
      have hkI : (k : Int) < (n : Int) := by omega
      have ok0 : 0 ≤ o := hok
      have oxx : o ≤ x := hol
      have HR := Lib.hid hrd
      clear hrd hz hs hl hn hc hcm hT hat htot hadd hav b1 b2 hset hdone hss hok hol hx ho hk hin HE i0 i1 hs2 a1 a2 HEMP
      go_enter Tryz.func33, Tryz.ntmps33
      go_wp2_with (first
        | (with_reducible refine at_any ?_; refine at_dst 3 rfl ?_; refine wpList_box_any rfl 40 (.tmp 0) rfl #[.slice A n c] rfl ?_; intro w1 hk1 hs1 hb1; have G1 := Lib.hid (fx_start hk1.out HR.out hb1); have HGR := Lib.hid (Below.size hb1); clear hk1 hs1 hb1)
        | (with_reducible refine at_any ?_; refine at_dst 6 rfl ?_; refine wpList_alloc_any rfl 40 rfl #[.slice none 0 0] zero_fen ?_; intro w2 hk2 hs2 hb2; have G2 := Lib.hid (Fx.newB G1.out hk2.out hb2); clear hk2 hs2 hb2)
        | (with_reducible refine at_any ?_; refine at_dst 15 rfl ?_; refine wpList_load_fen (by kernel_rfl) (.tmp 3) rfl w.heap.size rfl 40 (.slice A n c) (Fx.b1 G2.out) ?_)
        | (go_at_call 59; (with_reducible refine (HAT.out _ (HTT.out.below (Fx.e3 G2.out)) (Fx.r2 G2.out)).mono ?_); rintro e w3 ⟨rfl, hb3⟩; have G3 := Lib.hid (Fx.below G2.out hb3); clear hb3)
        | (with_reducible refine at_any ?_; refine at_dst 25 rfl ?_; refine wpList_load_fen (by kernel_rfl) (.tmp 3) rfl w.heap.size rfl 40 (.slice A n c) (Fx.b1 G3.out) ?_)
        | (go_at_call 56; (with_reducible refine (HTO.out _ (HTT.out.below (Fx.e3 G3.out)) (Fx.r2 G3.out)).mono ?_); rintro e w4 ⟨rfl, hb4⟩; have G4 := Lib.hid (Fx.below G3.out hb4); have cz := Blk.cell0 (Fx.b1 G4.out); clear hb4)
        | (go_at_call 60; (with_reducible refine (HAD.out _).mono ?_); rintro e _ ⟨rfl, rfl⟩)
        | (go_at_call 52; (with_reducible refine (clone64_c (treeL l) A n c HN8.out _ (Fx.r2 G4.out)).mono ?_); rintro e w5 ⟨v6, rfl, ho2, hb2⟩; obtain ⟨g7, c7, rfl, HS2', HC7, HM7⟩ := bld_start (Fx.b0 G4.out) (Fx.e3 G4.out) ho2 hb2 HLN.out HPOS.out; clear ho2 hb2))
      obtain ⟨g2, hg2⟩ : ∃ g, w1.heap.size = g := ⟨_, rfl⟩
      have HS3 : Hid (BldS w g2 (.slice none 0 0) g7 c7 n (treeL l) w5) := Lib.hid (by rw [← hg2]; exact HS2'.out)
      have HG2 : Hid (w.heap.size ≤ g2) := Lib.hid (by rw [← hg2]; exact HGR.out)
      rw [hg2]
      clear HS2' hg2 HGR G4 HAT HTO HAD cz
      go_loopw [13] (fun pp wr => ∃ p : Nat, chainP k p ∧ p ≤ 2097152 ∧ pp = .int .i64 (p : Int) ∧ BldS w g2 (.slice none 0 0) g7 c7 n (setF l k (v - o) p) wr) (fun pp _ => 2097153 - (intOf pp).toNat)
      case atStart => exact ⟨k + 1, chain_zero k, by have := HKN.out; omega, by go_num, by rw [HZERO.out]; exact HS3.out⟩
      case round =>
        clear HS3
        obtain ⟨p, hch, hpb, rfl, hS⟩ := hrel
        have HS := Lib.hid hS
        have HCH := Lib.hid hch
        clear hS
        by_cases hp : p ≤ n
        · have hlow := fun W hW => HLOW.out p hch.1 hp W hW
          have hlp := lowN_pos hch.1
          have hll := lowN_le p
          have hhe := HHERE.out p hch hp
          have hnx := HNEXT.out p hch hp
          obtain ⟨s1, s2, s3, s4⟩ := HSET.out p hch hp
          have hsb := HS2.out
          have hxb := HXB.out
          obtain ⟨q, hq⟩ : ∃ q, p - 1 = q := ⟨_, rfl⟩
          have hp0 := hch.1
          rw [hq] at hhe hnx s1 s2 s4
          obtain ⟨y, hy⟩ : ∃ z, (treeL l).getD q 0 = z := ⟨_, rfl⟩
          rw [hy] at hhe hnx s1 s2 s4
          obtain ⟨lo, hlo⟩ : ∃ x, lowN p = x := ⟨_, rfl⟩
          rw [hlo] at hnx hlp hll hlow
          have HCN : Hid (chainP k (p + lo)) := Lib.hid (by rw [← hlo]; exact chain_next hch)
          have HLOWW := Lib.hid hlow
          obtain ⟨B, hB⟩ : ∃ B, setF l k (v - o) p = B := ⟨_, rfl⟩
          rw [hB] at HS hhe hnx
          have hyv : y + (v - o) = y - o + v := by omega
          rw [hyv] at hnx
          have HNX := Lib.hid hnx
          have y0 : o ≤ y := s1
          have y1 : y < 9223372036854775808 := by omega
          have hz1 : y - o + v < 9223372036854775808 := by omega
          have hz2 : 0 ≤ y - o := by omega
          have hW1 : IntKind.u64.wrap (y - o) = y - o := by rw [IntKind.wrap_u64]; omega
          have hW2 : IntKind.u64.wrap (y - o + v) = y - o + v := by rw [IntKind.wrap_u64]; omega
          have hqI : (p : Int) - 1 = (q : Int) := by omega
          have hq0 : (0 : Int) ≤ (q : Int) := by omega
          have hqn : (q : Int) < (n : Int) := by omega
          have hpn : (p : Int) ≤ (n : Int) := by omega
          have hp1 : (1 : Int) ≤ (p : Int) := by omega
          have hpl : (lo : Int) ≤ (p : Int) := by omega
          have hlo1 : (1 : Int) ≤ (lo : Int) := by omega
          have HPL : Hid (p + lo ≤ 2097152 ∧ 1 ≤ lo) := Lib.hid ⟨by omega, by omega⟩
          have HQL : Hid (q < n) := Lib.hid (by omega)
          obtain ⟨cur, HKC, HSC⟩ := HS.out.blk HPOS.out
          have hyc := HS.out.cell HQL.out hhe
          have hfz := HS.out.frz (j := q) HPOS.out
          have HPB := Lib.hid hpb
          clear hlow hlp hll hhe hnx s1 s2 s3 s4 hsb hxb hq hy hlo hB hyv hp hpb hch hp0 hz1
          go_wp2_with (first
            | (with_reducible refine at_any ?_; refine at_store 61 rfl ?_; refine wpList_store_cell rfl 24 (.tmp 61) (.tmp 60) rfl g7 q rfl 24 cur HKC.out (.int .u64 (y - o + v)) rfl (HSC.out _ HQL.out) size_u64f rfl rfl ?_; intro w9 hk9 ho9; have HNEW := Lib.hid (BldS.put HS.out HKC.out HQL.out hk9.out ho9); clear hk9 ho9)
            | (go_at_call 53; (with_reducible refine (HLOWW.out _ (HTT.out.below HNEW.out.bel)).mono ?_); rintro e _ ⟨rfl, rfl⟩))
          go_roundw
          case rel => exact ⟨p + lo, HCN.out, HPL.out.1, by go_num, by rw [← HNX.out]; exact HNEW.out⟩
          case measure => have := HPL.out; have := HPB.out; simp [intOf]; omega
        · have hdn := HDONE.out p (by omega)
          rw [hdn] at HS
          have hgt : ¬ (p : Int) ≤ (n : Int) := by omega
          have HK2 := Lib.hid HS.out.b2
          have HB2 := Lib.hid HS.out.bel
          have HRX := Lib.hid HS.out.rd
          have HL7 := Lib.hid HS.out.le7
          clear hdn hp hpb hch
          go_wp2_with (first
            | (with_reducible refine at_any ?_; refine at_store 6 rfl ?_; refine wpList_store_any rfl 40 (.tmp 6) (.tmp 63) rfl g2 rfl 40 #[.slice none 0 0] #[.slice (some ⟨g7, 0, none⟩) n c7] HK2.out rfl (size1 _ _) (sizedF _) (fen_ones _ _ _) ?_; intro w9 hk9 hs9 hb9 ho9; have HB9 := Lib.hid (HB2.out.trans (hb9 _ (HG2.out))); have HK9 := Lib.hid hk9.out; have HR9 := Lib.hid (rd_past HRX.out HK2.out hs9.out ho9); clear hb9)
            | (refine bodyPost_any2 6 7 40 rfl g2 rfl (.int .i64 0) rfl 40 #[.slice (some ⟨g7, 0, none⟩) n c7] HK9.out _ Tryz.underlying40 rfl (sizedF _) rfl ?_))
          exact HEND.out _ _ _ HR9.out HC7.out HM7.out HB9.out (fun b off h => by injection h with h; injection h with h; subst h; exact HL7.out)
    · obtain ⟨b1, b2⟩ := addV_no (a := x - o) (b := v) (by omega)
      rw [b1, b2] at hadd
      have HAD := Lib.hid hadd
      have HE := Lib.hid (setE_big (l := l) (i := k) (v := v) hin (by rw [Int.toNat_natCast]; exact hs2))
      have ok0 : 0 ≤ o := hok
      have oxx : o ≤ x := hol
      have HR := Lib.hid hrd
      clear hrd hz hs hl hn hc hcm hT hat htot hadd b1 b2 hset hdone hss hok hol hx ho hk hin i0 i1 hs2 a1 a2
      go_enter Tryz.func33, Tryz.ntmps33
      go_wp2_with (first
        | (with_reducible refine at_any ?_; refine at_dst 3 rfl ?_; refine wpList_box_any rfl 40 (.tmp 0) rfl #[.slice A n c] rfl ?_; intro w1 hk1 hs1 hb1; have G1 := Lib.hid (fx_start hk1.out HR.out hb1); have HGR := Lib.hid (Below.size hb1); clear hk1 hs1 hb1)
        | (with_reducible refine at_any ?_; refine at_dst 6 rfl ?_; refine wpList_alloc_any rfl 40 rfl #[.slice none 0 0] zero_fen ?_; intro w2 hk2 hs2 hb2; have G2 := Lib.hid (Fx.newB G1.out hk2.out hb2); clear hk2 hs2 hb2)
        | (with_reducible refine at_any ?_; refine at_dst 15 rfl ?_; refine wpList_load_fen (by kernel_rfl) (.tmp 3) rfl w.heap.size rfl 40 (.slice A n c) (Fx.b1 G2.out) ?_)
        | (go_at_call 59; (with_reducible refine (HAT.out _ (HTT.out.below (Fx.e3 G2.out)) (Fx.r2 G2.out)).mono ?_); rintro e w3 ⟨rfl, hb3⟩; have G3 := Lib.hid (Fx.below G2.out hb3); clear hb3)
        | (with_reducible refine at_any ?_; refine at_dst 25 rfl ?_; refine wpList_load_fen (by kernel_rfl) (.tmp 3) rfl w.heap.size rfl 40 (.slice A n c) (Fx.b1 G3.out) ?_)
        | (go_at_call 56; (with_reducible refine (HTO.out _ (HTT.out.below (Fx.e3 G3.out)) (Fx.r2 G3.out)).mono ?_); rintro e w4 ⟨rfl, hb4⟩; have G4 := Lib.hid (Fx.below G3.out hb4); have cz := Blk.cell0 (Fx.b1 G4.out); clear hb4)
        | (go_at_call 60; (with_reducible refine (HAD.out _).mono ?_); rintro e _ ⟨rfl, rfl⟩)
        | (with_reducible refine at_any ?_; refine at_dst 35 rfl ?_; refine wpList_val rfl (.agg #[.slice none 0 0]) (build_fen0 _ rfl) ?_)
        | (with_reducible refine at_any ?_; refine at_store 6 rfl ?_; refine wpList_store_any rfl 40 (.tmp 6) (.tmp 35) rfl w1.heap.size rfl 40 #[.slice none 0 0] #[.slice none 0 0] (Fx.b0 G4.out) rfl (size1 _ _) (sizedF _) (fen_ones _ _ _) ?_; intro w9 hk9 hs9 hb9 ho9; have HB9 := Lib.hid ((Fx.e3 G4.out).trans (hb9 _ HGR.out)); have HK9 := Lib.hid hk9.out; clear hb9)
        | (refine bodyPost_any2 6 7 40 rfl w1.heap.size rfl (.int .i64 11) rfl 40 #[.slice none 0 0] HK9.out _ Tryz.underlying40 rfl (sizedF _) rfl ?_))
      exact HEMP.out _ _ HE.out HB9.out
  · obtain ⟨a1, a2⟩ := at_no hin
    rw [a1, a2] at hat
    have HAT := Lib.hid hat
    have HE := Lib.hid (setE_no (l := l) (i := i) v hin)
    have HR := Lib.hid hrd
    clear hrd hz hs hl hn hc hcm hT hat htot hin a1 a2
    go_enter Tryz.func33, Tryz.ntmps33
    go_wp2_with (first
      | (with_reducible refine at_any ?_; refine at_dst 3 rfl ?_; refine wpList_box_any rfl 40 (.tmp 0) rfl #[.slice A n c] rfl ?_; intro w1 hk1 hs1 hb1; have G1 := Lib.hid (fx_start hk1.out HR.out hb1); have HGR := Lib.hid (Below.size hb1); clear hk1 hs1 hb1)
      | (with_reducible refine at_any ?_; refine at_dst 6 rfl ?_; refine wpList_alloc_any rfl 40 rfl #[.slice none 0 0] zero_fen ?_; intro w2 hk2 hs2 hb2; have G2 := Lib.hid (Fx.newB G1.out hk2.out hb2); clear hk2 hs2 hb2)
      | (with_reducible refine at_any ?_; refine at_dst 15 rfl ?_; refine wpList_load_fen (by kernel_rfl) (.tmp 3) rfl w.heap.size rfl 40 (.slice A n c) (Fx.b1 G2.out) ?_)
      | (go_at_call 59; (with_reducible refine (HAT.out _ (HTT.out.below (Fx.e3 G2.out)) (Fx.r2 G2.out)).mono ?_); rintro e w3 ⟨rfl, hb3⟩; have G3 := Lib.hid (Fx.below G2.out hb3); clear hb3)
      | (with_reducible refine at_any ?_; refine at_dst 22 rfl ?_; refine wpList_val rfl (.agg #[.slice none 0 0]) (build_fen0 _ rfl) ?_)
      | (with_reducible refine at_any ?_; refine at_store 6 rfl ?_; refine wpList_store_any rfl 40 (.tmp 6) (.tmp 22) rfl w1.heap.size rfl 40 #[.slice none 0 0] #[.slice none 0 0] (Fx.b0 G3.out) rfl (size1 _ _) (sizedF _) (fen_ones _ _ _) ?_; intro w9 hk9 hs9 hb9 ho9; have HB9 := Lib.hid ((Fx.e3 G3.out).trans (hb9 _ HGR.out)); have HK9 := Lib.hid hk9.out; clear hb9)
      | (refine bodyPost_any2 6 7 40 rfl w1.heap.size rfl (.int .i64 3) rfl 40 #[.slice none 0 0] HK9.out _ Tryz.underlying40 rfl (sizedF _) rfl ?_))
    exact HEMP.out _ _ HE.out HB9.out
end
section
open Go.ChangeShapes Go.WideShapes Go.ChangeAt Go.RowKit

end
section
open Go.ChangeShapes Go.WideShapes Go.ChangeAt Go.RowKit
theorem fx_led {w w6 w7 : World} {AF : Option Addr} {m c : Nat} {ts : List Int} {Z : Array Value} {w5 : World} (h : Fx [.blk w.heap.size 40 #[.slice AF m c], .rdb .u64 w.heap.size AF m ts, .bel w] w6) (hk : Blk w6 w5.heap.size 28 Z) (hb0 : Blk w5 w.heap.size 40 #[.slice AF m c]) (hbw : Below w.heap.size w w5) (hs : w7.heap.size = w6.heap.size) (hb : ∀ B, B ≤ w5.heap.size → Below B w6 w7) (ho : ∀ j, j ≠ w5.heap.size → w7.heap[j]? = w6.heap[j]?) : Fx [.blk w.heap.size 40 #[.slice AF m c], .rdb .u64 w.heap.size AF m ts, .bel w] w7 :=
  Fx.store h hk ⟨Nat.ne_of_lt hb0.lt, hbw.size, hbw.size, trivial⟩ hs hb ho
theorem draw_owns {l : List Int} (hz : ∀ z ∈ l, 0 ≤ z) (s : Src) (a : Int) (h : (drawR s (sumL l) a).2.2 = 0) : ownE l (drawR s (sumL l) a).1 = 0 := by
  have h0 := (draw_in s (sumL l) a).1
  have h1 : (drawR s (sumL l) a).1 < sumL l := by
    unfold drawR at h ⊢
    split
    next hb => rw [if_pos hb] at h; exact (drawGo_first _ _ _ _ h).1
    next hb => rw [if_neg hb] at h; exact absurd h (by show ¬ (1 : Int) = 0; omega)
  obtain ⟨_, _, _, e, _⟩ := own_at hz h0 h1
  exact e
set_option maxHeartbeats 8000000 in
theorem q13draw_c (l : List Int) (hz : ∀ z ∈ l, 0 ≤ z) (hs : sumL l < 9223372036854775808) (hl : l.length ≤ 1048576) (AF : Option Addr) (m c : Nat) (hm : l.length = m) (hc : m ≤ c) (hcm : c ≤ maxLen) (s : Src) (ok : s.Ok) (a : Int) (a0 : -9223372036854775808 ≤ a) (a1 : a < 9223372036854775808) (A0 : Option Addr) (c0 : Nat) (hc0 : s.tape.length ≤ c0) (hcm0 : c0 ≤ maxLen) (w : World) (hrf : Rd .u64 w w.heap.size AF m (treeL l)) (hrd : Rd .u8 w w.heap.size A0 s.tape.length s.tape) (hkst : Kst w) :
    Calls Tryz.prog 32 #[.agg #[.slice AF m c], .agg (srcV s A0 c0), .int .i64 a] w (RetLead w s A0 (ledT l s a)) := by
  have HKS := Lib.hid hkst
  have HZ0 := Lib.hid zero_src
  have hRd := Lib.hid hrd
  have HZSS := Lib.hid (fun (t : Src) (h : t.seed.length = 32) A c => srcV_same Src.zero t rfl h none A 0 c)
  have hto := fun W hW h => q11total_c l hz hs hl AF m c hm hc hcm W hW h
  have hs0 := sumL_nn hz
  obtain ⟨ts, hts⟩ : ∃ x, treeL l = x := ⟨_, rfl⟩
  rw [hts] at hrf hto
  have HRF := Lib.hid hrf
  obtain ⟨Z, hZ⟩ : ∃ Z, srcV Src.zero none 0 = Z := ⟨_, rfl⟩
  rw [hZ] at HZ0 HZSS
  have SV := Lib.hid (sizedS s ok.sl A0 c0)
  have OV := Lib.hid (srcV_ones s A0 c0)
  have ZV := Lib.hid (HZSS.out s ok.sl A0 c0)
  by_cases hnz : sumL l = 0
  · rw [ledT_zero s a hnz]
    rw [hnz] at hto
    have HTO := Lib.hid hto
    have HEND0 : Hid (∀ wF, Below w.heap.size w wF → ∀ w', RdP A0 s.tape.length s.tape w' → Below wF.heap.size wF w' → RetLead w s A0 (0, s, 10) (.returned (.tuple #[.int .i64 0, .agg (srcV s A0 c0), .int .i64 10])) w') := Lib.hid (fun wF h0 w' hr hb => ⟨A0, c0, rfl, hr, hc0, hcm0, .inl rfl, h0.trans (hb.mono h0.size)⟩)
    obtain ⟨rr, hrr⟩ : ∃ r : Int × Src × Int, (0, s, 10) = r := ⟨_, rfl⟩
    rw [hrr] at HEND0 ⊢
    obtain ⟨V, hV⟩ : ∃ V, srcV s A0 c0 = V := ⟨_, rfl⟩
    rw [hV] at SV OV ZV HEND0 ⊢
    obtain ⟨zs, hzs⟩ : ∃ zs, s.tape = zs := ⟨_, rfl⟩
    obtain ⟨L, hL⟩ : ∃ L, zs.length = L := ⟨_, rfl⟩
    rw [hzs, hL] at HEND0
    rw [hzs, hL] at hRd
    have HEND := HEND0
    clear HEND0 hrr hV hzs hL hto hz hs0 hrd hrf hc hcm hc0 hcm0 hZ a0 a1 hs hl hm HZSS hts hkst
    go_enter Tryz.func32, Tryz.ntmps32
    go_wp2_with (first
      | (with_reducible refine at_any ?_; refine at_dst 3 rfl ?_; refine wpList_box_any rfl 40 (.tmp 0) rfl #[.slice AF m c] rfl ?_; intro wF hkF hsF hbF; have G0 := Lib.hid (fx_start hkF.out HRF.out hbF); have HBF := Lib.hid hbF; have HRdF := Lib.hid ((hRd.out.below hbF).mono (Below.size hbF)); clear hkF hsF hbF)
      | (with_reducible refine at_any ?_; refine at_dst 4 rfl ?_; refine wpList_box_any rfl 28 (.tmp 1) rfl V rfl ?_; intro w1 hk1 hs1 hb1)
      | (with_reducible refine at_any ?_; refine at_dst 7 rfl ?_; refine wpList_alloc_any rfl 28 rfl Z HZ0.out ?_; intro w2 hk2 hs2 hb2; have HS2 := Lib.hid (DrS.mk2 HRdF.out hk1.out hb1 hk2.out hb2 (Below.refl _ _)); have HZ2 := Lib.hid (fx1 hk2.out); have G2 := Lib.hid (Fx.below (Fx.below G0.out hb1) hb2); clear G0 hs1 hb1 hs2 hb2)
      | (with_reducible refine at_any ?_; refine at_dst 14 rfl ?_; refine wpList_load_fen (by kernel_rfl) (.tmp 3) rfl w.heap.size rfl 40 (.slice AF m c) (Fx.b0 G2.out) ?_)
      | (go_at_call 56; (with_reducible refine (HTO.out _ (Kst.tz (HKS.out.below (Fx.e2 G2.out))) (Fx.r1 G2.out)).mono ?_); rintro e w3 ⟨rfl, hb3⟩; have HS := Lib.hid (DrS.below HS2.out hb3); have HZ := Lib.hid (Fx.below HZ2.out hb3); have G3 := Lib.hid (Fx.below G2.out hb3); clear G2 HS2 HZ2 hb3))
    obtain ⟨g3, hg3⟩ : ∃ g, wF.heap.size = g := ⟨_, rfl⟩
    obtain ⟨g7, hg7⟩ : ∃ g, w1.heap.size = g := ⟨_, rfl⟩
    have HS9 := HS.out
    have HZ9 := HZ.out
    rw [hg3, hg7] at HS9
    rw [hg7] at HZ9
    rw [hg3, hg7]
    clear hg3 hg7 hk1 hk2 HS HZ
    have HZ7 := HZ9.drew
    refine wp_region_held_drew (S := (DrS wF g3 g7 V A0 L zs)) (by kernel_rfl) HS9.drew (fun hH => ?_)
    refine wpAnyH_letter #[false, false, false, false] (by kernel_rfl) (fun _ _ d _ _ h => by cases d <;> exact h) (fun QL HQ1 HQ2 => ?_)
    refine held_row 0 (some 18) rfl (by kernel_rfl) (by kernel_rfl) (by kernel_rfl) (by kernel_rfl) (fun c a v w h => HQ2.out c a _ v w h) (by kernel_rfl) 28 (.tmp 4) rfl g3 (by kernel_rfl) 28 V (fun _ h => h.blk) _ Tryz.underlying28 rfl SV.out hH ?_
    try simp only [Act.put, List.setIfInBounds_toArray, List.set_cons_zero, List.set_cons_succ]
    refine held_v 1 (some 6) rfl (by kernel_rfl) (by kernel_rfl) (by kernel_rfl) (by kernel_rfl) (fun c a v w h => HQ2.out c a _ v w h) (by kernel_rfl) (.int .i64 0) (fun W h => by kernel_rfl) hH ?_
    try simp only [Act.put, List.setIfInBounds_toArray, List.set_cons_zero, List.set_cons_succ]
    refine wpAnyH_ready (rs := [2]) (by kernel_rfl) (by decide) ?_
    refine AllReadyH.cons rfl (fun K hK => ?_) AllReadyH.nil
    refine step_store none (by kernel_rfl) (by kernel_rfl) 28 (.tmp 7) (.tmp 18) rfl g7 (by kernel_rfl) 28 Z V HZ7.1 (by kernel_rfl) ZV.out SV.out OV.out ?_
    intro w41 hkw41 hsw41 hbw41 how41
    have ex42 : Fx [.blk g7 28 V] w41 := ⟨hkw41.out, trivial⟩
    refine hK.out _ _ (hH.store HZ7.1 hH.store7 hsw41.out hbw41 how41) (fun hw41 => ?_)
    clear hK K
    try simp only [Act.put, List.setIfInBounds_toArray, List.set_cons_zero, List.set_cons_succ]
    refine held_v 3 (some 8) rfl (by kernel_rfl) (by kernel_rfl) (by kernel_rfl) (by kernel_rfl) (fun c a v w h => HQ2.out c a _ v w h) (by kernel_rfl) (.int .i64 10) (fun W h => by kernel_rfl) hw41 ?_
    try simp only [Act.put, List.setIfInBounds_toArray, List.set_cons_zero, List.set_cons_succ]
    refine wpAnyH_done (by kernel_rfl) ?_ _
    refine HQ1.out _ _ ?_
    clear HQ1 HQ2
    go_wp2_with (refine bodyPost_mid 6 7 8 28 rfl g7 rfl (.int .i64 0) (.int .i64 10) rfl rfl 28 V ex42.1 _ Tryz.underlying28 rfl SV.out rfl ?_)
    exact HEND.out wF HBF.out _ hw41.rd hw41.bel
  · rw [ledT_go s a hnz]
    have hdr := fun W h hk => q8draw_c s ok (sumL l) (by omega) (by omega) a a0 a1 A0 c0 hc0 hcm0 W h hk
    have okt : (drawT s (sumL l) a).Ok := drawT_ok s (sumL l) a ok
    have HEND0 : Hid (∀ wF, Below w.heap.size w wF → ∀ A2 c2 w', Sep wF A0 A2 → s.tape.length ≤ c2 → c2 ≤ maxLen → RdP A2 s.tape.length s.tape w' → Below wF.heap.size wF w' → RetLead w s A0 (ledGo l (drawR s (sumL l) a)) (.returned (.tuple #[.int .i64 (ledGo l (drawR s (sumL l) a)).1, .agg (srcV (ledGo l (drawR s (sumL l) a)).2.1 A2 c2), .int .i64 (ledGo l (drawR s (sumL l) a)).2.2])) w') := Lib.hid (fun wF h0 A2 c2 w' h1 h2 h3 h4 h5 => ⟨A2, c2, rfl, h4, h2, h3, sep_from h1 h0.size, h0.trans (h5.mono h0.size)⟩)
    have how := fun W hW h => q11owner_c l hz hs hl AF m c hm hc hcm (drawR s (sumL l) a).1 (draw_in s (sumL l) a).1 (draw_in s (sumL l) a).2 W hW h
    have hgo : (drawR s (sumL l) a).2.2 = 0 → ledGo l (drawR s (sumL l) a) = (ownV l (drawR s (sumL l) a).1, (drawR s (sumL l) a).2.1, 0) := fun h => if_pos h
    have hgn : (drawR s (sumL l) a).2.2 ≠ 0 → ledGo l (drawR s (sumL l) a) = (0, (drawR s (sumL l) a).2.1, (drawR s (sumL l) a).2.2) := fun h => if_neg h
    rw [hts] at how
    have hoz := draw_owns hz s a
    obtain ⟨S, hS⟩ : ∃ x, sumL l = x := ⟨_, rfl⟩
    rw [hS] at hto hnz hdr okt HEND0 how hgo hgn hoz ⊢
    obtain ⟨t, ht⟩ : ∃ x, drawT s S a = x := ⟨_, rfl⟩
    have ht2 : (drawR s S a).2.1 = t := ht
    obtain ⟨x, hx⟩ : ∃ x, (drawR s S a).1 = x := ⟨_, rfl⟩
    obtain ⟨E, hE⟩ : ∃ x, (drawR s S a).2.2 = x := ⟨_, rfl⟩
    rw [ht] at okt
    unfold RetDraw at hdr
    rw [ht2, hx, hE] at hdr hgo
    rw [hx, hE] at hoz
    rw [ht2, hE] at hgn
    rw [hx] at how
    have t1 : (S == 0) = false := by rw [beq_eq_false_iff_ne]; exact hnz
    have HTO := Lib.hid hto
    have HDR0 := Lib.hid hdr
    have ST := Lib.hid (fun A c => sizedS t okt.sl A c)
    have OT := Lib.hid (fun A c => srcV_ones t A c)
    have ZT := Lib.hid (fun A c => HZSS.out t okt.sl A c)
    obtain ⟨ov, hov⟩ : ∃ y, ownV l x = y := ⟨_, rfl⟩
    obtain ⟨oe, hoe⟩ : ∃ y, ownE l x = y := ⟨_, rfl⟩
    rw [hov, hoe] at how
    rw [hoe] at hoz
    rw [hov] at hgo
    have HOW := Lib.hid how
    by_cases hE0 : E = 0
    · have e1 := hgo hE0
      rw [hoz hE0] at HOW
      rw [e1] at HEND0 ⊢
      have t2 : (E == 0) = true := by rw [beq_iff_eq]; exact hE0
      have t3 : (E != 0) = false := by rw [bne, t2]; rfl
      obtain ⟨rr, hrr⟩ : ∃ r : Int × Src × Int, (ov, t, 0) = r := ⟨_, rfl⟩
      have HEND1 : Hid (∀ wF, Below w.heap.size w wF → ∀ A2 c2 w', Sep wF A0 A2 → s.tape.length ≤ c2 → c2 ≤ maxLen → RdP A2 s.tape.length s.tape w' → Below wF.heap.size wF w' → RetLead w s A0 rr (.returned (.tuple #[.int .i64 ov, .agg (srcV t A2 c2), .int .i64 0])) w') := by rw [← hrr]; exact HEND0
      rw [hrr]
      obtain ⟨V, hV⟩ : ∃ V, srcV s A0 c0 = V := ⟨_, rfl⟩
      have HDR := HDR0
      rw [hV] at SV OV ZV HDR ⊢
      obtain ⟨zs, hzs⟩ : ∃ zs, s.tape = zs := ⟨_, rfl⟩
      obtain ⟨L, hL⟩ : ∃ L, zs.length = L := ⟨_, rfl⟩
      rw [hzs, hL] at HEND1 hRd HDR
      have HEND := HEND1
      clear HEND1 HEND0 HDR0 hrr hV hzs hL hto hdr how hgo hgn e1 hoz hov hoe hx hE ht ht2 hS okt hz hs0 hrd hrf hc hcm hc0 hcm0 hZ a0 a1 hs hl hm HZSS hnz hE0 hts hkst
      go_enter Tryz.func32, Tryz.ntmps32
      go_wp2_with (first
        | (with_reducible refine at_any ?_; refine at_dst 3 rfl ?_; refine wpList_box_any rfl 40 (.tmp 0) rfl #[.slice AF m c] rfl ?_; intro wF hkF hsF hbF; have G0 := Lib.hid (fx_start hkF.out HRF.out hbF); have HBF := Lib.hid hbF; have HRdF := Lib.hid ((hRd.out.below hbF).mono (Below.size hbF)); clear hkF hsF hbF)
        | (with_reducible refine at_any ?_; refine at_dst 4 rfl ?_; refine wpList_box_any rfl 28 (.tmp 1) rfl V rfl ?_; intro w1 hk1 hs1 hb1)
        | (with_reducible refine at_any ?_; refine at_dst 7 rfl ?_; refine wpList_alloc_any rfl 28 rfl Z HZ0.out ?_; intro w2 hk2 hs2 hb2; have HS2 := Lib.hid (DrS.mk2 HRdF.out hk1.out hb1 hk2.out hb2 (Below.refl _ _)); have HZ2 := Lib.hid (fx1 hk2.out); have G2 := Lib.hid (Fx.below (Fx.below G0.out hb1) hb2); clear G0 hs1 hb1 hs2 hb2)
        | (with_reducible refine at_any ?_; refine at_dst 14 rfl ?_; refine wpList_load_fen (by kernel_rfl) (.tmp 3) rfl w.heap.size rfl 40 (.slice AF m c) (Fx.b0 G2.out) ?_)
        | (go_at_call 56; (with_reducible refine (HTO.out _ (Kst.tz (HKS.out.below (Fx.e2 G2.out))) (Fx.r1 G2.out)).mono ?_); rintro e w3 ⟨rfl, hb3⟩; have HS := Lib.hid (DrS.below HS2.out hb3); have HZ := Lib.hid (Fx.below HZ2.out hb3); have G3 := Lib.hid (Fx.below G2.out hb3); clear G2 HS2 HZ2 hb3)
        | (with_reducible refine at_any ?_; refine at_dst 20 rfl ?_; refine wpList_load_blk rfl 28 (.tmp 4) rfl wF.heap.size rfl 28 V HS.out.blk _ Tryz.underlying28 rfl SV.out ?_)
        | (go_at_call 57; (with_reducible refine (HDR.out _ HS.out.rd.rd (HKS.out.below (Fx.e2 G3.out))).mono ?_); rintro e w5 ⟨A2, c2, rfl, hrd2, hc2, hm2, hsp2, hb5⟩; obtain ⟨V2, hV2⟩ : ∃ V2, srcV t A2 c2 = V2 := ⟨_, rfl⟩; have SV2 := Lib.hid (ST.out A2 c2); have OV2 := Lib.hid (OT.out A2 c2); have ZV2 := Lib.hid (ZT.out A2 c2); have HH2 := Lib.hid (fun w' h3 h4 => HEND.out wF HBF.out A2 c2 w' (sep_from hsp2 HS.out.bel.size) hc2 hm2 h3 h4); rw [hV2] at SV2 OV2 ZV2 HH2 ⊢; clear hV2 hc2 hm2; have G5 := Lib.hid (Fx.below G3.out hb5); clear G3)
        | (with_reducible refine at_any ?_; refine at_dst 11 rfl ?_; refine wpList_alloc_any rfl 28 rfl Z HZ0.out ?_; intro w6 hk6 hs6 hb6; have G6 := Lib.hid (Fx.below G5.out hb6))
        | (with_reducible refine at_any ?_; refine at_store 11 rfl ?_; refine wpList_store_any rfl 28 (.tmp 11) (.tmp 25) rfl w5.heap.size rfl 28 Z V2 hk6.out rfl ZV2.out SV2.out OV2.out ?_; intro w7 hk7 hs7 hb7 ho7; have T := Lib.hid (DrS.took HS.out HZ.out hrd2 hsp2 hb5 hb6 hk6.out hk7.out hs7.out hb7 ho7); have G7 := Lib.hid (fx_led G6.out hk6.out (Fx.b0 G5.out) (Fx.e2 G5.out) hs7.out hb7 ho7); clear G5 G6)
        | (with_reducible refine at_any ?_; refine at_dst 32 rfl ?_; refine wpList_load_fen (by kernel_rfl) (.tmp 3) rfl w.heap.size rfl 40 (.slice AF m c) (Fx.b0 G7.out) ?_)
        | (go_at_call 58; (with_reducible refine (HOW.out _ (Kst.tz (HKS.out.below (Fx.e2 G7.out))) (Fx.r1 G7.out)).mono ?_); rintro e w8 ⟨rfl, hb8⟩))
      obtain ⟨-, HZ9, -, -, -, HD⟩ := T.out
      have HZ9 := HZ9.below hb8
      have HD := HD.below hb8
      obtain ⟨g7, hg7⟩ : ∃ g, w1.heap.size = g := ⟨_, rfl⟩
      obtain ⟨g11, hg11⟩ : ∃ g, w5.heap.size = g := ⟨_, rfl⟩
      rw [hg7] at HZ9 HD
      rw [hg11] at HD
      rw [hg7, hg11]
      clear hg7 hg11 T
      have HZ7 := HZ9.drew
      refine wp_region_held_drew (S := (DrH wF g7 g11 V2 A2 L zs)) (by kernel_rfl) HD.drew (fun hH => ?_)
      refine wpAnyH_letter #[false, false, false, false, false, false] (by kernel_rfl) (fun _ _ d _ _ h => by cases d <;> exact h) (fun QL HQ1 HQ2 => ?_)
      refine held_v 0 (some 37) rfl (by kernel_rfl) (by kernel_rfl) (by kernel_rfl) (by kernel_rfl) (fun c a v w h => HQ2.out c a _ v w h) (by kernel_rfl) (.int .i64 ov) (fun W h => by kernel_rfl) hH ?_
      try simp only [Act.put, List.setIfInBounds_toArray, List.set_cons_zero, List.set_cons_succ]
      refine held_row 1 (some 38) rfl (by kernel_rfl) (by kernel_rfl) (by kernel_rfl) (by kernel_rfl) (fun c a v w h => HQ2.out c a _ v w h) (by kernel_rfl) 28 (.tmp 11) rfl g11 (by kernel_rfl) 28 V2 (fun _ h => h.blk) _ Tryz.underlying28 rfl SV2.out hH ?_
      try simp only [Act.put, List.setIfInBounds_toArray, List.set_cons_zero, List.set_cons_succ]
      refine held_v 2 (some 39) rfl (by kernel_rfl) (by kernel_rfl) (by kernel_rfl) (by kernel_rfl) (fun c a v w h => HQ2.out c a _ v w h) (by kernel_rfl) (.int .i64 0) (fun W h => by kernel_rfl) hH ?_
      try simp only [Act.put, List.setIfInBounds_toArray, List.set_cons_zero, List.set_cons_succ]
      refine held_v 3 (some 6) rfl (by kernel_rfl) (by kernel_rfl) (by kernel_rfl) (by kernel_rfl) (fun c a v w h => HQ2.out c a _ v w h) (by kernel_rfl) (.int .i64 ov) (fun W h => by kernel_rfl) hH ?_
      try simp only [Act.put, List.setIfInBounds_toArray, List.set_cons_zero, List.set_cons_succ]
      refine wpAnyH_ready (rs := [4]) (by kernel_rfl) (by decide) ?_
      refine AllReadyH.cons rfl (fun K hK => ?_) AllReadyH.nil
      refine step_store none (by kernel_rfl) (by kernel_rfl) 28 (.tmp 7) (.tmp 38) rfl g7 (by kernel_rfl) 28 Z V2 HZ7.1 (by kernel_rfl) ZV2.out SV2.out OV2.out ?_
      intro w141 hkw141 hsw141 hbw141 how141
      have ex142 : Fx [.blk g7 28 V2] w141 := ⟨hkw141.out, trivial⟩
      refine hK.out _ _ (hH.store HZ7.1 hH.store7 hsw141.out hbw141 how141) (fun hw141 => ?_)
      clear hK K
      try simp only [Act.put, List.setIfInBounds_toArray, List.set_cons_zero, List.set_cons_succ]
      refine held_v 5 (some 8) rfl (by kernel_rfl) (by kernel_rfl) (by kernel_rfl) (by kernel_rfl) (fun c a v w h => HQ2.out c a _ v w h) (by kernel_rfl) (.int .i64 0) (fun W h => by kernel_rfl) hw141 ?_
      try simp only [Act.put, List.setIfInBounds_toArray, List.set_cons_zero, List.set_cons_succ]
      refine wpAnyH_done (by kernel_rfl) ?_ _
      refine HQ1.out _ _ ?_
      clear HQ1 HQ2
      go_wp2_with (refine bodyPost_mid 6 7 8 28 rfl g7 rfl (.int .i64 ov) (.int .i64 0) rfl rfl 28 V2 ex142.1 _ Tryz.underlying28 rfl SV2.out rfl ?_)
      exact HH2.out _ hw141.rd.rd hw141.bel
    · have e1 := hgn hE0
      rw [e1] at HEND0 ⊢
      have t2 : (E == 0) = false := by rw [beq_eq_false_iff_ne]; exact hE0
      have t3 : (E != 0) = true := by rw [bne, t2]; rfl
      obtain ⟨rr, hrr⟩ : ∃ r : Int × Src × Int, (0, t, E) = r := ⟨_, rfl⟩
      have HEND1 : Hid (∀ wF, Below w.heap.size w wF → ∀ A2 c2 w', Sep wF A0 A2 → s.tape.length ≤ c2 → c2 ≤ maxLen → RdP A2 s.tape.length s.tape w' → Below wF.heap.size wF w' → RetLead w s A0 rr (.returned (.tuple #[.int .i64 0, .agg (srcV t A2 c2), .int .i64 E])) w') := by rw [← hrr]; exact HEND0
      rw [hrr]
      obtain ⟨V, hV⟩ : ∃ V, srcV s A0 c0 = V := ⟨_, rfl⟩
      have HDR := HDR0
      rw [hV] at SV OV ZV HDR ⊢
      obtain ⟨zs, hzs⟩ : ∃ zs, s.tape = zs := ⟨_, rfl⟩
      obtain ⟨L, hL⟩ : ∃ L, zs.length = L := ⟨_, rfl⟩
      rw [hzs, hL] at HEND1 hRd HDR
      have HEND := HEND1
      clear HEND1 HEND0 HDR0 hrr hV hzs hL hto hdr how hgo hgn e1 hoz hov hoe hx hE ht ht2 hS okt hz hs0 hrd hrf hc hcm hc0 hcm0 hZ a0 a1 hs hl hm HZSS hnz hE0 hts hkst
      go_enter Tryz.func32, Tryz.ntmps32
      go_wp2_with (first
        | (with_reducible refine at_any ?_; refine at_dst 3 rfl ?_; refine wpList_box_any rfl 40 (.tmp 0) rfl #[.slice AF m c] rfl ?_; intro wF hkF hsF hbF; have G0 := Lib.hid (fx_start hkF.out HRF.out hbF); have HBF := Lib.hid hbF; have HRdF := Lib.hid ((hRd.out.below hbF).mono (Below.size hbF)); clear hkF hsF hbF)
        | (with_reducible refine at_any ?_; refine at_dst 4 rfl ?_; refine wpList_box_any rfl 28 (.tmp 1) rfl V rfl ?_; intro w1 hk1 hs1 hb1)
        | (with_reducible refine at_any ?_; refine at_dst 7 rfl ?_; refine wpList_alloc_any rfl 28 rfl Z HZ0.out ?_; intro w2 hk2 hs2 hb2; have HS2 := Lib.hid (DrS.mk2 HRdF.out hk1.out hb1 hk2.out hb2 (Below.refl _ _)); have HZ2 := Lib.hid (fx1 hk2.out); have G2 := Lib.hid (Fx.below (Fx.below G0.out hb1) hb2); clear G0 hs1 hb1 hs2 hb2)
        | (with_reducible refine at_any ?_; refine at_dst 14 rfl ?_; refine wpList_load_fen (by kernel_rfl) (.tmp 3) rfl w.heap.size rfl 40 (.slice AF m c) (Fx.b0 G2.out) ?_)
        | (go_at_call 56; (with_reducible refine (HTO.out _ (Kst.tz (HKS.out.below (Fx.e2 G2.out))) (Fx.r1 G2.out)).mono ?_); rintro e w3 ⟨rfl, hb3⟩; have HS := Lib.hid (DrS.below HS2.out hb3); have HZ := Lib.hid (Fx.below HZ2.out hb3); have G3 := Lib.hid (Fx.below G2.out hb3); clear G2 HS2 HZ2 hb3)
        | (with_reducible refine at_any ?_; refine at_dst 20 rfl ?_; refine wpList_load_blk rfl 28 (.tmp 4) rfl wF.heap.size rfl 28 V HS.out.blk _ Tryz.underlying28 rfl SV.out ?_)
        | (go_at_call 57; (with_reducible refine (HDR.out _ HS.out.rd.rd (HKS.out.below (Fx.e2 G3.out))).mono ?_); rintro e w5 ⟨A2, c2, rfl, hrd2, hc2, hm2, hsp2, hb5⟩; obtain ⟨V2, hV2⟩ : ∃ V2, srcV t A2 c2 = V2 := ⟨_, rfl⟩; have SV2 := Lib.hid (ST.out A2 c2); have OV2 := Lib.hid (OT.out A2 c2); have ZV2 := Lib.hid (ZT.out A2 c2); have HH2 := Lib.hid (fun w' h3 h4 => HEND.out wF HBF.out A2 c2 w' (sep_from hsp2 HS.out.bel.size) hc2 hm2 h3 h4); rw [hV2] at SV2 OV2 ZV2 HH2 ⊢; clear hV2 hc2 hm2; have G5 := Lib.hid (Fx.below G3.out hb5); clear G3)
        | (with_reducible refine at_any ?_; refine at_dst 11 rfl ?_; refine wpList_alloc_any rfl 28 rfl Z HZ0.out ?_; intro w6 hk6 hs6 hb6; have G6 := Lib.hid (Fx.below G5.out hb6))
        | (with_reducible refine at_any ?_; refine at_store 11 rfl ?_; refine wpList_store_any rfl 28 (.tmp 11) (.tmp 25) rfl w5.heap.size rfl 28 Z V2 hk6.out rfl ZV2.out SV2.out OV2.out ?_; intro w7 hk7 hs7 hb7 ho7; have T := Lib.hid (DrS.took HS.out HZ.out hrd2 hsp2 hb5 hb6 hk6.out hk7.out hs7.out hb7 ho7); have G7 := Lib.hid (fx_led G6.out hk6.out (Fx.b0 G5.out) (Fx.e2 G5.out) hs7.out hb7 ho7); clear G5 G6))
      obtain ⟨-, HZ9, -, -, -, HD⟩ := T.out
      obtain ⟨g7, hg7⟩ : ∃ g, w1.heap.size = g := ⟨_, rfl⟩
      obtain ⟨g11, hg11⟩ : ∃ g, w5.heap.size = g := ⟨_, rfl⟩
      rw [hg7] at HZ9 HD
      rw [hg11] at HD
      rw [hg7, hg11]
      clear hg7 hg11 T
      have HZ7 := HZ9.drew
      refine wp_region_held_drew (S := (DrH wF g7 g11 V2 A2 L zs)) (by kernel_rfl) HD.drew (fun hH => ?_)
      refine wpAnyH_letter #[false, false, false, false, false] (by kernel_rfl) (fun _ _ d _ _ h => by cases d <;> exact h) (fun QL HQ1 HQ2 => ?_)
      refine held_row 0 (some 29) rfl (by kernel_rfl) (by kernel_rfl) (by kernel_rfl) (by kernel_rfl) (fun c a v w h => HQ2.out c a _ v w h) (by kernel_rfl) 28 (.tmp 11) rfl g11 (by kernel_rfl) 28 V2 (fun _ h => h.blk) _ Tryz.underlying28 rfl SV2.out hH ?_
      try simp only [Act.put, List.setIfInBounds_toArray, List.set_cons_zero, List.set_cons_succ]
      refine held_v 1 (some 30) rfl (by kernel_rfl) (by kernel_rfl) (by kernel_rfl) (by kernel_rfl) (fun c a v w h => HQ2.out c a _ v w h) (by kernel_rfl) (.int .i64 E) (fun W h => by kernel_rfl) hH ?_
      try simp only [Act.put, List.setIfInBounds_toArray, List.set_cons_zero, List.set_cons_succ]
      refine held_v 2 (some 6) rfl (by kernel_rfl) (by kernel_rfl) (by kernel_rfl) (by kernel_rfl) (fun c a v w h => HQ2.out c a _ v w h) (by kernel_rfl) (.int .i64 0) (fun W h => by kernel_rfl) hH ?_
      try simp only [Act.put, List.setIfInBounds_toArray, List.set_cons_zero, List.set_cons_succ]
      refine wpAnyH_ready (rs := [3]) (by kernel_rfl) (by decide) ?_
      refine AllReadyH.cons rfl (fun K hK => ?_) AllReadyH.nil
      refine step_store none (by kernel_rfl) (by kernel_rfl) 28 (.tmp 7) (.tmp 29) rfl g7 (by kernel_rfl) 28 Z V2 HZ7.1 (by kernel_rfl) ZV2.out SV2.out OV2.out ?_
      intro w141 hkw141 hsw141 hbw141 how141
      have ex142 : Fx [.blk g7 28 V2] w141 := ⟨hkw141.out, trivial⟩
      refine hK.out _ _ (hH.store HZ7.1 hH.store7 hsw141.out hbw141 how141) (fun hw141 => ?_)
      clear hK K
      try simp only [Act.put, List.setIfInBounds_toArray, List.set_cons_zero, List.set_cons_succ]
      refine held_v 4 (some 8) rfl (by kernel_rfl) (by kernel_rfl) (by kernel_rfl) (by kernel_rfl) (fun c a v w h => HQ2.out c a _ v w h) (by kernel_rfl) (.int .i64 E) (fun W h => by kernel_rfl) hw141 ?_
      try simp only [Act.put, List.setIfInBounds_toArray, List.set_cons_zero, List.set_cons_succ]
      refine wpAnyH_done (by kernel_rfl) ?_ _
      refine HQ1.out _ _ ?_
      clear HQ1 HQ2
      go_wp2_with (refine bodyPost_mid 6 7 8 28 rfl g7 rfl (.int .i64 0) (.int .i64 E) rfl rfl 28 V2 ex142.1 _ Tryz.underlying28 rfl SV2.out rfl ?_)
      exact HH2.out _ hw141.rd.rd hw141.bel
theorem fx_rdb {k : IntKind} {w : World} {A : Option Addr} {n : Nat} {ts : List Int} (h : Rd k w w.heap.size A n ts) : Fx [.rdb k w.heap.size A n ts] w := ⟨⟨h, Nat.le_refl _⟩, trivial⟩
theorem fx_list {w3 w4 w5 : World} {AF : Option Addr} {n c : Nat} {ts : List Int} (h : Fx [.rdb .u64 w3.heap.size AF n ts] w4) (hk : Blk w4 w3.heap.size 40 #[.slice none 0 0]) (hk5 : Blk w5 w3.heap.size 40 #[.slice AF n c]) (hs : w5.heap.size = w4.heap.size) (hb : ∀ B, B ≤ w3.heap.size → Below B w4 w5) (ho : ∀ j, j ≠ w3.heap.size → w5.heap[j]? = w4.heap[j]?) : Fx [.blk w3.heap.size 40 #[.slice AF n c], .rdb .u64 w3.heap.size AF n ts] w5 :=
  ⟨hk5, Fx.store h hk ⟨Nat.le_refl _, trivial⟩ hs hb ho⟩
theorem list_ne {w0 w w4 : World} {g3 g7 L : Nat} {V Z : Array Value} {A : Option Addr} {zs : List Int} (h : DrS w0 g3 g7 V A L zs w) {t : TypeId} {cs : Array Value} (hk : Blk w4 w.heap.size t cs) : (g3 ≠ w.heap.size ∧ Apt L A w.heap.size ∧ w0.heap.size ≤ w.heap.size) ∧ Fx.off w.heap.size cs [.blk g7 28 Z] :=
  ⟨⟨Nat.ne_of_lt h.lt3, Apt.of_lt h.rd.rd (Nat.le_refl _), h.bel.size⟩, Nat.ne_of_lt h.lt7, trivial⟩
end
section
open Go.ChangeShapes Go.WideShapes Go.ChangeAt Go.RowKit
section
variable (l : List Int) (hz : ∀ z ∈ l, 0 ≤ z ∧ z < 18446744073709551616) (A : Option Addr) (n c : Nat) (hn : n ≤ 1000000)
include hz hn
theorem q12tot_c (w : World) (hrd : Rd .u64 w w.heap.size A n l) : Calls Tryz.prog 40 #[.slice A n c] w fun e w' => e = .returned (.tuple #[.int .u64 (sumV l), .int .i64 (totE l)]) ∧ w = w' := by
  have HR := Lib.hid hrd
  have hnm : n ≤ maxLen := by simp only [maxLen]; omega
  have hto := fun W h => q9total_c l hz A n c hnm W h
  by_cases hs : sumL l < 9223372036854775808
  · have e := tot_ok hs
    rw [(sumV_ok hs).2] at hto
    rw [e.1]
    obtain ⟨x, hx⟩ : ∃ x, sumV l = x := ⟨_, rfl⟩
    rw [hx] at hto ⊢
    have HTO := Lib.hid hto
    clear hrd hz hto hs e hx hn hnm
    go_enter Tryz.func40, Tryz.ntmps40
    go_wp2_with (go_at_call 51; (with_reducible refine (HTO.out _ HR.out).mono ?_); rintro e _ ⟨rfl, rfl⟩)
    go_ret2
    exact ⟨rfl, rfl⟩
  · have e := tot_no hs
    rw [(sumV_no hs).1, (sumV_no hs).2] at hto
    rw [e.1, e.2]
    have HTO := Lib.hid hto
    clear hrd hz hto hs e hn hnm
    go_enter Tryz.func40, Tryz.ntmps40
    go_wp2_with (go_at_call 51; (with_reducible refine (HTO.out _ HR.out).mono ?_); rintro e _ ⟨rfl, rfl⟩)
    go_ret2
    exact ⟨rfl, rfl⟩
theorem q12total_c (w : World) (hrd : Rd .u64 w w.heap.size A n l) : Calls Tryz.prog 40 #[.slice A n c] w fun e w' => e = .returned (.tuple #[.int .u64 (sumV l), .int .i64 (totE l)]) ∧ Below w.heap.size w w' :=
  (q12tot_c l hz A n c hn w hrd).mono fun e w' h => by obtain ⟨h1, rfl⟩ := h; exact ⟨h1, Below.refl _ _⟩
theorem q12pos_c (w : World) (hrd : Rd .u64 w w.heap.size A n l) : Calls Tryz.prog 30 #[.slice A n c] w fun e w' => e = .returned (.int .i64 (posL l : Nat)) ∧ Below w.heap.size w w' := by
  have HR := Lib.hid hrd
  have hlen := hrd.len
  have hnm : (n : Int) ≤ 1000000 := by omega
  have HZ : Hid (∀ k, k < n → 0 ≤ l.getD k 0 ∧ l.getD k 0 < 18446744073709551616) := Lib.hid (fun k h => hz _ (getD_in (l := l) (k := k) (by omega)))
  have HTK := Lib.hid (fun k (h : k < n) => posL_take (l := l) (k := k) (by omega))
  have HAL : Hid (l.take n = l) := Lib.hid (List.take_of_length_le (by omega))
  have HLE : Hid (∀ k, k ≤ n → posL (l.take k) ≤ k) := Lib.hid (fun k h => by have := posL_le (l.take k); rw [List.length_take] at this; omega)
  clear hrd hz hn hlen
  go_enter Tryz.func30, Tryz.ntmps30
  go_wp2
  go_loopw [3, 8] (fun pp ii wr => ∃ k : Nat, k ≤ n ∧ ii = .int .i64 (k : Int) ∧ pp = .int .i64 (posL (l.take k) : Nat) ∧ w = wr) (fun _ ii _ => n - (intOf ii).toNat)
  case atStart => exact ⟨0, by omega, rfl, rfl, by first | rfl | trivial⟩
  case round =>
    obtain ⟨k, hk, rfl, rfl, rfl⟩ := hrel
    by_cases hlt : k < n
    · obtain ⟨g, off, rfl, -, hc⟩ := HR.out.at_ (by omega)
      have hck := hc k hlt
      have hzk := HZ.out k hlt
      have htk := HTK.out k hlt
      have hle := HLE.out k hk
      have hlt2 : (k : Int) < (n : Int) := by omega
      obtain ⟨z, hzz⟩ : ∃ z, l.getD k 0 = z := ⟨_, rfl⟩
      rw [hzz] at hck hzk htk
      obtain ⟨p, hp⟩ : ∃ p, posL (l.take k) = p := ⟨_, rfl⟩
      rw [hp] at htk hle ⊢
      obtain ⟨z0, z1⟩ := hzk
      have hpk : (p : Int) ≤ (k : Int) := by omega
      by_cases hpos : 0 < z
      · rw [if_pos hpos] at htk
        have HNP := Lib.hid htk
        clear hc hzz hp htk hle
        go_wp2
        go_roundw
        case rel => exact ⟨k + 1, by omega, by go_num, by rw [HNP.out]; go_num, by first | rfl | trivial⟩
        case measure => simp [intOf]; omega
      · rw [if_neg hpos] at htk
        have HNP := Lib.hid htk
        clear hc hzz hp htk hle
        go_wp2
        go_roundw
        case rel => exact ⟨k + 1, by omega, by go_num, by rw [HNP.out]; rfl, by first | rfl | trivial⟩
        case measure => simp [intOf]; omega
    · obtain rfl : k = n := by omega
      rw [HAL.out]
      go_wp2
      go_ret
      exact ⟨rfl, Below.refl _ _⟩
end
end
section
def linB (n : Nat) (xs : List Nat) (g : Nat → Nat) : Nat := sumB (fun j => xs.getD j 0 * g j) n
theorem setN_at {xs : List Nat} {j v i : Nat} (hj : j < xs.length) : (xs.set j v).getD i 0 = if i = j then v else xs.getD i 0 := by
  by_cases h : i = j
  · subst h
    rw [if_pos rfl, List.getD_eq_getElem?_getD, List.getElem?_set_self hj]
    rfl
  · rw [if_neg h, List.getD_eq_getElem?_getD, List.getElem?_set_ne (fun e => h e.symm), ← List.getD_eq_getElem?_getD]
theorem linB_set {xs : List Nat} {j : Nat} (v : Nat) (g : Nat → Nat) (hj : j < xs.length) : ∀ n, linB n (xs.set j (xs.getD j 0 + v)) g = linB n xs g + if j < n then v * g j else 0
  | 0 => rfl
  | n + 1 => by
    have ih := linB_set v g hj n
    unfold linB at ih ⊢
    rw [sumB, ih, sumB, setN_at hj]
    by_cases h : n = j
    · subst h
      rw [if_pos rfl, if_neg (by omega), if_pos (by omega), Nat.add_mul]
      omega
    · rw [if_neg h]
      by_cases h2 : j < n
      · rw [if_pos h2, if_pos (by omega)]; omega
      · rw [if_neg h2, if_neg (by omega)]; omega
theorem linB_zero (n m : Nat) (g : Nat → Nat) : linB n (List.replicate m 0) g = 0 := by
  unfold linB
  rw [sumB_congr n (fun v _ => show (List.replicate m 0).getD v 0 * g v = 0 by
    rw [List.getD_eq_getElem?_getD, List.getElem?_replicate]
    split <;> simp), sumB_zero]
theorem wayD_congr {k st lost : Nat} {g g' : Nat → Nat} : ∀ a r, (∀ r', r' ≤ r → g r' = g' r') → wayD k st lost g a r = wayD k st lost g' a r
  | 0, _, _ => rfl
  | a + 1, r, h => by
    rw [wayD, wayD, h (r - k) (by omega), wayD_congr a (r - k) (fun r' hr => h r' (by omega))]
theorem wayD_zero {k st lost : Nat} {g : Nat → Nat} : ∀ a r, (∀ r', r' ≤ r → g r' = 0) → wayD k st lost g a r = 0
  | 0, _, _ => rfl
  | a + 1, r, h => by
    rw [wayD, h (r - k) (by omega), wayD_zero a (r - k) (fun r' hr => h r' (by omega))]
    split <;> simp
theorem wayD_le {k st lost : Nat} (h : st + lost ≤ 2 ^ k) : ∀ a r, wayD k st lost (fun r => 2 ^ r) a r ≤ 2 ^ r
  | 0, _ => Nat.zero_le _
  | a + 1, r => by
    rw [wayD]
    split
    · rename_i hk
      have e : 2 ^ r = 2 ^ k * 2 ^ (r - k) := by rw [← Nat.pow_add]; congr 1; omega
      have h1 : lost * wayD k st lost (fun r => 2 ^ r) a (r - k) ≤ lost * 2 ^ (r - k) := Nat.mul_le_mul_left _ (wayD_le h a (r - k))
      have h2 : (st + lost) * 2 ^ (r - k) ≤ 2 ^ k * 2 ^ (r - k) := Nat.mul_le_mul_right _ h
      rw [Nat.add_mul] at h2
      rw [e]
      show st * 2 ^ (r - k) + _ ≤ _
      omega
    · exact Nat.zero_le _
theorem wayN_cons (m : Nat) (i : Int) (M l : List Int) (r : Nat) : wayN m (i :: M) l r = if memB l i then wayD (needN (sumL l)) (l.getD i.toNat 0).toNat (2 ^ needN (sumL l) - (sumL l).toNat) (wayN m M (l.set i.toNat 0)) m r else 0 := rfl
def StepD (B m k st lost : Nat) (xs nx : List Nat) : Prop := ∀ g : Nat → Nat, linB (B + 1) nx g = sumB (fun b => xs.getD b 0 * wayD k st lost (fun r => g (B - r)) m (B - b)) (B + 1)
def PartD (B m k st lost : Nat) (xs nx : List Nat) (b a : Nat) : Prop := ∀ g : Nat → Nat, linB (B + 1) nx g + xs.getD b 0 * lost ^ a * wayD k st lost (fun r => g (B - r)) (m - a) (B - b - k * a) = sumB (fun b => xs.getD b 0 * wayD k st lost (fun r => g (B - r)) m (B - b)) (b + 1)
section
variable {B m k st lost b a : Nat} {xs nx : List Nat}
theorem part_zero (h : ∀ g : Nat → Nat, linB (B + 1) nx g = sumB (fun b => xs.getD b 0 * wayD k st lost (fun r => g (B - r)) m (B - b)) b) : PartD B m k st lost xs nx b 0 := fun g => by
  rw [h g, Nat.pow_zero, Nat.mul_one, Nat.mul_zero, Nat.sub_zero, Nat.sub_zero, sumB]
theorem part_next (h : PartD B m k st lost xs nx b a) (hl : nx.length = B + 1) (ha : a < m) (hb : b + k * (a + 1) ≤ B) : PartD B m k st lost xs (nx.set (b + k * (a + 1)) (nx.getD (b + k * (a + 1)) 0 + xs.getD b 0 * st * lost ^ a)) b (a + 1) := fun g => by
  have h1 := h g
  have e1 : m - a = (m - (a + 1)) + 1 := by omega
  have e2 : k * (a + 1) = k * a + k := by rw [Nat.mul_add, Nat.mul_one]
  rw [e1, wayD, if_pos (by omega)] at h1
  have e3 : B - b - k * a - k = B - b - k * (a + 1) := by omega
  have e4 : B - (B - b - k * (a + 1)) = b + k * (a + 1) := by omega
  rw [e3] at h1
  simp only [e4] at h1
  rw [← h1, linB_set _ _ (by omega), if_pos (by omega), Nat.pow_succ]
  generalize wayD k st lost (fun r => g (B - r)) (m - (a + 1)) (B - b - k * (a + 1)) = W
  generalize xs.getD b 0 = X
  generalize lost ^ a = L
  generalize g (b + k * (a + 1)) = Gv
  have f1 : X * st * L * Gv = X * L * (st * Gv) := by rw [Nat.mul_assoc X st L, Nat.mul_comm st L, ← Nat.mul_assoc X L st, Nat.mul_assoc (X * L) st Gv]
  have f2 : X * (L * lost) * W = X * L * (lost * W) := by rw [← Nat.mul_assoc X L lost, Nat.mul_assoc (X * L) lost W]
  rw [f1, f2, Nat.mul_add]
  omega
theorem part_done (h : PartD B m k st lost xs nx b a) (hd : m ≤ a ∨ B < b + k * (a + 1)) (hb : b ≤ B) (hka : b + k * a ≤ B) : ∀ g : Nat → Nat, linB (B + 1) nx g = sumB (fun b => xs.getD b 0 * wayD k st lost (fun r => g (B - r)) m (B - b)) (b + 1) := fun g => by
  have h1 := h g
  have h2 : wayD k st lost (fun r => g (B - r)) (m - a) (B - b - k * a) = 0 := by
    rcases hd with hd | hd
    · rw [show m - a = 0 by omega]
      rfl
    · have e2 : k * (a + 1) = k * a + k := by rw [Nat.mul_add, Nat.mul_one]
      cases hma : m - a with
      | zero => rfl
      | succ q => rw [wayD, if_neg (by omega)]
  rw [h2, Nat.mul_zero, Nat.add_zero] at h1
  exact h1
theorem step_start (B m k st lost : Nat) (xs : List Nat) : ∀ g : Nat → Nat, linB (B + 1) (List.replicate (B + 1) 0) g = sumB (fun b => xs.getD b 0 * wayD k st lost (fun r => g (B - r)) m (B - b)) 0 := fun g => linB_zero _ _ _
theorem step_way {M l : List Int} {i : Int} (h : StepD B m (needN (sumL l)) (l.getD i.toNat 0).toNat (2 ^ needN (sumL l) - (sumL l).toNat) xs nx) (hm : memB l i) : linB (B + 1) nx (fun b => wayN m M (l.set i.toNat 0) (B - b)) = linB (B + 1) xs (fun b => wayN m (i :: M) l (B - b)) := by
  rw [h]
  unfold linB
  apply sumB_congr
  intro v hv
  congr 1
  show _ = wayN m (i :: M) l (B - v)
  rw [wayN_cons, if_pos hm]
  exact wayD_congr _ _ (fun r' hr => by show wayN m M _ (B - (B - r')) = _; rw [show B - (B - r') = r' by omega])
theorem step_pow {l : List Int} {i : Int} (hz : ∀ z ∈ l, 0 ≤ z) (hs : sumL l < 9223372036854775808) (hm : memB l i) (h : StepD B m (needN (sumL l)) (l.getD i.toNat 0).toNat (2 ^ needN (sumL l) - (sumL l).toNat) xs nx) (hb : linB (B + 1) xs (fun b => 2 ^ (B - b)) ≤ 2 ^ B) : linB (B + 1) nx (fun b => 2 ^ (B - b)) ≤ 2 ^ B := by
  obtain ⟨h0, h1, h2⟩ := hm
  have hk : i.toNat < l.length := by omega
  have hge := sum_ge hz hk
  obtain ⟨hn1, hn2⟩ := need_pow (n := sumL l) (by omega) hs
  refine Nat.le_trans ?_ hb
  rw [h]
  unfold linB
  suffices hmono : ∀ n, n ≤ B + 1 → sumB (fun b => xs.getD b 0 * wayD (needN (sumL l)) (l.getD i.toNat 0).toNat (2 ^ needN (sumL l) - (sumL l).toNat) (fun r => (fun b => 2 ^ (B - b)) (B - r)) m (B - b)) n ≤ sumB (fun j => xs.getD j 0 * (fun b => 2 ^ (B - b)) j) n from hmono _ (Nat.le_refl _)
  intro n
  induction n with
  | zero => intro _; exact Nat.le_refl _
  | succ n ih =>
    intro hn
    rw [sumB, sumB]
    have e : wayD (needN (sumL l)) (l.getD i.toNat 0).toNat (2 ^ needN (sumL l) - (sumL l).toNat) (fun r => (fun b => 2 ^ (B - b)) (B - r)) m (B - n) = wayD (needN (sumL l)) (l.getD i.toNat 0).toNat (2 ^ needN (sumL l) - (sumL l).toNat) (fun r => 2 ^ r) m (B - n) := wayD_congr _ _ (fun r' hr => by show 2 ^ (B - (B - r')) = 2 ^ r'; rw [show B - (B - r') = r' by omega])
    rw [e]
    have h3 := wayD_le (k := needN (sumL l)) (st := (l.getD i.toNat 0).toNat) (lost := 2 ^ needN (sumL l) - (sumL l).toNat) (by omega) m (B - n)
    have h4 := Nat.mul_le_mul_left (xs.getD n 0) h3
    have := ih (by omega)
    show _ + _ ≤ _ + xs.getD n 0 * 2 ^ (B - n)
    omega
end
theorem lin_each {B : Nat} {xs : List Nat} (h : linB (B + 1) xs (fun b => 2 ^ (B - b)) ≤ 2 ^ B) {j : Nat} (hj : j ≤ B) : xs.getD j 0 ≤ 2 ^ B := by
  have hone : ∀ n, j < n → xs.getD j 0 * 2 ^ (B - j) ≤ linB n xs (fun b => 2 ^ (B - b)) := by
    intro n
    induction n with
    | zero => intro h; omega
    | succ n ih =>
      intro hn
      unfold linB at ih ⊢
      rw [sumB]
      by_cases hjn : j = n
      · subst hjn
        show _ ≤ _ + xs.getD j 0 * 2 ^ (B - j)
        omega
      · have := ih (by omega)
        omega
  have h1 := hone (B + 1) (by omega)
  have h2 : xs.getD j 0 * 1 ≤ xs.getD j 0 * 2 ^ (B - j) := Nat.mul_le_mul_left _ Nat.one_le_two_pow
  omega
theorem way_none {M l : List Int} {i : Int} (m B : Nat) (xs : List Nat) (hm : ¬ memB l i) : linB (B + 1) xs (fun b => wayN m (i :: M) l (B - b)) = 0 := by
  unfold linB
  rw [sumB_congr (g := fun _ => 0) _ (fun v _ => by show _ * wayN m (i :: M) l (B - v) = 0; rw [wayN_cons, if_neg hm, Nat.mul_zero]), sumB_zero]
theorem way_start (m B : Nat) (M l : List Int) : linB (B + 1) (1 :: List.replicate B 0) (fun b => wayN m M l (B - b)) = wayN m M l B := by
  have h : ∀ n, linB (n + 1) (1 :: List.replicate B 0) (fun b => wayN m M l (B - b)) = wayN m M l B := by
    intro n
    induction n with
    | zero =>
      unfold linB
      rw [sumB, sumB]
      show 0 + 1 * wayN m M l (B - 0) = _
      rw [Nat.sub_zero]
      omega
    | succ n ih =>
      unfold linB at ih ⊢
      rw [sumB, ih]
      have : (1 :: List.replicate B 0).getD (n + 1) 0 = 0 := by
        show (List.replicate B 0).getD n 0 = 0
        rw [List.getD_eq_getElem?_getD, List.getElem?_replicate]
        split <;> rfl
      rw [this, Nat.zero_mul, Nat.add_zero]
  exact h B
end
section
structure Turn where
  k : Nat
  st : Nat
  lost : Nat
def Turn.fits (t : Turn) : Prop := t.k ≤ 63 ∧ t.st + t.lost ≤ 2 ^ t.k ∧ t.st < 9223372036854775808
def wT (m : Nat) : List Turn → Nat → Nat
  | [], r => 2 ^ r
  | t :: T, r => wayD t.k t.st t.lost (wT m T) m r
def tapN (m : Nat) (T : List Turn) (j r : Nat) : Nat := match T with
  | [] => 2 ^ r
  | t :: T' => wayD t.k t.st t.lost (wT m T') (m - j) r
def tapV (m : Nat) (T : List Turn) (i j r : Nat) : Nat := tapN m (T.drop i) j r
theorem tapN_zero (m : Nat) (T : List Turn) (r : Nat) : tapN m T 0 r = wT m T r := by
  cases T with
  | nil => rfl
  | cons t T => rfl
theorem tapV_start (m : Nat) (T : List Turn) (r : Nat) : tapV m T 0 0 r = wT m T r := tapN_zero m T r
section
variable {m i j r : Nat} {T : List Turn} {t : Turn}
theorem tapV_end (h : i = T.length) : tapV m T i j r = 2 ^ r := by
  unfold tapV
  rw [List.drop_eq_nil_of_le (by omega)]
  rfl
theorem tur_drop (h : T[i]? = some t) : T.drop i = t :: T.drop (i + 1) := by
  obtain ⟨h1, h2⟩ := List.getElem?_eq_some_iff.1 h
  rw [List.drop_eq_getElem_cons h1, h2]
theorem tapV_no (h : T[i]? = some t) (hn : m ≤ j ∨ r < t.k) : tapV m T i j r = 0 := by
  unfold tapV
  rw [tur_drop h]
  show wayD t.k t.st t.lost (wT m (T.drop (i + 1))) (m - j) r = 0
  rcases hn with hn | hn
  · rw [show m - j = 0 by omega]
    rfl
  · cases hq : m - j with
    | zero => rfl
    | succ q => rw [wayD, if_neg (by omega)]
theorem tapV_on (h : T[i]? = some t) (hj : j < m) (hr : t.k ≤ r) : tapV m T i j r = t.st * tapV m T (i + 1) 0 (r - t.k) + t.lost * tapV m T i (j + 1) (r - t.k) := by
  unfold tapV
  rw [tapN_zero, tur_drop h]
  show wayD t.k t.st t.lost (wT m (T.drop (i + 1))) (m - j) r = _ + _ * wayD t.k t.st t.lost (wT m (T.drop (i + 1))) (m - (j + 1)) (r - t.k)
  rw [show m - j = (m - (j + 1)) + 1 by omega, wayD, if_pos hr]
theorem wayD_le2 {k st lost : Nat} {g : Nat → Nat} (h : st + lost ≤ 2 ^ k) (hg : ∀ r, g r ≤ 2 ^ r) : ∀ a r, wayD k st lost g a r ≤ 2 ^ r
  | 0, _ => Nat.zero_le _
  | a + 1, r => by
    rw [wayD]
    split
    · rename_i hk
      have e : 2 ^ r = 2 ^ k * 2 ^ (r - k) := by rw [← Nat.pow_add]; congr 1; omega
      have h1 : lost * wayD k st lost g a (r - k) ≤ lost * 2 ^ (r - k) := Nat.mul_le_mul_left _ (wayD_le2 h hg a (r - k))
      have h0 : st * g (r - k) ≤ st * 2 ^ (r - k) := Nat.mul_le_mul_left _ (hg _)
      have h2 : (st + lost) * 2 ^ (r - k) ≤ 2 ^ k * 2 ^ (r - k) := Nat.mul_le_mul_right _ h
      rw [Nat.add_mul] at h2
      omega
    · exact Nat.zero_le _
theorem wT_le (m : Nat) : ∀ T : List Turn, (∀ t ∈ T, t.fits) → ∀ r, wT m T r ≤ 2 ^ r
  | [], _, r => Nat.le_refl _
  | t :: T, h, r => wayD_le2 (h t (by simp)).2.1 (wT_le m T (fun t ht => h t (by simp [ht]))) m r
theorem tapV_le (h : ∀ t ∈ T, t.fits) : tapV m T i j r ≤ 2 ^ r := by
  unfold tapV
  cases hT : T.drop i with
  | nil => exact Nat.le_refl _
  | cons t T' =>
    have h1 : ∀ t' ∈ t :: T', t'.fits := fun t' ht => h t' (List.mem_of_mem_drop (by rw [hT]; exact ht))
    exact wayD_le2 (h1 t (by simp)).2.1 (wT_le m T' (fun t ht => h1 t (by simp [ht]))) (m - j) r
theorem tapV_hit (hf : ∀ t ∈ T, t.fits) (h : T[i]? = some t) (hr : t.k ≤ r) : t.st * tapV m T (i + 1) 0 (r - t.k) ≤ 2 ^ r ∧ t.lost * tapV m T i (j + 1) (r - t.k) ≤ 2 ^ r ∧ t.st < 9223372036854775808 ∧ t.lost ≤ 2 ^ 63 := by
  obtain ⟨f1, f2, f3⟩ := hf t (List.mem_of_getElem? h)
  have e : 2 ^ r = 2 ^ t.k * 2 ^ (r - t.k) := by rw [← Nat.pow_add]; congr 1; omega
  rw [e]
  have h63 : 2 ^ t.k ≤ 2 ^ 63 := Nat.pow_le_pow_right (n := 2) (by omega) f1
  exact ⟨Nat.mul_le_mul (by omega) (tapV_le hf), Nat.mul_le_mul (by omega) (tapV_le hf), f3, by omega⟩
end
def turL : List Int → List Int → List Turn
  | [], _ => []
  | i :: M, l => ⟨needN (sumL l), (l.getD i.toNat 0).toNat, 2 ^ needN (sumL l) - (sumL l).toNat⟩ :: turL M (l.set i.toNat 0)
def turOk : List Int → List Int → Prop
  | [], _ => True
  | i :: M, l => memB l i ∧ turOk M (l.set i.toNat 0)
theorem wayN_no (m : Nat) : ∀ (M l : List Int) (r : Nat), ¬ turOk M l → wayN m M l r = 0
  | [], l, r, h => absurd trivial h
  | i :: M, l, r, h => by
    rw [wayN_cons]
    by_cases hm : memB l i
    · rw [if_pos hm]
      exact wayD_zero _ _ (fun r' _ => wayN_no m M _ r' (fun h2 => h ⟨hm, h2⟩))
    · rw [if_neg hm]
theorem wayN_ok (m : Nat) : ∀ (M l : List Int) (r : Nat), turOk M l → wayN m M l r = wT m (turL M l) r
  | [], l, r, h => rfl
  | i :: M, l, r, h => by
    rw [wayN_cons, if_pos h.1]
    exact wayD_congr _ _ (fun r' _ => wayN_ok m M _ r' h.2)
theorem zero_sum {l : List Int} (hz : ∀ z ∈ l, 0 ≤ z) {k : Nat} (hk : k < l.length) : sumL (l.set k 0) = sumL l - l.getD k 0 := by
  have h := preL_set (l := l) 0 hk l.length
  have e1 : preL (l.set k 0) l.length = sumL (l.set k 0) := by
    have := preL_all (l.set k 0)
    rwa [List.length_set] at this
  rw [e1, preL_all, if_pos hk] at h
  omega
structure TurI (M l : List Int) (i : Nat) (li : List Int) (T : List Turn) : Prop where
  len : li.length = l.length
  nn : ∀ z ∈ li, 0 ≤ z
  sum : sumL li < 9223372036854775808
  at_ : ∀ x : Nat, li.getD x 0 = if (x : Int) ∈ M.take i then 0 else l.getD x 0
  app : turL M l = T ++ turL (M.drop i) li
  ok : turOk M l ↔ turOk (M.drop i) li
  tlen : T.length = i
  fits : ∀ t ∈ T, t.fits
theorem TurI.start {M l : List Int} (hz : ∀ z ∈ l, 0 ≤ z) (hs : sumL l < 9223372036854775808) : TurI M l 0 l [] :=
  ⟨rfl, hz, hs, fun x => by rw [List.take_zero, if_neg (by simp)], rfl, Iff.rfl, rfl, fun t h => by cases h⟩
section
variable {M l li : List Int} {i : Nat} {T : List Turn} {x : Int}
theorem TurI.mem (h : TurI M l i li T) (hz : ∀ z ∈ l, 0 ≤ z) : memB li x ↔ 0 ≤ x ∧ x < (l.length : Int) ∧ l.getD x.toNat 0 ≠ 0 ∧ x ∉ M.take i := by
  unfold memB
  rw [h.len]
  constructor
  · rintro ⟨h0, h1, h2⟩
    rw [h.at_, show ((x.toNat : Nat) : Int) = x by omega] at h2
    split at h2
    · omega
    · rename_i hn
      exact ⟨h0, h1, by omega, hn⟩
  · rintro ⟨h0, h1, h2, h3⟩
    refine ⟨h0, h1, ?_⟩
    rw [h.at_, show ((x.toNat : Nat) : Int) = x by omega, if_neg h3]
    have := hz _ (getD_in (l := l) (show x.toNat < l.length by omega))
    omega
theorem TurI.no (h : TurI M l i li T) (hd : M.drop i = x :: M.drop (i + 1)) (hm : ¬ memB li x) : ¬ turOk M l := by
  rw [h.ok, hd]
  exact fun h2 => hm h2.1
theorem TurI.pos (h : TurI M l i li T) (hm : memB li x) : 1 ≤ sumL li ∧ li.getD x.toNat 0 = l.getD x.toNat 0 ∧ l.getD x.toNat 0 ≤ sumL li ∧ 0 < l.getD x.toNat 0 := by
  obtain ⟨h0, h1, h2⟩ := hm
  have hk : x.toNat < li.length := by omega
  have hge := sum_ge h.nn hk
  have e : li.getD x.toNat 0 = l.getD x.toNat 0 := by
    have := h.at_ x.toNat
    split at this
    · omega
    · exact this
  rw [e] at hge h2
  exact ⟨by omega, e, hge, h2⟩
theorem TurI.step (h : TurI M l i li T) (hd : M.drop i = x :: M.drop (i + 1)) (hi : i < M.length) (hm : memB li x) : TurI M l (i + 1) (li.set x.toNat 0) (T ++ [⟨needN (sumL li), (l.getD x.toNat 0).toNat, 2 ^ needN (sumL li) - (sumL li).toNat⟩]) ∧ sumL (li.set x.toNat 0) = sumL li - l.getD x.toNat 0 := by
  obtain ⟨p1, p2, p3, p4⟩ := h.pos hm
  obtain ⟨h0, h1, h2⟩ := hm
  have hk : x.toNat < li.length := by omega
  have hsum := zero_sum h.nn hk
  have hx : M[i]? = some x := by
    have := congrArg List.head? hd
    rwa [List.head?_drop] at this
  have htake : M.take (i + 1) = M.take i ++ [x] := by rw [List.take_add_one, hx]; rfl
  obtain ⟨hn1, hn2⟩ := need_pow (n := sumL li) p1 h.sum
  refine ⟨⟨by rw [List.length_set]; exact h.len, set_nn h.nn _, ?_, fun y => ?_, ?_, ?_, by rw [List.length_append, h.tlen]; rfl, fun t ht => ?_⟩, by rw [hsum, p2]⟩
  · have := sum_set h.nn x.toNat
    have := h.sum
    omega
  · rw [set_getDc hk, htake]
    by_cases hy : y = x.toNat
    · subst hy
      rw [if_pos rfl, if_pos (by rw [show ((x.toNat : Nat) : Int) = x by omega]; simp)]
    · rw [if_neg hy, h.at_]
      have hne : (y : Int) ≠ x := by omega
      by_cases hin : (y : Int) ∈ M.take i
      · rw [if_pos hin, if_pos (by simp [hin])]
      · rw [if_neg hin, if_neg (by simp [hin, hne])]
  · rw [h.app, hd]
    show _ = (T ++ [_]) ++ _
    rw [List.append_assoc, ← p2]
    rfl
  · rw [h.ok, hd]
    exact ⟨fun h5 => h5.2, fun h5 => ⟨⟨h0, h1, h2⟩, h5⟩⟩
  · rcases List.mem_append.1 ht with ht | ht
    · exact h.fits t ht
    · rw [List.mem_singleton.1 ht]
      have hs := h.sum
      exact ⟨hn1, by show (l.getD x.toNat 0).toNat + (2 ^ needN (sumL li) - (sumL li).toNat) ≤ 2 ^ needN (sumL li); omega, by show (l.getD x.toNat 0).toNat < _; omega⟩
theorem TurI.done (h : TurI M l i li T) (hi : i = M.length) : turOk M l ∧ T = turL M l := by
  have hd : M.drop i = [] := List.drop_eq_nil_of_le (by omega)
  exact ⟨by rw [h.ok, hd]; trivial, by rw [h.app, hd]; show T = T ++ []; rw [List.append_nil]⟩
end
end
section
open Go.ChangeShapes Go.WideShapes Go.ChangeAt Go.RowKit
def cmpR (xs ys : List Int) : Int := if (rightN xs && rightN ys) = true then (if valL xs < valL ys then -1 else if valL ys < valL xs then 1 else 0) else 0
def subR (xs ys : List Int) : Int × List Int := if (rightN xs && rightN ys) = true then (if valL xs < valL ys then (12, []) else (0, natL (valL xs - valL ys))) else (1, [])
theorem valL_split (l : List Int) (i : Nat) (h : i ≤ l.length) : valL l = valL (l.take i) + 4294967296 ^ i * ((l.getD i 0).toNat + 4294967296 * valL (l.drop (i + 1))) := by rw [valL_take_drop l i h, valL_drop_getD]
theorem take_lt {l : List Int} (hl : Lim l) (i : Nat) : valL (l.take i) < 4294967296 ^ i := by
  refine Nat.lt_of_lt_of_le (valL_lt (hl.take i)) (Nat.pow_le_pow_right (by omega) ?_)
  rw [List.length_take]
  omega
theorem cmp_less {xs ys : List Int} (hx : Lim xs) (hy : Lim ys) {i : Nat} (hi : i < xs.length) (hj : i < ys.length) (hd : xs.drop (i + 1) = ys.drop (i + 1)) (h : xs.getD i 0 < ys.getD i 0) : valL xs < valL ys := by
  rw [valL_split xs i (by omega), valL_split ys i (by omega), hd]
  have h1 := take_lt hx i
  have h2 := hx.getD i
  have h3 := hy.getD i
  generalize valL (xs.take i) = a at *
  generalize valL (ys.take i) = b at *
  generalize 4294967296 ^ i = P at *
  generalize valL (ys.drop (i + 1)) = D at *
  have h4 : P * ((xs.getD i 0).toNat + 1 + 4294967296 * D) ≤ P * ((ys.getD i 0).toNat + 4294967296 * D) := Nat.mul_le_mul_left P (by omega)
  have h5 : P * ((xs.getD i 0).toNat + 1 + 4294967296 * D) = P * ((xs.getD i 0).toNat + 4294967296 * D) + P := by rw [show (xs.getD i 0).toNat + 1 + 4294967296 * D = (xs.getD i 0).toNat + 4294967296 * D + 1 by omega, Nat.mul_add, Nat.mul_one]
  omega
theorem len_less {xs ys : List Int} (hx : Lim xs) (hy : Lim ys) (hr : rightN ys = true) (h : xs.length < ys.length) : valL xs < valL ys := by
  have h1 := valL_lt hx
  have h2 := rightN_can hy hr
  have h3 : ¬ (natL (valL ys)).length ≤ xs.length := by rw [← h2]; omega
  rw [natL_len] at h3
  omega
theorem getD_end {l : List Int} {i : Nat} (h : l.length ≤ i) : l.getD i 0 = 0 := by rw [List.getD_eq_getElem?_getD, List.getElem?_eq_none h]; rfl
theorem valL_take_next (l : List Int) (k : Nat) : valL (l.take (k + 1)) = valL (l.take k) + 4294967296 ^ k * (l.getD k 0).toNat := by
  rcases Nat.lt_or_ge k l.length with h | h
  · exact valL_take_succ l k h
  · rw [getD_end h, List.take_of_length_le (by omega), List.take_of_length_le h]
    show valL l = valL l + _ * 0
    omega
theorem sub_step (P dg y bo x bn Vo Y X : Nat) (h : dg + y + bo = x + 4294967296 * bn) (hv : Vo + Y = X + P * bo) : Vo + P * dg + (Y + P * y) = X + P * x + P * 4294967296 * bn := by
  have h1 : P * (dg + y + bo) = P * (x + 4294967296 * bn) := by rw [h]
  rw [Nat.mul_add, Nat.mul_add, Nat.mul_add, ← Nat.mul_assoc] at h1
  omega
theorem sub_end {Vo a b P bo : Nat} (hb : bo ≤ 1) (h : Vo + b = a + P * bo) (hv : Vo < P) (hab : b ≤ a) : Vo = a - b := by
  have : bo = 0 ∨ bo = 1 := by omega
  rcases this with rfl | rfl
  · omega
  · rw [Nat.mul_one] at h; omega
theorem div_step {Q0 oq d left X0 K x t : Nat} (h : (Q0 * K + oq) * d + left = X0 * K + x / 2 ^ (t + 1)) (c oq' left' : Nat) (hc : (2 * left + x / 2 ^ t % 2) = c) (ho : (oq' = 2 * oq ∧ left' = c) ∨ (oq' = 2 * oq + 1 ∧ left' + d = c)) : (Q0 * (2 * K) + oq') * d + left' = X0 * (2 * K) + x / 2 ^ t := by
  have h1 : x / 2 ^ (t + 1) = x / 2 ^ t / 2 := by rw [Nat.pow_succ, Nat.div_div_eq_div_mul]
  rw [h1] at h
  have h2 : Q0 * (2 * K) = 2 * (Q0 * K) := Nat.mul_left_comm _ _ _
  have h3 : X0 * (2 * K) = 2 * (X0 * K) := Nat.mul_left_comm _ _ _
  rw [h2, h3]
  generalize x / 2 ^ t = z at *
  generalize Q0 * K = q at *
  generalize X0 * K = y at *
  have h4 : (2 * q + 2 * oq) * d = 2 * ((q + oq) * d) := by rw [← Nat.mul_add, Nat.mul_assoc]
  rcases ho with ⟨rfl, rfl⟩ | ⟨rfl, h5⟩
  · rw [h4]; omega
  · rw [← Nat.add_assoc, Nat.add_mul, h4]; omega
def RetND (w : World) (zs : List Int) (left : Nat) (err : Int) (e : Ending) (w' : World) : Prop := ∃ A c, e = .returned (.tuple #[.slice A zs.length c, .int .u64 (left : Int), .int .i64 err]) ∧ zs.length ≤ c ∧ c ≤ maxLen ∧ Rd .u32 w' w'.heap.size A zs.length zs ∧ Below w.heap.size w w'
theorem RetND.nil {w w' : World} (e : Int) (hb : Below w.heap.size w w') : RetND w [] 0 e (.returned (.tuple #[.slice none 0 0, .int .u64 0, .int .i64 e])) w' := ⟨none, 0, rfl, Nat.le_refl _, by simp [maxLen], Rd.none_, hb⟩
theorem set_set (l : List Int) (m : Nat) (u v : Int) : (l.set m u).set m v = l.set m v := List.set_set u
theorem pow_split {u : Nat} (h : u ≤ 32) : 2 ^ (32 - u) * 2 ^ u = 4294967296 := by rw [← Nat.pow_add, show 32 - u + u = 32 by omega]
def DivI (Q0 X0 x d u oq left : Nat) : Prop := u ≤ 32 ∧ left < d ∧ oq < 2 ^ (32 - u) ∧ (Q0 * 2 ^ (32 - u) + oq) * d + left = X0 * 2 ^ (32 - u) + x / 2 ^ u
theorem DivI.start {Q0 X0 x d left : Nat} (hx : x < 4294967296) (hl : left < d) (h : Q0 * d + left = X0) : DivI Q0 X0 x d 32 0 left := by
  refine ⟨Nat.le_refl _, hl, Nat.one_pos, ?_⟩
  rw [Nat.sub_self, Nat.pow_zero, Nat.mul_one, Nat.mul_one, Nat.add_zero, show 2 ^ 32 = 4294967296 from rfl, Nat.div_eq_of_lt hx, Nat.add_zero]
  exact h
theorem DivI.next {Q0 X0 x d t oq left : Nat} (h : DivI Q0 X0 x d (t + 1) oq left) : ∃ c, 2 * left + x / 2 ^ t % 2 = c ∧ (c < d → DivI Q0 X0 x d t (2 * oq) c) ∧ (¬ c < d → DivI Q0 X0 x d t (2 * oq + 1) (c - d)) ∧ c < 2 * d ∧ (2 * oq + 1) * 2 ^ t ≤ 4294967295 := by
  obtain ⟨h1, h2, h3, h4⟩ := h
  have e : 2 ^ (32 - t) = 2 * 2 ^ (32 - (t + 1)) := by rw [show 32 - t = 32 - (t + 1) + 1 by omega, Nat.pow_succ, Nat.mul_comm]
  refine ⟨_, rfl, fun hc => ⟨by omega, hc, by omega, ?_⟩, fun hc => ⟨by omega, by omega, by omega, ?_⟩, by omega, ?_⟩
  · rw [e]
    exact div_step h4 _ _ _ rfl (.inl ⟨rfl, rfl⟩)
  · rw [e]
    exact div_step h4 _ _ _ rfl (.inr ⟨rfl, by omega⟩)
  · have h5 : (2 * oq + 1 + 1) * 2 ^ t ≤ 2 ^ (32 - t) * 2 ^ t := Nat.mul_le_mul_right _ (by omega)
    rw [pow_split (by omega), Nat.add_mul] at h5
    have h6 : 0 < 2 ^ t := Nat.pow_pos (by omega)
    omega
theorem DivI.done {Q0 X0 x d oq left : Nat} (h : DivI Q0 X0 x d 0 oq left) : (oq + 4294967296 * Q0) * d + left = x + 4294967296 * X0 ∧ left < d ∧ oq < 4294967296 := by
  obtain ⟨_, h2, h3, h4⟩ := h
  rw [show 2 ^ (32 - 0) = 4294967296 from rfl] at h3 h4
  rw [Nat.pow_zero, Nat.div_one, Nat.add_comm (Q0 * 4294967296) oq, Nat.mul_comm Q0, Nat.mul_comm X0] at h4
  exact ⟨by omega, h2, h3⟩
end
section
open Go.ChangeShapes Go.WideShapes Go.ChangeAt Go.RowKit
def NFx (w0 : World) : List (Option Addr × List Int) → World → Prop
  | [], w => Below w0.heap.size w0 w
  | p :: l, w => Rd .u32 w w.heap.size p.1 p.2.length p.2 ∧ NFx w0 l w
theorem NFx.bel {w0 w : World} : ∀ {l : List (Option Addr × List Int)}, NFx w0 l w → Below w0.heap.size w0 w
  | [], h => h
  | _ :: _, h => NFx.bel h.2
theorem NFx.below {w0 w w' : World} : ∀ {l : List (Option Addr × List Int)}, NFx w0 l w → Below w.heap.size w w' → NFx w0 l w'
  | [], h, hb => Below.trans h (hb.mono (Below.size h))
  | _ :: _, h, hb => ⟨(Rd.below h.1 hb).mono hb.size, NFx.below h.2 hb⟩
theorem NFx.alloc {w0 w : World} {l : List (Option Addr × List Int)} (h : NFx w0 l w) (o : Obj) : NFx w0 l (w.alloc o) := h.below ((Below.refl _ _).alloc (Nat.le_refl _) o)
theorem NFx.drew {w0 w : World} {l : List (Option Addr × List Int)} (h : NFx w0 l w) : NFx w0 l w.drew := h.below (Below.refl _ _).drew
theorem NFx.drewN {w0 w : World} {l : List (Option Addr × List Int)} (h : NFx w0 l w) (n : Nat) : NFx w0 l (w.drewN n) := h.below (below_drewN (Below.refl _ _) n)
theorem NFx.add {w0 w w' : World} {l : List (Option Addr × List Int)} {A : Option Addr} {zs : List Int} (h : NFx w0 l w) (hb : Below w.heap.size w w') (hr : Rd .u32 w' w'.heap.size A zs.length zs) : NFx w0 ((A, zs) :: l) w' := ⟨hr, h.below hb⟩
theorem NFx.start (w : World) : NFx w [] w := Below.refl _ _
theorem NFx.more {w0 w : World} {l : List (Option Addr × List Int)} {A : Option Addr} {zs : List Int} (h : NFx w0 l w) (hr : Rd .u32 w w.heap.size A zs.length zs) : NFx w0 ((A, zs) :: l) w := ⟨hr, h⟩
section
variable {w0 w : World} {l : List (Option Addr × List Int)} {A : Option Addr} {zs : List Int} {f0 f1 f2 f3 f4 f5 f6 f7 f8 f9 f10 f11 f12 f13 f14 f15 : Option Addr × List Int}
theorem NFx.r0 (h : NFx w0 ((A, zs) :: l) w) : Rd .u32 w w.heap.size A zs.length zs := h.1
theorem NFx.r1 (h : NFx w0 (f0 :: (A, zs) :: l) w) : Rd .u32 w w.heap.size A zs.length zs := h.2.1
theorem NFx.r2 (h : NFx w0 (f0 :: f1 :: (A, zs) :: l) w) : Rd .u32 w w.heap.size A zs.length zs := h.2.2.1
theorem NFx.r3 (h : NFx w0 (f0 :: f1 :: f2 :: (A, zs) :: l) w) : Rd .u32 w w.heap.size A zs.length zs := h.2.2.2.1
theorem NFx.r4 (h : NFx w0 (f0 :: f1 :: f2 :: f3 :: (A, zs) :: l) w) : Rd .u32 w w.heap.size A zs.length zs := h.2.2.2.2.1
theorem NFx.r5 (h : NFx w0 (f0 :: f1 :: f2 :: f3 :: f4 :: (A, zs) :: l) w) : Rd .u32 w w.heap.size A zs.length zs := h.2.2.2.2.2.1
theorem NFx.r7 (h : NFx w0 (f0 :: f1 :: f2 :: f3 :: f4 :: f5 :: f6 :: (A, zs) :: l) w) : Rd .u32 w w.heap.size A zs.length zs := h.2.2.2.2.2.2.2.1
theorem NFx.r8 (h : NFx w0 (f0 :: f1 :: f2 :: f3 :: f4 :: f5 :: f6 :: f7 :: (A, zs) :: l) w) : Rd .u32 w w.heap.size A zs.length zs := h.2.2.2.2.2.2.2.2.1
theorem NFx.r10 (h : NFx w0 (f0 :: f1 :: f2 :: f3 :: f4 :: f5 :: f6 :: f7 :: f8 :: f9 :: (A, zs) :: l) w) : Rd .u32 w w.heap.size A zs.length zs := h.2.2.2.2.2.2.2.2.2.2.1
theorem NFx.r11 (h : NFx w0 (f0 :: f1 :: f2 :: f3 :: f4 :: f5 :: f6 :: f7 :: f8 :: f9 :: f10 :: (A, zs) :: l) w) : Rd .u32 w w.heap.size A zs.length zs := h.2.2.2.2.2.2.2.2.2.2.2.1
theorem NFx.r14 (h : NFx w0 (f0 :: f1 :: f2 :: f3 :: f4 :: f5 :: f6 :: f7 :: f8 :: f9 :: f10 :: f11 :: f12 :: f13 :: (A, zs) :: l) w) : Rd .u32 w w.heap.size A zs.length zs := h.2.2.2.2.2.2.2.2.2.2.2.2.2.2.1
theorem NFx.r15 (h : NFx w0 (f0 :: f1 :: f2 :: f3 :: f4 :: f5 :: f6 :: f7 :: f8 :: f9 :: f10 :: f11 :: f12 :: f13 :: f14 :: (A, zs) :: l) w) : Rd .u32 w w.heap.size A zs.length zs := h.2.2.2.2.2.2.2.2.2.2.2.2.2.2.2.1
end
def rowN (A : Option Addr) (zs : List Int) (c : Nat) : NRow := ⟨A, zs.length, c, zs⟩
theorem rdNs_of {w : World} {rs : List NRow} (hr : ∀ r ∈ rs, Rd .u32 w w.heap.size r.A r.n r.zs ∧ r.n ≤ r.c ∧ r.c ≤ maxLen ∧ Lim r.zs) : RdNs (w.alloc (.cells (rs.map NRow.val).toArray 49)) (w.alloc (.cells (rs.map NRow.val).toArray 49)).heap.size (some ⟨w.heap.size, 0, none⟩) rs.length rs := by
  have hb : Below w.heap.size w (w.alloc (.cells (rs.map NRow.val).toArray 49)) := (Below.refl _ _).alloc (Nat.le_refl _) _
  refine ⟨rfl, fun _ => ⟨w.heap.size, 0, rfl, (Blk.new w _ _).lt, fun j r hj => ?_⟩, fun r h => ⟨((hr r h).1.below hb).mono hb.size, (hr r h).2⟩⟩
  rw [Nat.zero_add, (Blk.new w 49 (rs.map NRow.val).toArray).cell, List.getElem?_toArray, List.getElem?_map, hj]
  rfl
theorem rdNs_two {w : World} {A B : Option Addr} {a b : List Int} {c d : Nat} (ha : Rd .u32 w w.heap.size A a.length a) (hb : Rd .u32 w w.heap.size B b.length b) (hc : a.length ≤ c) (hd : b.length ≤ d) (hm : c ≤ maxLen) (hm2 : d ≤ maxLen) (hl : Lim a) (hl2 : Lim b) : RdNs (w.alloc (.cells #[.slice A a.length c, .slice B b.length d] 49)) (w.alloc (.cells #[.slice A a.length c, .slice B b.length d] 49)).heap.size (some ⟨w.heap.size, 0, none⟩) 2 [rowN A a c, rowN B b d] :=
  rdNs_of (rs := [rowN A a c, rowN B b d]) (fun r h => by
    rcases List.mem_cons.1 h with rfl | h
    · exact ⟨ha, hc, hm, hl⟩
    · obtain rfl := List.mem_singleton.1 h
      exact ⟨hb, hd, hm2, hl2⟩)
def prodN : List NRow → Nat
  | [] => 1
  | r :: l => valL r.zs * prodN l
theorem natL_mono {m n : Nat} (h : m ≤ n) (hn : (natL n).length ≤ 256) : (natL m).length ≤ 256 := by
  rw [natL_len] at hn ⊢
  omega
theorem mulGo_ok : ∀ (rs : List NRow) (s : Nat), (∀ r ∈ rs, 1 ≤ valL r.zs) → (natL (s * prodN rs)).length ≤ 256 → mulGo s rs = (0, natL (s * prodN rs))
  | [], s, _, _ => by rw [mulGo, prodN, Nat.mul_one]
  | r :: l, s, hr, h => by
    have hp : ∀ l : List NRow, (∀ r ∈ l, 1 ≤ valL r.zs) → 1 ≤ prodN l := fun l => by
      induction l with
      | nil => intro _; exact Nat.le_refl _
      | cons q l ih => intro hq; rw [prodN]; exact Nat.mul_pos (hq q (by simp)) (ih fun r hr => hq r (by simp [hr]))
    rw [prodN, ← Nat.mul_assoc] at h ⊢
    have h2 : (natL (s * valL r.zs)).length ≤ 256 := natL_mono (Nat.le_mul_of_pos_right _ (hp l fun q hq => hr q (by simp [hq]))) h
    rw [mulGo, if_neg (by omega), mulGo_ok l (s * valL r.zs) (fun q hq => hr q (by simp [hq])) h]
theorem prodN_rep (zs : List Int) : ∀ k, prodN (List.replicate k (rowOf zs)) = valL zs ^ k
  | 0 => rfl
  | k + 1 => by rw [List.replicate_succ, prodN, prodN_rep zs k, Nat.pow_succ, Nat.mul_comm]; rfl
theorem powR_ok {zs : List Int} {k : Nat} (hr : rightN zs = true) (hk : k ≤ 64) (h1 : 1 ≤ valL zs) (h : (natL (valL zs ^ k)).length ≤ 256) : powR zs (k : Int) = (0, natL (valL zs ^ k)) := by
  unfold powR
  rw [if_pos ⟨hr, by omega, by omega⟩, Int.toNat_natCast]
  unfold mulR
  have ha : allN (List.replicate k (rowOf zs)) = true := List.all_eq_true.2 fun r hr' => by rw [List.eq_of_mem_replicate hr']; exact hr
  rw [if_pos ha, mulGo_ok _ 1 (fun r hr' => by rw [List.eq_of_mem_replicate hr']; exact h1) (by rw [prodN_rep, Nat.one_mul]; exact h), prodN_rep, Nat.one_mul]
theorem small_len {n : Nat} (h : n < 4294967296 ^ 3) : (natL n).length ≤ 256 := Nat.le_trans ((natL_len n 3).2 h) (by omega)
theorem addR_two {A B : Option Addr} {a b : List Int} {c d : Nat} (ha : rightN a = true) (hb : rightN b = true) (hl : (natL (valL a + valL b)).length ≤ 256) : addR [rowN A a c, rowN B b d] = (0, natL (valL a + valL b)) := by
  have h0 : allN [rowN A a c, rowN B b d] = true := by
    show (rightN a && (rightN b && true)) = true
    rw [ha, hb]; rfl
  have h1 : ¬ 256 < (natL (0 + valL a)).length := by
    rw [Nat.zero_add]
    have h2 : (natL (valL a)).length ≤ 256 := by
      rw [natL_len] at hl ⊢
      omega
    omega
  unfold addR
  rw [if_pos h0, addGo]
  show (if 256 < (natL (0 + valL a)).length then _ else _) = _
  rw [if_neg h1, addGo]
  show (if 256 < (natL (0 + valL a + valL b)).length then _ else _) = _
  rw [if_neg (by rw [Nat.zero_add]; omega), addGo]
  show (0, natL (0 + valL a + valL b)) = _
  rw [Nat.zero_add]
theorem mulR_two {A B : Option Addr} {a b : List Int} {c d : Nat} (ha : rightN a = true) (hb : rightN b = true) (hla : (natL (valL a)).length ≤ 256) (hl : (natL (valL a * valL b)).length ≤ 256) : mulR [rowN A a c, rowN B b d] = (0, natL (valL a * valL b)) := by
  have h0 : allN [rowN A a c, rowN B b d] = true := by
    show (rightN a && (rightN b && true)) = true
    rw [ha, hb]; rfl
  unfold mulR
  rw [if_pos h0, mulGo]
  show (if 256 < (natL (1 * valL a)).length then _ else _) = _
  rw [if_neg (by rw [Nat.one_mul]; omega), mulGo]
  show (if 256 < (natL (1 * valL a * valL b)).length then _ else _) = _
  rw [if_neg (by rw [Nat.one_mul]; omega), mulGo]
  show (0, natL (1 * valL a * valL b)) = _
  rw [Nat.one_mul]
end
section
theorem natL_leP {v q : Nat} (h : v ≤ 2 ^ q) : (natL v).length ≤ q / 32 + 1 := by
  rw [natL_len, show (4294967296 : Nat) = 2 ^ 32 from rfl, ← Nat.pow_mul]
  exact Nat.lt_of_le_of_lt h (Nat.pow_lt_pow_right (by omega) (by omega))
theorem natL_le100 {v q : Nat} (h : v ≤ 2 ^ q) (hq : q ≤ 3000) : (natL v).length ≤ 100000 := by
  have := natL_leP h
  omega
theorem way_len {x st lost B a : Nat} (hx : x ≤ 2 ^ B) (hs : st ≤ 2 ^ 64) (hl : lost ≤ 2 ^ 63) (hB : B ≤ 256) (ha : a ≤ 9) : (natL (x * st * lost ^ a)).length ≤ 100000 := by
  refine natL_le100 (q := B + 64 + 63 * a) ?_ (by omega)
  have h1 : lost ^ a ≤ (2 ^ 63) ^ a := Nat.pow_le_pow_left hl a
  rw [← Nat.pow_mul] at h1
  rw [Nat.pow_add, Nat.pow_add]
  exact Nat.mul_le_mul (Nat.mul_le_mul hx hs) h1
theorem sub_pow {t k : Nat} (hk : k ≤ 63) (ht : t ≤ 2 ^ k) : subR (natL (2 ^ k)) (natL t) = (0, natL (2 ^ k - t)) := by
  have h1 : (natL (2 ^ k)).length ≤ 256 := by have := natL_leP (Nat.le_refl (2 ^ k)); omega
  have h2 : (natL t).length ≤ 256 := by have := natL_leP ht; omega
  unfold subR
  rw [rightN_natL h1, rightN_natL h2, natL_val, natL_val, if_pos (show (true && true) = true from rfl), if_neg (by omega)]
theorem linB_mono {xs : List Nat} {g : Nat → Nat} : ∀ {n m : Nat}, n ≤ m → linB n xs g ≤ linB m xs g
  | n, 0, h => by obtain rfl : n = 0 := by omega
                  exact Nat.le_refl _
  | n, m + 1, h => by
    by_cases hn : n = m + 1
    · subst hn; exact Nat.le_refl _
    · refine Nat.le_trans (linB_mono (m := m) (by omega)) ?_
      unfold linB
      rw [sumB]
      omega
section
variable {B m k st lost b a : Nat} {xs nx : List Nat}
theorem way_mono (h : st + lost ≤ 2 ^ k) : ∀ n, n ≤ B + 1 → sumB (fun b => xs.getD b 0 * wayD k st lost (fun r => 2 ^ (B - (B - r))) m (B - b)) n ≤ linB n xs (fun b => 2 ^ (B - b))
  | 0, _ => Nat.le_refl _
  | n + 1, hn => by
    unfold linB
    rw [sumB, sumB]
    have e : wayD k st lost (fun r => 2 ^ (B - (B - r))) m (B - n) = wayD k st lost (fun r => 2 ^ r) m (B - n) := wayD_congr _ _ (fun r' hr => by show 2 ^ (B - (B - r')) = 2 ^ r'; rw [show B - (B - r') = r' by omega])
    rw [e]
    have h3 := wayD_le h m (B - n)
    have h4 := Nat.mul_le_mul_left (xs.getD n 0) h3
    have h5 := way_mono h n (by omega)
    unfold linB at h5
    show _ + _ ≤ _ + xs.getD n 0 * 2 ^ (B - n)
    omega
theorem part_each (h : PartD B m k st lost xs nx b a) (hk : st + lost ≤ 2 ^ k) (hx : linB (B + 1) xs (fun b => 2 ^ (B - b)) ≤ 2 ^ B) (hb : b ≤ B) {j : Nat} (hj : j ≤ B) : nx.getD j 0 ≤ 2 ^ B := by
  refine lin_each ?_ hj
  have h1 := h (fun b => 2 ^ (B - b))
  have h2 := way_mono (m := m) (xs := xs) (B := B) hk (b + 1) (by omega)
  have h3 := linB_mono (xs := xs) (g := fun b => 2 ^ (B - b)) (show b + 1 ≤ B + 1 by omega)
  omega
end
theorem sum_each {B n : Nat} {xs : List Nat} (hx : linB (B + 1) xs (fun b => 2 ^ (B - b)) ≤ 2 ^ B) (hn : n ≤ B + 1) : linB n xs (fun b => 2 ^ (B - b)) ≤ 2 ^ B := Nat.le_trans (linB_mono hn) hx
theorem start_pow (B : Nat) : linB (B + 1) (1 :: List.replicate B 0) (fun b => 2 ^ (B - b)) ≤ 2 ^ B := Nat.le_of_eq (way_start 0 B [] [])
theorem mem_parts {l : List Int} (hz : ∀ z ∈ l, 0 ≤ z) (hs : sumL l < 9223372036854775808) {i : Nat} (hi : i < l.length) (h0 : 0 < l.getD i 0) :
    ∃ st t k : Nat, l.getD i 0 = (st : Int) ∧ sumL l = (t : Int) ∧ needN (sumL l) = k ∧ k ≤ 63 ∧ t ≤ 2 ^ k ∧ 1 ≤ t ∧ st + (2 ^ k - t) ≤ 2 ^ k ∧ st ≤ 2 ^ 64 ∧ 2 ^ k - t ≤ 2 ^ 63 ∧ memB l (i : Int) := by
  have hge := sum_ge hz hi
  obtain ⟨hn1, hn2⟩ := need_pow (n := sumL l) (by omega) hs
  refine ⟨(l.getD i 0).toNat, (sumL l).toNat, needN (sumL l), by omega, by omega, rfl, hn1, hn2, by omega, by omega, ?_, ?_, by omega, by omega, by rw [Int.toNat_natCast]; exact h0⟩
  · have : (2 : Nat) ^ 64 = 18446744073709551616 := by decide
    omega
  · have := Nat.pow_le_pow_right (n := 2) (by omega) hn1
    omega
end
section
open Go.ChangeShapes Go.WideShapes Go.ChangeAt Go.RowKit
def NumR (w : World) (x : Nat) (A : Option Addr) (m c : Nat) : Prop := m = (natL x).length ∧ m ≤ c ∧ c ≤ maxLen ∧ Rd .u32 w w.heap.size A m (natL x)
theorem NumR.below {w w' : World} {x m c : Nat} {A : Option Addr} (h : NumR w x A m c) (hb : Below w.heap.size w w') : NumR w' x A m c := ⟨h.1, h.2.1, h.2.2.1, (h.2.2.2.below hb).mono hb.size⟩
theorem NumR.drew {w : World} {x m c : Nat} {A : Option Addr} (h : NumR w x A m c) : NumR w.drew x A m c := h.below (Below.refl _ _).drew
theorem NumR.alloc {w : World} {x m c : Nat} {A : Option Addr} (h : NumR w x A m c) (o : Obj) : NumR (w.alloc o) x A m c := h.below ((Below.refl _ _).alloc (Nat.le_refl _) o)
theorem NumR.zero (w : World) : NumR w 0 none 0 0 := ⟨by rw [natL_zero]; rfl, Nat.le_refl _, by simp [maxLen], by rw [natL_zero]; exact Rd.none_⟩
theorem NumR.one (w : World) (o : TypeId) : NumR (w.alloc (.cells #[.int .u32 1] o)) 1 (some ⟨w.heap.size, 0, none⟩) 1 1 := ⟨by rw [natL_one]; rfl, Nat.le_refl _, by simp [maxLen], by
  rw [natL_one]
  exact (rd_one _ _ _ _).mono (by simp)⟩
theorem NumR.one1 (w : World) (o1 : Obj) (o : TypeId) : NumR ((w.alloc o1).alloc (.cells #[.int .u32 1] o)) 1 (some ⟨w.heap.size + 1, 0, none⟩) 1 1 := by
  have h := NumR.one (w.alloc o1) o
  rwa [show (w.alloc o1).heap.size = w.heap.size + 1 by simp] at h
def NumV (w : World) (x : Nat) (v : Value) : Prop := ∃ A m c, v = .slice A m c ∧ NumR w x A m c
theorem NumV.of {w : World} {x m c : Nat} {A : Option Addr} (h : NumR w x A m c) : NumV w x (.slice A m c) := ⟨A, m, c, rfl, h⟩
theorem NumV.below {w w' : World} {x : Nat} {v : Value} (h : NumV w x v) (hb : Below w.heap.size w w') : NumV w' x v := by
  obtain ⟨A, m, c, e, h1⟩ := h
  exact ⟨A, m, c, e, h1.below hb⟩
theorem NumV.zero (w : World) : NumV w 0 (.slice none 0 0) := NumV.of (NumR.zero w)
def RetNr (w : World) (x : Nat) (e : Ending) (w' : World) : Prop := ∃ A m c, e = .returned (.slice A m c) ∧ NumR w' x A m c ∧ Below w.heap.size w w'
def RetRE (w : World) (x : Nat) (e : Ending) (w' : World) : Prop := ∃ A m c, e = .returned (.tuple #[.slice A m c, .int .i64 0]) ∧ NumR w' x A m c ∧ Below w.heap.size w w'
theorem RetNr.of {w w' : World} {x : Nat} {e : Ending} (h : RetN w (natL x) e w') : RetNr w x e w' := by
  obtain ⟨A, c, e, h1, h2, h3, h4⟩ := h
  exact ⟨A, _, c, e, ⟨rfl, h1, h2, h3⟩, h4⟩
theorem RetRE.of {w w' : World} {x : Nat} {e : Ending} (h : RetNE w (0, natL x) e w') : RetRE w x e w' := by
  obtain ⟨A, c, e, h1, h2, h3, h4⟩ := h
  exact ⟨A, _, c, e, ⟨rfl, h1, h2, h3⟩, h4⟩
theorem NumR.ret {w0 w : World} {x m c : Nat} {A : Option Addr} (h : NumR w x A m c) (hb : Below w0.heap.size w0 w) : RetNE w0 (0, natL x) (.returned (.tuple #[.slice A m c, .int .i64 0])) w := by
  obtain ⟨rfl, h1, h2, h3⟩ := h
  exact ⟨A, c, rfl, h1, h2, h3, hb⟩
def NowV (w : World) (g : Nat) (xs : List Nat) (vs : List Value) : Prop := vs.length = xs.length ∧ Blk w g 49 vs.toArray ∧ ∀ j, j < xs.length → NumV w (xs.getD j 0) (vs.getD j undef)
theorem NowV.below {w w' : World} {g : Nat} {xs : List Nat} {vs : List Value} (h : NowV w g xs vs) (hb : Below w.heap.size w w') : NowV w' g xs vs := ⟨h.1, h.2.1.below hb h.2.1.lt, fun j hj => (h.2.2 j hj).below hb⟩
theorem NowV.blk {w : World} {g : Nat} {xs : List Nat} {vs : List Value} (h : NowV w g xs vs) : Blk w g 49 vs.toArray := h.2.1
theorem NowV.at_ {w : World} {g : Nat} {xs : List Nat} {vs : List Value} (h : NowV w g xs vs) {j : Nat} (hj : j < xs.length) : w.cell? ⟨g, j, none⟩ = some (vs.getD j undef) := by
  rw [h.2.1.cell, List.getElem?_toArray, List.getD_eq_getElem?_getD, List.getElem?_eq_getElem (by rw [h.1]; exact hj)]
  rfl
theorem NowV.noInt {w : World} {g : Nat} {xs : List Nat} {vs : List Value} (h : NowV w g xs vs) (k : IntKind) : NoInt k vs.toArray := by
  intro j z hz
  rw [List.getElem?_toArray] at hz
  have hj : j < vs.length := by
    rcases Nat.lt_or_ge j vs.length with h1 | h1
    · exact h1
    · rw [List.getElem?_eq_none h1] at hz; cases hz
  obtain ⟨A, m, c, e, -⟩ := h.2.2 j (by rw [← h.1]; exact hj)
  rw [List.getD_eq_getElem?_getD, hz] at e
  cases e
theorem NowV.num {w : World} {g : Nat} {xs : List Nat} {vs : List Value} (h : NowV w g xs vs) {j : Nat} (hj : j < xs.length) : ∃ A m c, vs.getD j undef = .slice A m c ∧ NumR w (xs.getD j 0) A m c := h.2.2 j hj
theorem NowV.numR {w : World} {g m c : Nat} {A : Option Addr} {xs : List Nat} {vs : List Value} (h : NowV w g xs vs) {j : Nat} (hj : j < xs.length) (hv : vs.getD j undef = .slice A m c) : NumR w (xs.getD j 0) A m c ∧ w.cell? ⟨g, j, none⟩ = some (.slice A m c) := by
  obtain ⟨A', m', c', e, h1⟩ := h.2.2 j hj
  have h2 := h.at_ hj
  rw [hv] at e h2
  injection e with e1 e2 e3
  subst e1 e2 e3
  exact ⟨h1, h2⟩
theorem Rd.onlyB {k : IntKind} {w w' : World} {A : Option Addr} {n g : Nat} {t : TypeId} {cs : Array Value} {zs : List Int} (h : Rd k w w.heap.size A n zs) (hb : Blk w g t cs) (hno : NoInt k cs) (ho : Only g w w') : Rd k w' w'.heap.size A n zs := by
  refine ⟨h.1, fun hn => ?_⟩
  obtain ⟨b, off, e, hlt, hc⟩ := h.2 hn
  have hne : b ≠ g := by
    rintro rfl
    have h0 := hc 0 hn
    rw [hb.cell] at h0
    exact hno _ _ h0
  refine ⟨b, off, e, Nat.lt_of_lt_of_le hlt ho.size, fun j hj => ?_⟩
  rw [World.cell?_of_block (w := w) (w' := w') (a := ⟨b, off + j, none⟩) (ho.block b hlt hne)]
  exact hc j hj
theorem NumR.onlyB {w w' : World} {x g m c : Nat} {A : Option Addr} {t : TypeId} {cs : Array Value} (h : NumR w x A m c) (hb : Blk w g t cs) (hno : NoInt .u32 cs) (ho : Only g w w') : NumR w' x A m c := ⟨h.1, h.2.1, h.2.2.1, h.2.2.2.onlyB hb hno ho⟩
theorem NumV.onlyB {w w' : World} {x g : Nat} {v : Value} {t : TypeId} {cs : Array Value} (h : NumV w x v) (hb : Blk w g t cs) (hno : NoInt .u32 cs) (ho : Only g w w') : NumV w' x v := by
  obtain ⟨A, m, c, e, h1⟩ := h
  exact ⟨A, m, c, e, h1.onlyB hb hno ho⟩
theorem Rd.cellB {w w' : World} {A : Option Addr} {n g q : Nat} {t : TypeId} {cur : Array Value} {zs : List Int} {x : Int} {v : Value} (h : Rd .u32 w w.heap.size A n zs) (hb : Blk w g t cur) (hq : cur[q]? = some (.int .u64 x)) (hb' : Blk w' g t (cur.setIfInBounds q v)) (ho : Only g w w') : Rd .u32 w' w'.heap.size A n zs := by
  refine ⟨h.1, fun hn => ?_⟩
  obtain ⟨b, off, e, hlt, hc⟩ := h.2 hn
  refine ⟨b, off, e, Nat.lt_of_lt_of_le hlt ho.size, fun j hj => ?_⟩
  have h1 := hc j hj
  by_cases hne : b = g
  · subst hne
    rw [hb.cell] at h1
    rw [hb'.cell, Array.getElem?_setIfInBounds_ne (fun e => by subst e; rw [hq] at h1; cases h1)]
    exact h1
  · rw [World.cell?_of_block (w := w) (w' := w') (a := ⟨b, off + j, none⟩) (ho.block b hlt hne)]
    exact h1
theorem NumV.cellB {w w' : World} {x g q : Nat} {z : Int} {u v : Value} {t : TypeId} {cur : Array Value} (h : NumV w x u) (hb : Blk w g t cur) (hq : cur[q]? = some (.int .u64 z)) (hb' : Blk w' g t (cur.setIfInBounds q v)) (ho : Only g w w') : NumV w' x u := by
  obtain ⟨A, m, c, e, h1, h2, h3, h4⟩ := h
  exact ⟨A, m, c, e, h1, h2, h3, h4.cellB hb hq hb' ho⟩
theorem NumV.only {w w' : World} {x g : Nat} {v : Value} {xs : List Nat} {vs : List Value} (h : NumV w x v) (hn : NowV w g xs vs) (ho : Only g w w') : NumV w' x v := h.onlyB hn.2.1 (hn.noInt _) ho
theorem NumR.only {w w' : World} {x g m c : Nat} {A : Option Addr} {xs : List Nat} {vs : List Value} (h : NumR w x A m c) (hn : NowV w g xs vs) (ho : Only g w w') : NumR w' x A m c := h.onlyB hn.2.1 (hn.noInt _) ho
theorem NowV.only {w w' : World} {g g' : Nat} {xs ys : List Nat} {vs us : List Value} (h : NowV w g' ys us) (hn : NowV w g xs vs) (hne : g' ≠ g) (ho : Only g w w') : NowV w' g' ys us := ⟨h.1, h.2.1.only ho hne, fun j hj => (h.2.2 j hj).only hn ho⟩
theorem NowV.put {w w' : World} {g j x : Nat} {xs : List Nat} {vs : List Value} {v : Value} (h : NowV w g xs vs) (hv : NumV w x v) (hj : j < xs.length) (hk : Blk w' g 49 (vs.toArray.setIfInBounds j v)) (ho : Only g w w') : NowV w' g (xs.set j x) (vs.set j v) := by
  refine ⟨by rw [List.length_set, List.length_set]; exact h.1, by rw [← List.setIfInBounds_toArray]; exact hk, fun i hi => ?_⟩
  rw [List.length_set] at hi
  by_cases hij : i = j
  · subst hij
    rw [setN_at hj, if_pos rfl, List.getD_eq_getElem?_getD, List.getElem?_set_self (by rw [h.1]; exact hj)]
    exact hv.only h ho
  · rw [setN_at hj, if_neg hij, show (vs.set j v).getD i undef = vs.getD i undef by rw [List.getD_eq_getElem?_getD, List.getElem?_set_ne (fun e => hij e.symm), ← List.getD_eq_getElem?_getD]]
    exact (h.2.2 i hi).only h ho
theorem NowV.fresh {w : World} {g n : Nat} (h : Blk w g 49 (List.replicate n (Value.slice none 0 0)).toArray) : NowV w g (List.replicate n 0) (List.replicate n (.slice none 0 0)) := by
  refine ⟨by rw [List.length_replicate, List.length_replicate], h, fun j hj => ?_⟩
  rw [List.length_replicate] at hj
  rw [List.getD_eq_getElem?_getD, List.getElem?_replicate, if_pos hj, List.getD_eq_getElem?_getD, List.getElem?_replicate, if_pos hj]
  exact NumV.zero w
def WayA (w0 : World) (v1 : Value) (L : List Int) (gN : Nat) (xs : List Nat) (vs : List Value) (w : World) : Prop := Below w0.heap.size w0 w ∧ OwnI w w0.heap.size 24 .u64 v1 L ∧ w0.heap.size ≤ gN ∧ NowV w gN xs vs
def WayB (w0 : World) (v1 : Value) (L : List Int) (gN : Nat) (xs : List Nat) (vs : List Value) (gX : Nat) (nx : List Nat) (us : List Value) (w : World) : Prop := WayA w0 v1 L gN xs vs w ∧ w0.heap.size ≤ gX ∧ gN ≠ gX ∧ NowV w gX nx us
section
variable {w0 w w' : World} {v1 : Value} {gN gX : Nat} {L : List Int} {xs nx : List Nat} {vs us : List Value}
theorem WayA.bel (h : WayA w0 v1 L gN xs vs w) : Below w0.heap.size w0 w := h.1
theorem WayA.own (h : WayA w0 v1 L gN xs vs w) : OwnI w w0.heap.size 24 .u64 v1 L := h.2.1
theorem WayA.now (h : WayA w0 v1 L gN xs vs w) : NowV w gN xs vs := h.2.2.2
theorem WayA.below (h : WayA w0 v1 L gN xs vs w) (hb : Below w.heap.size w w') : WayA w0 v1 L gN xs vs w' := ⟨h.1.trans (hb.mono h.1.size), h.2.1.below hb, h.2.2.1, h.2.2.2.below hb⟩
theorem WayA.drew (h : WayA w0 v1 L gN xs vs w) : WayA w0 v1 L gN xs vs w.drew := h.below (Below.refl _ _).drew
theorem WayA.alloc (h : WayA w0 v1 L gN xs vs w) (o : Obj) : WayA w0 v1 L gN xs vs (w.alloc o) := h.below ((Below.refl _ _).alloc (Nat.le_refl _) o)
theorem WayA.lt (h : WayA w0 v1 L gN xs vs w) : gN < w.heap.size := h.2.2.2.2.1.lt
theorem WayA.rd {A1 : Option Addr} {n c1 : Nat} (h : WayA w0 (.slice A1 n c1) L gN xs vs w) (hn : L.length = n) : Rd .u64 w w.heap.size A1 n L := OwnI.rd h.2.1 hn
theorem WayA.put {j x : Nat} {v : Value} (h : WayA w0 v1 L gN xs vs w) (hv : NumV w x v) (hj : j < xs.length) (hk : Blk w' gN 49 (vs.toArray.setIfInBounds j v)) (ho : Only gN w w') : WayA w0 v1 L gN (xs.set j x) (vs.set j v) w' :=
  ⟨h.1.trans (ho.below h.2.2.1 h.1.size), h.2.1.only h.2.2.2.2.1 (by decide) ho, h.2.2.1, h.2.2.2.put hv hj hk ho⟩
theorem WayA.start {w1 : World} {n : Nat} (hb : Below w.heap.size w w1) (ho : OwnI w1 w.heap.size 24 .u64 v1 L) : WayA w v1 L w1.heap.size (List.replicate n 0) (List.replicate n (.slice none 0 0)) (w1.alloc (.cells (Array.replicate n (Value.slice none 0 0)) 49)) :=
  ⟨hb.alloc hb.size _, ho.below ((Below.refl _ _).alloc (Nat.le_refl _) _), hb.size, NowV.fresh (by rw [List.toArray_replicate]; exact Blk.new w1 _ _)⟩
theorem WayA.fresh {n : Nat} (h : WayA w0 v1 L gN xs vs w) : WayB w0 v1 L gN xs vs w.heap.size (List.replicate n 0) (List.replicate n (.slice none 0 0)) (w.alloc (.cells (Array.replicate n (Value.slice none 0 0)) 49)) :=
  ⟨h.alloc _, h.1.size, Nat.ne_of_lt h.lt, NowV.fresh (by rw [List.toArray_replicate]; exact Blk.new w _ _)⟩
theorem WayB.bel (h : WayB w0 v1 L gN xs vs gX nx us w) : Below w0.heap.size w0 w := h.1.1
theorem WayB.fst (h : WayB w0 v1 L gN xs vs gX nx us w) : WayA w0 v1 L gN xs vs w := h.1
theorem WayB.nxt (h : WayB w0 v1 L gN xs vs gX nx us w) : NowV w gX nx us := h.2.2.2
theorem WayB.below (h : WayB w0 v1 L gN xs vs gX nx us w) (hb : Below w.heap.size w w') : WayB w0 v1 L gN xs vs gX nx us w' := ⟨h.1.below hb, h.2.1, h.2.2.1, h.2.2.2.below hb⟩
theorem WayB.drew (h : WayB w0 v1 L gN xs vs gX nx us w) : WayB w0 v1 L gN xs vs gX nx us w.drew := h.below (Below.refl _ _).drew
theorem WayB.rd {A1 : Option Addr} {n c1 : Nat} (h : WayB w0 (.slice A1 n c1) L gN xs vs gX nx us w) (hn : L.length = n) : Rd .u64 w w.heap.size A1 n L := h.1.rd hn
theorem WayB.put {j x : Nat} {v : Value} (h : WayB w0 v1 L gN xs vs gX nx us w) (hv : NumV w x v) (hj : j < nx.length) (hk : Blk w' gX 49 (us.toArray.setIfInBounds j v)) (ho : Only gX w w') : WayB w0 v1 L gN xs vs gX (nx.set j x) (us.set j v) w' :=
  ⟨⟨h.1.1.trans (ho.below h.2.1 h.1.1.size), h.1.2.1.only h.2.2.2.2.1 (by decide) ho, h.1.2.2.1, h.1.2.2.2.only h.2.2.2 h.2.2.1 ho⟩, h.2.1, h.2.2.1, h.2.2.2.put hv hj hk ho⟩
theorem WayB.next {g1 n c1 k : Nat} {x : Int} {cur : Array Value} (h : WayB w0 (.slice (some ⟨g1, 0, none⟩) n c1) L gN xs vs gX nx us w) (hb : Blk w g1 24 cur) (hk : k < L.length) (hck : cur[k]? = some (.int .u64 (L.getD k 0))) (hb' : Blk w' g1 24 (cur.setIfInBounds k (.int .u64 x))) (h1 : w0.heap.size ≤ g1) (ho : Only g1 w w') : WayA w0 (.slice (some ⟨g1, 0, none⟩) n c1) (L.set k x) gX nx us w' :=
  ⟨h.1.1.trans (ho.below h1 h.1.1.size), OwnI.put h.1.2.1 hb hk hb', h.2.1, h.2.2.2.1, h.2.2.2.2.1.only ho (fun e => by
    subst e
    have h5 := h.2.2.2.2.1
    unfold Blk at h5 hb
    rw [h5] at hb
    injection hb with hb
    injection hb with _ h6
    exact absurd h6 (by decide)), fun j hj => (h.2.2.2.2.2 j hj).cellB hb hck hb' ho⟩
end
end
section
open Go.ChangeShapes Go.WideShapes Go.ChangeAt Go.RowKit
def key3 (x y z : Int) : Value := .agg #[.int .i64 x, .int .i64 y, .int .i64 z]
def I64 (x : Int) : Prop := -9223372036854775808 ≤ x ∧ x < 9223372036854775808
theorem I64.wf {x : Int} (h : I64 x) : (Lit.int .i64 x).wf = true := by
  obtain ⟨h0, h1⟩ := h
  simp [Lit.wf, IntKind.min, IntKind.max, IntKind.signed, IntKind.bits]
  omega
theorem keyOf_triple {P : Program} {k : TypeId} {f0 f1 f2 : Field} (hu : P.underlying k = some (.struct #[f0, f1, f2])) (hkt : P.keyType k = true) (hc : P.cellsOf k = 3)
    (h0 : P.underlying f0.type = some (.int .i64)) (h1 : P.underlying f1.type = some (.int .i64)) (h2 : P.underlying f2.type = some (.int .i64))
    (o0 : f0.offset = 0) (o1 : f1.offset = 1) (o2 : f2.offset = 2) (c0 : P.cellsOf f0.type = 1) (c1 : P.cellsOf f1.type = 1) (c2 : P.cellsOf f2.type = 1) (hn : #[f0, f1, f2].all (fun f => f.name != "_") = true)
    (hsz : ∃ m, P.types.size = m + 1) {x y z : Int} (hx : I64 x) (hy : I64 y) (hz : I64 z) : ∃ l, keyOf P k (key3 x y z) = some l := by
  obtain ⟨m, hm⟩ := hsz
  refine ⟨.string (keyBytes [.int .i64 x, .int .i64 y, .int .i64 z]), ?_⟩
  unfold keyOf key3
  simp only [hu]
  rw [if_pos (by simp [hkt, Value.formed, hu, hc]), hm]
  unfold Program.keyLits
  simp only [hu, Value.cells]
  rw [if_pos ⟨by rw [hc]; rfl, hn⟩]
  simp [Program.keyLits, h0, h1, h2, o0, o1, o2, c0, c1, c2, hx.wf, hy.wf, hz.wf]
def MapG (G : Int → Int → Int → Value → Prop) (w : World) (b : Nat) : Prop := ∃ es clock, w.heap[b]? = some (.map es clock) ∧ ∀ e ∈ es.toList, ∃ x y z, I64 x ∧ I64 y ∧ I64 z ∧ e.key = key3 x y z ∧ G x y z e.val
theorem MapG.lt {G : Int → Int → Int → Value → Prop} {w : World} {b : Nat} (h : MapG G w b) : b < w.heap.size := by
  obtain ⟨es, c, hb, _⟩ := h
  rcases Nat.lt_or_ge b w.heap.size with h1 | h1
  · exact h1
  · rw [Array.getElem?_eq_none h1] at hb; cases hb
section
variable {P : Program} {t k e : TypeId} {G : Int → Int → Int → Value → Prop} {w : World} {b : Nat} {x y z : Int}
def SameM (b : Nat) (w W : World) : Prop := W.heap[b]? = w.heap[b]?
theorem MapG.look (K : WideMaps.KeyLaw P k) (ht : P.underlying t = some (.map k e)) (hk : ∀ x y z, I64 x → I64 y → I64 z → ∃ l, keyOf P k (key3 x y z) = some l) {v0 : Value} (hz0 : ∀ W, (zeroValue e).run P W = .ok v0 W) (h : MapG G w b) (hx : I64 x) (hy : I64 y) (hz : I64 z) :
    (∀ W, SameM b w W → (Instr.lookup t (.map (some b)) (key3 x y z) true).run P W = .ok (.tuple #[v0, .bool false]) W) ∨ (∀ W, SameM b w W → ∃ v, G x y z v ∧ (Instr.lookup t (.map (some b)) (key3 x y z) true).run P W = .ok (.tuple #[v, .bool true]) W) := by
  obtain ⟨es, clock, hb, hes⟩ := h
  obtain ⟨l, hl⟩ := hk x y z hx hy hz
  have hks : ∀ e ∈ es.toList, ∃ l, keyOf P k e.key = some l := fun e he => by
    obtain ⟨x', y', z', a1, a2, a3, a4, _⟩ := hes e he
    rw [a4]
    exact hk x' y' z' a1 a2 a3
  by_cases hex : ∃ e ∈ es.toList, e.key = key3 x y z
  · refine .inr fun W hW => ?_
    have hbW : W.heap[b]? = some (.map es clock) := hW.trans hb
    rcases K.find W hl es.toList hks with ⟨h1, h2⟩ | ⟨j, e0, h1, h2, h3⟩
    · obtain ⟨e1, he1, he2⟩ := hex
      exact absurd he2 (h2 e1 he1)
    · refine ⟨e0.val, ?_, by simp [Instr.lookup, run_underlying ht, MapKept.run_getObj_map hbW, K.check W _ hl, h1, Result.andThen]⟩
      obtain ⟨x', y', z', a1, a2, a3, a4, a5⟩ := hes e0 (List.mem_of_getElem? h2)
      rw [h3] at a4
      unfold key3 at a4
      injection a4 with a4
      simp only [Array.mk.injEq, List.cons.injEq, Value.int.injEq, and_true, true_and] at a4
      obtain ⟨rfl, rfl, rfl⟩ := a4
      exact a5
  · refine .inl fun W hW => ?_
    have hbW : W.heap[b]? = some (.map es clock) := hW.trans hb
    rcases K.find W hl es.toList hks with ⟨h1, h2⟩ | ⟨j, e0, h1, h2, h3⟩
    · simp [Instr.lookup, run_underlying ht, MapKept.run_getObj_map hbW, K.check W _ hl, h1, hz0 W, Result.andThen]
    · exact absurd ⟨e0, List.mem_of_getElem? h2, h3⟩ hex
theorem MapG.store (K : WideMaps.KeyLaw P k) (ht : P.underlying t = some (.map k e)) (hk : ∀ x y z, I64 x → I64 y → I64 z → ∃ l, keyOf P k (key3 x y z) = some l) (h : MapG G w b) (hx : I64 x) (hy : I64 y) (hz : I64 z) {v : Value} (hv : G x y z v) :
    ∃ es' clock', (Instr.mapUpdate t (.map (some b)) (key3 x y z) v).run P w = .ok () (ChangeMaps.setBlock w b (.map es' clock')) ∧ MapG G (ChangeMaps.setBlock w b (.map es' clock')) b := by
  have hlt := h.lt
  obtain ⟨es, clock, hb, hes⟩ := h
  obtain ⟨l, hl⟩ := hk x y z hx hy hz
  have hks : ∀ e ∈ es.toList, ∃ l, keyOf P k e.key = some l := fun e he => by
    obtain ⟨x', y', z', a1, a2, a3, a4, _⟩ := hes e he
    rw [a4]
    exact hk x' y' z' a1 a2 a3
  have hset : ∀ o, (ChangeMaps.setBlock w b o).heap[b]? = some o := fun o => by
    simp [ChangeMaps.setBlock, hlt]
  rcases K.find w hl es.toList hks with ⟨h1, h2⟩ | ⟨j, e0, h1, h2, h3⟩
  · refine ⟨es.push ⟨key3 x y z, v, clock⟩, clock + 1, ?_, _, _, hset _, fun e he => ?_⟩
    · simp [Instr.mapUpdate, run_underlying ht, MapKept.run_getObj_map hb, K.check w false hl, h1, MapKept.run_setObj_map _ hb, Result.andThen, ChangeMaps.setBlock]
    · simp only [Array.toList_push, List.mem_append, List.mem_singleton] at he
      rcases he with he | rfl
      · exact hes e he
      · exact ⟨x, y, z, hx, hy, hz, rfl, hv⟩
  · have hj : es[j]? = some e0 := by simpa using h2
    refine ⟨es.modify j (fun e' => { e' with key := key3 x y z, val := v }), clock, ?_, _, _, hset _, fun e he => ?_⟩
    · simp [Instr.mapUpdate, run_underlying ht, MapKept.run_getObj_map hb, K.check w false hl, h1, hj, h3, K.stays w hl, MapKept.run_setObj_map _ hb, Result.andThen, ChangeMaps.setBlock]
    · rcases MapFrom.mem_modify he with he | ⟨e1, _, rfl⟩
      · exact hes e he
      · exact ⟨x, y, z, hx, hy, hz, rfl, hv⟩
theorem MapG.to {G' : Int → Int → Int → Value → Prop} {w' : World} (h : MapG G w b) (hs : SameM b w w') (hG : ∀ x y z v, G x y z v → G' x y z v) : MapG G' w' b := by
  obtain ⟨es, clock, hb, hes⟩ := h
  exact ⟨es, clock, hs.trans hb, fun e he => by
    obtain ⟨x, y, z, a1, a2, a3, a4, a5⟩ := hes e he
    exact ⟨x, y, z, a1, a2, a3, a4, hG _ _ _ _ a5⟩⟩
theorem only_setMap {es : Array MapEntry} {clock : Nat} : Only b w (ChangeMaps.setBlock w b (.map es clock)) := ⟨rfl, rfl, rfl, by simp [ChangeMaps.setBlock], fun j hj hne => by
  simp [ChangeMaps.setBlock, Ne.symm hne]⟩
theorem wpList_look3 {ops : Array Oper} {rest : List Oper} {o : Oper} {a : Act} {Q : Exit → Act → World → Prop} (hg : o.guard = none) (m x : Operand) (hop : o.op = Op.lookup t m x true) (b : Nat) (key v : Value)
    (hm : a.eval m = .map (some b)) (hx : a.eval x = key) (hrun : (Instr.lookup t (.map (some b)) key true).run P w = .ok v w) (hK : wpList P ops Q rest (a.put o.dst v) w) : wpList P ops Q (o :: rest) a w := by
  refine wpList_plain hg fun K' hK' => ?_
  unfold Oper.wp
  simp [execOp, hop, hm, hx, hrun, Result.andThen]
  exact hK' _ _ hK
theorem wpList_upd3 {ops : Array Oper} {rest : List Oper} {o : Oper} {a : Act} {Q : Exit → Act → World → Prop} (hg : o.guard = none) (m x v : Operand) (hop : o.op = Op.mapUpdate t m x v) (b : Nat) (G : Int → Int → Int → Value → Prop) (x0 y0 z0 : Int) (val : Value)
    (hm : a.eval m = .map (some b)) (hx : a.eval x = key3 x0 y0 z0) (hv : a.eval v = val) (K : WideMaps.KeyLaw P k) (ht : P.underlying t = some (.map k e)) (hk : ∀ x y z, I64 x → I64 y → I64 z → ∃ l, keyOf P k (key3 x y z) = some l) (h : MapG G w b) (h1 : I64 x0) (h2 : I64 y0) (h3 : I64 z0) (hG : G x0 y0 z0 val)
    (hK : ∀ w', MapG G w' b → Only b w w' → wpList P ops Q rest (a.put o.dst undef) w') : wpList P ops Q (o :: rest) a w := by
  refine wpList_plain hg fun K' hK' => ?_
  obtain ⟨es, clock, hrun, hmap⟩ := h.store K ht hk h1 h2 h3 hG
  unfold Oper.wp
  simp [execOp, hop, hm, hx, hv, hrun, Result.andThen]
  exact hK' _ _ (hK _ hmap only_setMap)
end
end
section
open Go.ChangeShapes Go.WideShapes Go.ChangeAt Go.RowKit
structure Kp (w w' : World) : Prop where
  size : w.heap.size ≤ w'.heap.size
  cell : ∀ g off v, w.cell? ⟨g, off, none⟩ = some v → w'.cell? ⟨g, off, none⟩ = some v
theorem cell_lt {w : World} {g off : Nat} {v : Value} (h : w.cell? ⟨g, off, none⟩ = some v) : g < w.heap.size := by
  rcases Nat.lt_or_ge g w.heap.size with h1 | h1
  · exact h1
  · unfold World.cell? at h
    rw [Array.getElem?_eq_none h1] at h
    cases h
theorem Kp.of_below {w w' : World} (h : Below w.heap.size w w') : Kp w w' := ⟨h.size, fun g off v hc => (h.cell (p := ⟨g, off, none⟩) (cell_lt hc)).trans hc⟩
theorem Kp.of_only {G : Int → Int → Int → Value → Prop} {w w' : World} {b : Nat} (h : Only b w w') (hm : MapG G w b) : Kp w w' := ⟨h.size, fun g off v hc => by
  have hne : g ≠ b := by
    rintro rfl
    obtain ⟨es, clock, hb, _⟩ := hm
    unfold World.cell? at hc
    rw [hb] at hc
    cases hc
  rw [World.cell?_of_block (w := w) (w' := w') (a := ⟨g, off, none⟩) (h.block g (cell_lt hc) hne)]
  exact hc⟩
theorem Kp.trans {w w' w'' : World} (h : Kp w w') (h' : Kp w' w'') : Kp w w'' := ⟨Nat.le_trans h.size h'.size, fun g off v hc => h'.cell g off v (h.cell g off v hc)⟩
theorem Rd.kp {k : IntKind} {w w' : World} {A : Option Addr} {n : Nat} {zs : List Int} (h : Rd k w w.heap.size A n zs) (hk : Kp w w') : Rd k w' w'.heap.size A n zs :=
  ⟨h.1, fun hn => by
    obtain ⟨b, off, e, hlt, hc⟩ := h.2 hn
    exact ⟨b, off, e, Nat.lt_of_lt_of_le hlt hk.size, fun j hj => hk.cell _ _ _ (hc j hj)⟩⟩
theorem NumR.kp {w w' : World} {x m c : Nat} {A : Option Addr} (h : NumR w x A m c) (hk : Kp w w') : NumR w' x A m c := ⟨h.1, h.2.1, h.2.2.1, h.2.2.2.kp hk⟩
theorem NumV.kp {w w' : World} {x : Nat} {v : Value} (h : NumV w x v) (hk : Kp w w') : NumV w' x v := by
  obtain ⟨A, m, c, e, h1⟩ := h
  exact ⟨A, m, c, e, h1.kp hk⟩
def TurM (w : World) (A : Option Addr) (T : List Turn) : Prop := ∀ i t, T[i]? = some t → ∃ g off v1 v2, A = some ⟨g, off, none⟩ ∧ w.cell? ⟨g, off + i * 3, none⟩ = some (.int .i64 (t.k : Int)) ∧ w.cell? ⟨g, off + i * 3 + 1, none⟩ = some v1 ∧ w.cell? ⟨g, off + i * 3 + 2, none⟩ = some v2 ∧ NumV w t.st v1 ∧ NumV w t.lost v2
theorem TurM.kp {w w' : World} {A : Option Addr} {T : List Turn} (h : TurM w A T) (hk : Kp w w') : TurM w' A T := fun i t ht => by
  obtain ⟨g, off, v1, v2, e, h1, h2, h3, h4, h5⟩ := h i t ht
  exact ⟨g, off, v1, v2, e, hk.cell _ _ _ h1, hk.cell _ _ _ h2, hk.cell _ _ _ h3, h4.kp hk, h5.kp hk⟩
def WayG (T : List Turn) (m : Nat) (w : World) (x y z : Int) (v : Value) : Prop := ∀ i j r : Nat, x = (i : Int) → y = (j : Int) → z = (r : Int) → NumV w (tapV m T i j r) v
theorem WayG.kp {T : List Turn} {m : Nat} {w w' : World} {x y z : Int} {v : Value} (h : WayG T m w x y z v) (hk : Kp w w') : WayG T m w' x y z v := fun i j r e1 e2 e3 => (h i j r e1 e2 e3).kp hk
structure TapS (T : List Turn) (m : Nat) (A : Option Addr) (b : Nat) (w : World) : Prop where
  tur : TurM w A T
  map : MapG (WayG T m w) w b
theorem TapS.below {T : List Turn} {m b : Nat} {A : Option Addr} {w w' : World} (h : TapS T m A b w) (hb : Below w.heap.size w w') : TapS T m A b w' :=
  ⟨h.tur.kp (.of_below hb), h.map.to (hb.block b h.map.lt) (fun _ _ _ _ hv => hv.kp (.of_below hb))⟩
def RetT (T : List Turn) (m : Nat) (A : Option Addr) (b : Nat) (w : World) (x : Nat) (e : Ending) (w' : World) : Prop := ∃ B l c, e = .returned (.slice B l c) ∧ NumR w' x B l c ∧ TapS T m A b w' ∧ Only b w w'
structure TapY (T : List Turn) (m n cT b gc gs gt i j r k : Nat) (A : Option Addr) (vS vL : Value) (st lost : Nat) (w0 w : World) : Prop where
  bc : Blk w gc 85 #[.slice A n cT, .int .i64 (m : Int), .map (some b)]
  bs : Blk w gs 88 #[.int .i64 (i : Int), .int .i64 (j : Int), .int .i64 (r : Int)]
  bt : Blk w gt 111 #[.int .i64 (k : Int), vS, vL]
  tap : TapS T m A b w
  nS : NumV w st vS
  nL : NumV w lost vL
  onl : Only b w0 w
  lt : b < w0.heap.size
  gc0 : w0.heap.size ≤ gc
  gs0 : w0.heap.size ≤ gs
  gt0 : w0.heap.size ≤ gt
section
variable {T : List Turn} {m n cT b gc gs gt i j r k st lost : Nat} {A : Option Addr} {vS vL : Value} {w0 w w' : World}
theorem TapY.below (h : TapY T m n cT b gc gs gt i j r k A vS vL st lost w0 w) (hb : Below w.heap.size w w') : TapY T m n cT b gc gs gt i j r k A vS vL st lost w0 w' :=
  ⟨h.bc.below hb h.bc.lt, h.bs.below hb h.bs.lt, h.bt.below hb h.bt.lt, h.tap.below hb, h.nS.kp (.of_below hb), h.nL.kp (.of_below hb), h.onl.trans (.of_below hb), h.lt, h.gc0, h.gs0, h.gt0⟩
theorem TapY.drew (h : TapY T m n cT b gc gs gt i j r k A vS vL st lost w0 w) : TapY T m n cT b gc gs gt i j r k A vS vL st lost w0 w.drew := h.below (Below.refl _ _).drew
theorem TapY.call (h : TapY T m n cT b gc gs gt i j r k A vS vL st lost w0 w) (ht : TapS T m A b w') (ho : Only b w w') : TapY T m n cT b gc gs gt i j r k A vS vL st lost w0 w' :=
  have hk : Kp w w' := .of_only ho h.tap.map
  ⟨h.bc.only ho (by have := h.gc0; have := h.lt; omega), h.bs.only ho (by have := h.gs0; have := h.lt; omega), h.bt.only ho (by have := h.gt0; have := h.lt; omega), ht, h.nS.kp hk, h.nL.kp hk, h.onl.trans ho, h.lt, h.gc0, h.gs0, h.gt0⟩
theorem TapY.c0 (h : TapY T m n cT b gc gs gt i j r k A vS vL st lost w0 w) : w.cell? ⟨gc, 0, none⟩ = some (.slice A n cT) := by rw [h.bc.cell]; rfl
theorem TapY.c1 (h : TapY T m n cT b gc gs gt i j r k A vS vL st lost w0 w) : w.cell? ⟨gc, 1, none⟩ = some (.int .i64 (m : Int)) := by rw [h.bc.cell]; rfl
theorem TapY.c2 (h : TapY T m n cT b gc gs gt i j r k A vS vL st lost w0 w) : w.cell? ⟨gc, 2, none⟩ = some (.map (some b)) := by rw [h.bc.cell]; rfl
theorem TapY.s0 (h : TapY T m n cT b gc gs gt i j r k A vS vL st lost w0 w) : w.cell? ⟨gs, 0, none⟩ = some (.int .i64 (i : Int)) := by rw [h.bs.cell]; rfl
theorem TapY.s1 (h : TapY T m n cT b gc gs gt i j r k A vS vL st lost w0 w) : w.cell? ⟨gs, 1, none⟩ = some (.int .i64 (j : Int)) := by rw [h.bs.cell]; rfl
theorem TapY.s2 (h : TapY T m n cT b gc gs gt i j r k A vS vL st lost w0 w) : w.cell? ⟨gs, 2, none⟩ = some (.int .i64 (r : Int)) := by rw [h.bs.cell]; rfl
theorem TapY.t0 (h : TapY T m n cT b gc gs gt i j r k A vS vL st lost w0 w) : w.cell? ⟨gt, 0, none⟩ = some (.int .i64 (k : Int)) := by rw [h.bt.cell]; rfl
theorem TapY.t1 (h : TapY T m n cT b gc gs gt i j r k A vS vL st lost w0 w) : w.cell? ⟨gt, 1, none⟩ = some vS := by rw [h.bt.cell]; rfl
theorem TapY.t2 (h : TapY T m n cT b gc gs gt i j r k A vS vL st lost w0 w) : w.cell? ⟨gt, 2, none⟩ = some vL := by rw [h.bt.cell]; rfl
end
theorem run_build_nn (A B : Option Addr) (n c m d : Nat) (w : World) : (Instr.buildSlice 89 2 #[(0, .slice A n c), (1, .slice B m d)]).run Tryz.prog w = .ok (.slice (some ⟨w.heap.size, 0, none⟩) 2 2) (w.alloc (.cells #[.slice A n c, .slice B m d] 49)) := by
  go_simp
theorem exec_build_nn {o : Oper} {a : Act} {w : World} (p q : Operand) (A B : Option Addr) (n c m d : Nat) (ho : o.op = .buildSlice 89 2 #[(0, p), (1, q)]) (hp : a.eval p = .slice A n c) (hq : a.eval q = .slice B m d) :
    (execOp a.eval o).run Tryz.prog w = .ok (.value (.slice (some ⟨w.heap.size, 0, none⟩) 2 2)) (w.alloc (.cells #[.slice A n c, .slice B m d] 49)) := by
  have hr := run_build_nn A B n c m d w
  unfold execOp
  simp only [ho, List.map_toArray, List.map_cons, List.map_nil, hp, hq]
  change ((Instr.buildSlice 89 2 #[(0, .slice A n c), (1, .slice B m d)]) >>= fun v => pure (Next.value v)).run Tryz.prog w = _
  simp only [Sem.run_bind, hr, Result.andThen_ok, Sem.run_pure]
theorem step_build_nn {ops : Array Oper} {o : Oper} {a : Act} {w : World} {K : Act → World → Prop} {Q : Exit → Act → World → Prop} {E : Prop} (d : Option Tmp) (hd : o.dst = d) (hw : Region.wanted o (yielded ops a.tmps) = true) (p q : Operand) (ho : o.op = .buildSlice 89 2 #[(0, p), (1, q)])
    (A B : Option Addr) (n c m e : Nat) (hp : a.eval p = .slice A n c) (hq : a.eval q = .slice B m e) (x y : Nat) (hx : NumR w x A n c) (hy : NumR w y B m e)
    (h : ∀ g w', RdNs w' w'.heap.size (some ⟨g, 0, none⟩) 2 [rowN A (natL x) c, rowN B (natL y) e] → Below w.heap.size w w' → K (a.put d (.slice (some ⟨g, 0, none⟩) 2 2)) w') :
    if Region.wanted o (yielded ops a.tmps) = true then Oper.wp Tryz.prog o a w K Q else E := by
  subst hd
  rw [if_pos hw]
  have he := exec_build_nn (w := w) p q A B n c m e ho hp hq
  unfold Oper.wp
  rw [he]
  obtain ⟨rfl, x1, x2, x3⟩ := hx
  obtain ⟨rfl, y1, y2, y3⟩ := hy
  exact h _ _ (rdNs_two x3 y3 x1 y1 x2 y2 (natL_lim x) (natL_lim y)) ((Below.refl _ _).alloc (Nat.le_refl _) _)
end
section
def mayB (n m : Int) : Bool := decide (1 ≤ n ∧ n < 9223372036854775808 ∧ 1 ≤ m ∧ m ≤ 64)
theorem mayB_iff {n m : Int} : mayB n m = true ↔ (1 ≤ n ∧ n < 9223372036854775808 ∧ 1 ≤ m ∧ m ≤ 64) := decide_eq_true_iff
theorem mayB_no {n m : Int} (h : ¬ (1 ≤ n ∧ n < 9223372036854775808 ∧ 1 ≤ m ∧ m ≤ 64)) : mayB n m = false := decide_eq_false h
theorem need_in {n : Int} (h : 1 ≤ n) (h2 : n < 9223372036854775808) : needN n ≤ 63 ∧ n.toNat ≤ 2 ^ needN n := by
  by_cases h1 : n = 1
  · subst h1; exact ⟨by decide, by decide⟩
  · have e : needN n = (n - 1).toNat.log2 + 1 := by
      unfold needN Wd.bitsL
      rw [if_neg (by omega), if_neg (by omega)]
    obtain ⟨x, hx⟩ : ∃ x, (n - 1).toNat = x := ⟨_, rfl⟩
    rw [hx] at e
    have h3 := Nat.log2_self_le (n := x) (by omega)
    have h4 := Nat.lt_log2_self (n := x)
    rw [e]
    refine ⟨?_, by omega⟩
    rcases Nat.lt_or_ge x.log2 63 with h5 | h5
    · omega
    · have h6 : 9223372036854775808 ≤ 2 ^ x.log2 := Nat.le_trans (by decide) (Nat.pow_le_pow_right (n := 2) (by omega) h5)
      omega
def eaS (P r m : Nat) : Nat → Nat
  | 0 => 0
  | j + 1 => eaS P r m j + r ^ j * P ^ (m - 1 - j)
theorem ea_sum {P r n m : Nat} (h : n + r = P) : ∀ j, j ≤ m → n * eaS P r m j + r ^ j * P ^ (m - j) = P ^ m
  | 0, _ => by rw [eaS, Nat.mul_zero, Nat.zero_add, Nat.pow_zero, Nat.one_mul, Nat.sub_zero]
  | j + 1, hj => by
    have ih := ea_sum (m := m) h j (by omega)
    have e : P ^ (m - j) = P ^ (m - 1 - j) * P := by rw [show m - j = (m - 1 - j) + 1 by omega, Nat.pow_succ]
    rw [e] at ih
    rw [eaS, show m - (j + 1) = m - 1 - j by omega, ← ih, Nat.pow_succ, ← h]
    obtain ⟨x, hx⟩ : ∃ x, r ^ j = x := ⟨_, rfl⟩
    obtain ⟨y, hy⟩ : ∃ y, (n + r) ^ (m - 1 - j) = y := ⟨_, rfl⟩
    obtain ⟨z, hz⟩ : ∃ z, eaS (n + r) r m j = z := ⟨_, rfl⟩
    rw [hx, hy, hz, Nat.mul_add, Nat.mul_add, Nat.mul_add, Nat.add_assoc]
    congr 1
    congr 1
    · rw [Nat.mul_comm n, Nat.mul_assoc]
    · rw [Nat.mul_assoc, Nat.mul_comm r y]
def oddP (n : Int) : Nat := 2 ^ needN n
def oddR (n : Int) : Nat := oddP n - n.toNat
def allV (n m : Int) : Nat := 2 ^ (needN n * m.toNat)
def lostV (n m : Int) : Nat := oddR n ^ m.toNat
def eachV (n m : Int) : Nat := eaS (oddP n) (oddR n) m.toNat m.toNat
theorem odd_add {n : Int} (h : 1 ≤ n) (h2 : n < 9223372036854775808) : n.toNat + oddR n = oddP n := by
  have := (need_in h h2).2
  unfold oddR oddP
  omega
theorem odd_pow (n m : Int) : oddP n ^ m.toNat = allV n m := (Nat.pow_mul 2 _ _).symm
theorem odd_sum {n m : Int} (h : mayB n m = true) : n.toNat * eachV n m + lostV n m = allV n m := by
  obtain ⟨h1, h2, h3, h4⟩ := mayB_iff.1 h
  have := ea_sum (m := m.toNat) (odd_add h1 h2) m.toNat (Nat.le_refl _)
  rw [Nat.sub_self, Nat.pow_zero, Nat.mul_one, odd_pow] at this
  exact this
theorem pow2_ltO {e k : Nat} (h : e < 32 * k) : 2 ^ e < 4294967296 ^ k := by
  rw [show (4294967296 : Nat) = 2 ^ 32 from rfl, ← Nat.pow_mul]
  exact Nat.pow_lt_pow_right (by omega) h
theorem exp_in {k m : Nat} (hk : k ≤ 63) (hm : m ≤ 64) : k * m ≤ 4032 := Nat.mul_le_mul hk hm
theorem allV_lt {n m : Int} (h : mayB n m = true) : allV n m < 4294967296 ^ 127 := by
  obtain ⟨h1, h2, h3, h4⟩ := mayB_iff.1 h
  have := exp_in (need_in h1 h2).1 (show m.toNat ≤ 64 by omega)
  exact pow2_ltO (by omega)
theorem odd_len {n m : Int} (h : mayB n m = true) {x : Nat} (hx : x ≤ allV n m) : (natL x).length ≤ 127 := (natL_len x 127).2 (Nat.lt_of_le_of_lt hx (allV_lt h))
theorem lostV_le {n m : Int} (h : mayB n m = true) : lostV n m ≤ allV n m := by have := odd_sum h; omega
def bitR (n m : Int) : Int × Int := if mayB n m = true then ((needN n : Int) * m, 0) else (0, 1)
def lostR (n m : Int) : Int × List Int := if mayB n m = true then (0, natL (lostV n m)) else (1, [])
theorem powR_any {x k : Nat} (hx : (natL x).length ≤ 256) (hk : k ≤ 64) (k1 : 1 ≤ k) (h : (natL (x ^ k)).length ≤ 256) : powR (natL x) (k : Int) = (0, natL (x ^ k)) := by
  rcases Nat.eq_zero_or_pos x with h0 | h0
  · subst h0
    rw [Nat.zero_pow (by omega), natL_zero]
    unfold powR
    rw [if_pos ⟨rfl, by omega, by omega⟩, Int.toNat_natCast]
    unfold mulR
    have ha : allN (List.replicate k (rowOf [])) = true := List.all_eq_true.2 fun r hr' => by rw [List.eq_of_mem_replicate hr']; rfl
    rw [if_pos ha]
    have hz : ∀ k s, 1 ≤ k → mulGo s (List.replicate k (rowOf [])) = (0, []) := fun k => by
      induction k with
      | zero => intro s h; omega
      | succ k ih =>
        intro s _
        rw [List.replicate_succ, mulGo]
        rw [show valL (rowOf []).zs = 0 from rfl, Nat.mul_zero, natL_zero]
        rw [if_neg (by show ¬ 256 < 0; omega)]
        rcases Nat.eq_zero_or_pos k with h1 | h1
        · subst h1; rw [List.replicate_zero, mulGo, natL_zero]
        · exact ih 0 h1
    exact hz k 1 k1
  · have h1 := powR_ok (zs := natL x) (k := k) (rightN_natL hx) hk (by rw [natL_val]; exact h0) (by rw [natL_val]; exact h)
    rw [natL_val] at h1
    exact h1
end
section
open Go.ChangeShapes Go.WideShapes Go.ChangeAt Go.RowKit

end
section
open Go.ChangeShapes Go.WideShapes Go.ChangeAt Go.RowKit
theorem q10right_c (zs : List Int) (A : Option Addr) (n c : Nat) (hn : n ≤ maxLen) (w : World) (hrd : Rd .u32 w w.heap.size A n zs) : Calls Tryz.prog 102 #[.slice A n c] w fun e w' => e = .returned (.bool (rightN zs)) ∧ w = w' := by
  have hlen := hrd.len
  have hnm : (n : Int) ≤ 9223372036854775807 := by unfold maxLen at hn; omega
  by_cases hb : 256 < n
  · have HV := Lib.hid (rightN_big (l := zs) (by omega))
    have h1 : (256 : Int) < (n : Int) := by omega
    clear hrd hn
    go_enter Tryz.func102, Tryz.ntmps102
    go_wp2
    go_ret
    exact ⟨ret_boolN HV.out.symm, rfl⟩
  · have h1 : (n : Int) ≤ 256 := by omega
    rcases n with _ | m
    · obtain rfl := List.eq_nil_of_length_eq_zero hlen
      have HV := Lib.hid (show rightN [] = true from rfl)
      clear hrd hn hb
      go_enter Tryz.func102, Tryz.ntmps102
      go_wp2
      go_ret
      exact ⟨ret_boolN HV.out.symm, rfl⟩
    · obtain ⟨b, off, rfl, _, hc⟩ := hrd.at_ (by omega)
      have hcm := hc m (by omega)
      have hv := rightN_at (l := zs) (m := m) hlen (by omega)
      obtain ⟨z, hz⟩ : ∃ z, zs.getD m 0 = z := ⟨_, rfl⟩
      rw [hz] at hcm hv
      have HV := Lib.hid hv
      have m0 : ((m + 1 : Nat) : Int) = (m : Int) + 1 := by omega
      have m1 : ((m : Int) + 1 == 0) = false := by rw [beq_eq_false_iff_ne]; omega
      have m2 : (m : Int) ≤ 255 := by omega
      have m3 : (m : Int) + 1 - 1 = (m : Int) := by omega
      clear hrd hc hn hb hnm hlen hz hv
      go_enter Tryz.func102, Tryz.ntmps102
      go_wp2
      go_ret
      exact ⟨ret_boolN HV.out.symm, rfl⟩
theorem q10trim_c (zs : List Int) (A : Option Addr) (n c : Nat) (hn : n ≤ maxLen) (hnc : n ≤ c) (w : World) (hrd : Rd .u32 w w.heap.size A n zs) : Calls Tryz.prog 89 #[.slice A n c] w fun e w' => e = .returned (.slice A (trimL zs).length c) ∧ w = w' := by
  have HR := Lib.hid hrd
  have hlen := hrd.len
  have htk : zs.take n = zs := by rw [← hlen, List.take_length]
  have HTZ := Lib.hid (fun k h1 h2 => trimL_zero (l := zs) (k := k) h1 h2)
  have HTS := Lib.hid (fun k h1 h2 => trimL_stop (l := zs) (k := k) h1 h2)
  have hnm : (n : Int) ≤ 9223372036854775807 := by unfold maxLen at hn; omega
  have hnc' : (n : Int) ≤ (c : Int) := by omega
  clear hrd hn
  go_enter Tryz.func89, Tryz.ntmps89
  go_wp2
  go_loop [0] (fun v => ∃ k : Nat, k ≤ n ∧ v = .slice A k c ∧ trimL (zs.take k) = trimL zs) (fun v => match v with | .slice _ k _ => k | _ => 0)
  case atStart => exact ⟨n, Nat.le_refl _, rfl, by rw [htk]⟩
  case round =>
    obtain ⟨k, hk, rfl, htr⟩ := hrel
    have HTR := Lib.hid htr
    clear htr
    rcases k with _ | m
    · have HL : Hid ((trimL zs).length = 0) := Lib.hid (by rw [← HTR.out]; rfl)
      go_wp2
      go_ret
      exact ⟨ret_slice HL.out.symm, rfl⟩
    · obtain ⟨b, off, rfl, _, hc⟩ := HR.out.at_ (by omega)
      have hcm := hc m (by omega)
      have m0 : ((m + 1 : Nat) : Int) = (m : Int) + 1 := by omega
      have m3 : (m : Int) + 1 - 1 = (m : Int) := by omega
      have m2 : (m : Int) + 1 ≤ (n : Int) := by omega
      have m4 : (m : Int) ≤ (c : Int) := by omega
      by_cases hz : zs.getD m 0 = 0
      · rw [hz] at hcm
        have HN := Lib.hid ((HTZ.out m (by omega) hz).trans HTR.out)
        clear hc hz
        go_wp2
        go_round
        case rel => exact ⟨m, by omega, rfl, HN.out⟩
        case measure => simp
      · have hl := HTS.out m (by omega) hz
        rw [HTR.out] at hl
        have HL := Lib.hid hl
        obtain ⟨z, hzz⟩ : ∃ z, zs.getD m 0 = z := ⟨_, rfl⟩
        rw [hzz] at hcm hz
        have tz : (z == 0) = false := by rw [beq_eq_false_iff_ne]; exact hz
        clear hc hl hzz
        go_wp2
        go_ret
        exact ⟨ret_slice HL.out.symm, rfl⟩
theorem q10of_c (n : Int) (n0 : 0 ≤ n) (n1 : n < 18446744073709551616) (w : World) : Calls Tryz.prog 66 #[.int .u64 n] w (RetN w (natL n.toNat)) := by
  have hl : trimL [n % 4294967296, n / 4294967296] = natL n.toNat := by
    rw [trimL_eq (Lim.cons ⟨by omega, by omega⟩ (Lim.cons ⟨by omega, by omega⟩ Lim.nil))]
    congr 1
    show (n % 4294967296).toNat + 4294967296 * ((n / 4294967296).toNat + 4294967296 * 0) = n.toNat
    omega
  have e1 : IntKind.u32.wrap (n % 4294967296) = n % 4294967296 := by rw [IntKind.wrap_u32]; omega
  have e2 : IntKind.u32.wrap (n / 4294967296) = n / 4294967296 := by rw [IntKind.wrap_u32]; omega
  have ht : ∀ (A : Option Addr) W, Rd .u32 W W.heap.size A 2 [n % 4294967296, n / 4294967296] → Calls Tryz.prog 89 #[.slice A 2 2] W fun e w' => e = .returned (.slice A (trimL [n % 4294967296, n / 4294967296]).length 2) ∧ W = w' := fun A W h => q10trim_c _ A 2 2 (by simp [maxLen]) (Nat.le_refl _) W h
  have hrt := fun A W (h : Rd .u32 W W.heap.size A 2 [n % 4294967296, n / 4294967296]) => rd_trim h
  rw [hl] at ht hrt
  have hlt := trimL_len [n % 4294967296, n / 4294967296]
  rw [hl] at hlt
  have HLT := Lib.hid hlt
  obtain ⟨p, hp⟩ : ∃ p, n % 4294967296 = p := ⟨_, rfl⟩
  obtain ⟨q, hq⟩ : ∃ p, n / 4294967296 = p := ⟨_, rfl⟩
  obtain ⟨R, hR⟩ : ∃ p, natL n.toNat = p := ⟨_, rfl⟩
  rw [hp] at e1
  rw [hq] at e2
  rw [hp, hq, hR] at ht hrt
  rw [hR] at HLT ⊢
  have HT := Lib.hid ht
  have HRT := Lib.hid hrt
  have HRD := Lib.hid (rd_two32 w 62 p q)
  have HBL := Lib.hid ((Below.refl w.heap.size w).alloc (Nat.le_refl _) (.cells #[.int .u32 p, .int .u32 q] 62))
  clear ht hrt hl hlt hR
  go_enter Tryz.func66, Tryz.ntmps66
  go_wp2_with (first
    | (go_at_call 89; (with_reducible refine (HT.out _ _ HRD.out).mono ?_); rintro e _ ⟨rfl, rfl⟩))
  go_ret
  exact ⟨_, _, rfl, HLT.out, by simp [maxLen], HRT.out _ _ HRD.out, HBL.out⟩
end
section
open Go.ChangeShapes Go.WideShapes Go.ChangeAt Go.RowKit
def TwoS (w : World) (V : Nat) (v0 v1 : Value) : Prop := ∃ (xs ys : List Int) (A B : Option Addr) (n m c d : Nat), v0 = .slice A n c ∧ v1 = .slice B m d ∧ Lim xs ∧ Lim ys ∧ Rd .u32 w w.heap.size A n xs ∧ Rd .u32 w w.heap.size B m ys ∧ n ≤ 100000 ∧ m ≤ n ∧ valL xs + valL ys = V
theorem getD_rep0 (n t : Nat) : (List.replicate n (0 : Int)).getD t 0 = 0 := by
  rw [List.getD_eq_getElem?_getD, List.getElem?_replicate]
  split <;> rfl
theorem set_past {l : List Int} {i : Nat} (p : Int) (h : ∀ t, i ≤ t → l.getD t 0 = 0) : ∀ t, i + 1 ≤ t → (l.set i p).getD t 0 = 0 := fun t ht => by
  rw [List.getD_eq_getElem?_getD, List.getElem?_set_ne (by omega), ← List.getD_eq_getElem?_getD]
  exact h t (by omega)
set_option maxHeartbeats 4000000 in
theorem q10plus_c (xs ys : List Int) (hx : Lim xs) (hy : Lim ys) (A B : Option Addr) (n m c d : Nat) (hn : n ≤ 100000) (hm : m ≤ 100000) (w : World) (hra : Rd .u32 w w.heap.size A n xs) (hrb : Rd .u32 w w.heap.size B m ys) : Calls Tryz.prog 92 #[.slice A n c, .slice B m d] w (RetN w (natL (valL xs + valL ys))) := by
  obtain ⟨V, hV⟩ : ∃ V, valL xs + valL ys = V := ⟨_, rfl⟩
  rw [hV]
  go_enter Tryz.func92, Tryz.ntmps92
  go_upto_if 14 with fail
  go_cut [0, 1] from 14 to 16 (fun v0 v1 wx => w = wx ∧ TwoS w V v0 v1)
  case first =>
    by_cases h : n < m
    · have h1 : (n : Int) < (m : Int) := by omega
      have HF : Hid (TwoS w V (.slice B m d) (.slice A n c)) := Lib.hid ⟨ys, xs, B, A, m, n, d, c, rfl, rfl, hy, hx, hrb, hra, hm, by omega, by omega⟩
      clear hra hrb hx hy hV h hn hm
      go_wp2_with fail
      (go_meet; exact ⟨rfl, HF.out⟩)
    · have h1 : ¬ (n : Int) < (m : Int) := by omega
      have HF : Hid (TwoS w V (.slice A n c) (.slice B m d)) := Lib.hid ⟨xs, ys, A, B, n, m, c, d, rfl, rfl, hx, hy, hra, hrb, hn, by omega, hV⟩
      clear hra hrb hx hy hV h hn hm
      go_wp2_with fail
      (go_meet; exact ⟨rfl, HF.out⟩)
  case rest =>
    obtain ⟨rfl, hh⟩ := hcut
    clear hra hrb hx hy hV hn hm xs ys
    obtain ⟨xs, ys, A, B, n, m, c, d, rfl, rfl, hx, hy, hra, hrb, hn, hmn, hV⟩ := hh
    have hlx := hra.len
    have hly := hrb.len
    have HRA := Lib.hid hra
    have HRB := Lib.hid hrb
    obtain ⟨i0, hi0, hz0, hz1, hzb⟩ := info_parts info_u32d
    have HXG := Lib.hid (fun i => hx.getD i)
    have HYG := Lib.hid (fun i => hy.getD i)
    have HXD := Lib.hid (fun i => valL_drop_getD xs i)
    have HYD := Lib.hid (fun i => valL_drop_getD ys i)
    have HYE := Lib.hid (fun i (h : m ≤ i) => show ys.getD i 0 = 0 by rw [List.getD_eq_getElem?_getD, List.getElem?_eq_none (by omega)]; rfl)
    have hmk : ∀ W, (Instr.makeSlice 49 (.int .i64 ((n : Int) + 1)) (.int .i64 ((n : Int) + 1))).run Tryz.prog W = .ok (.slice (some ⟨W.heap.size, 0, none⟩) (n + 1) (n + 1)) (W.alloc (.cells (intsA .u32 (List.replicate (n + 1) 0)) 62)) := fun W => run_make_ints (P := Tryz.prog) 49 62 i0 .u32 Tryz.underlying49 hi0 hz0 hz1 .i64 .i64 (n + 1) (by rw [hzb]; omega) (by omega) W
    have HS0 : Hid (NatS w w.heap.size (List.replicate (n + 1) 0) (w.alloc (.cells (intsA .u32 (List.replicate (n + 1) 0)) 62))) := Lib.hid ⟨Blk.new _ _ _, Nat.le_refl _, (Below.refl _ _).alloc (Nat.le_refl _) _⟩
    have HST : Hid (valL (List.replicate (n + 1) 0) + 4294967296 ^ 0 * (0 + valL (xs.drop 0) + valL (ys.drop 0)) = V) := Lib.hid (by rw [valL_rep, List.drop_zero, List.drop_zero, Nat.pow_zero]; omega)
    have HEND : Hid (valL (xs.drop n) = 0 ∧ valL (ys.drop n) = 0) := Lib.hid ⟨by rw [List.drop_eq_nil_of_le (by omega)]; rfl, by rw [List.drop_eq_nil_of_le (by omega)]; rfl⟩
    have nI : (n : Int) ≤ 100000 := by omega
    have mI : (m : Int) ≤ (n : Int) := by omega
    clear hra hrb hx hy hlx hly hi0 hz0 hz1 hzb hV
    go_wp2
    clear hmk
    obtain ⟨g, hg⟩ : ∃ g, w.heap.size = g := ⟨_, rfl⟩
    have HS1 : Hid (NatS w g (List.replicate (n + 1) 0) (w.alloc (.cells (intsA .u32 (List.replicate (n + 1) 0)) 62))) := by rw [← hg]; exact HS0
    rw [hg]
    clear hg HS0
    obtain ⟨w1, hw1⟩ : ∃ w1, w.alloc (.cells (intsA .u32 (List.replicate (n + 1) 0)) 62) = w1 := ⟨_, rfl⟩
    rw [hw1] at HS1
    rw [hw1]
    clear hw1
    go_loopw [6, 23] (fun cc ii wr => ∃ (i r : Nat) (out : List Int), i ≤ n ∧ r ≤ 1 ∧ cc = .int .u64 (r : Int) ∧ ii = .int .i64 (i : Int) ∧ out.length = n + 1 ∧ Lim out ∧ (∀ t, i ≤ t → out.getD t 0 = 0) ∧ valL out + 4294967296 ^ i * (r + valL (xs.drop i) + valL (ys.drop i)) = V ∧ NatS w g out wr) (fun _ ii _ => n - (intOf ii).toNat)
    case atStart => exact ⟨0, 0, _, by omega, by omega, rfl, rfl, List.length_replicate, Lim.rep _, fun t _ => getD_rep0 _ t, HST.out, HS1.out⟩
    case round =>
      clear HST HS1
      obtain ⟨i, r, out, hi, hr1, rfl, rfl, hol, hlo, hzr, hval, hns⟩ := hrel
      have HNS := Lib.hid hns
      by_cases hin : i < n
      · obtain ⟨b1, o1, rfl, _, hc1⟩ := (HRA.out.below hns.bel).at_ (by omega)
        have hk1 := hc1 i hin
        have hxi := HXG.out i
        have hyi := HYG.out i
        rw [HXD.out i, HYD.out i] at hval
        have hye := HYE.out i
        obtain ⟨x, hxx⟩ : ∃ x, xs.getD i 0 = x := ⟨_, rfl⟩
        obtain ⟨y, hyy⟩ : ∃ x, ys.getD i 0 = x := ⟨_, rfl⟩
        rw [hxx] at hxi hval hk1
        rw [hyy] at hyi hval hye
        obtain ⟨s, hs⟩ : ∃ s : Nat, s = x.toNat + y.toNat + r := ⟨_, rfl⟩
        obtain ⟨p, hp⟩ : ∃ p, s % 4294967296 = p := ⟨_, rfl⟩
        obtain ⟨q, hq⟩ : ∃ p, s / 4294967296 = p := ⟨_, rfl⟩
        have hpq : p + 4294967296 * q = s := by omega
        have hset := valL_set out i (p : Int) (by omega)
        rw [hzr i (Nat.le_refl _), Int.toNat_natCast] at hset
        have hnew := carry_step (4294967296 ^ i) p q r x.toNat y.toNat (valL (xs.drop (i + 1))) (valL (ys.drop (i + 1))) (by omega)
        have HV2 : Hid (valL (out.set i (p : Int)) + 4294967296 ^ (i + 1) * (q + valL (xs.drop (i + 1)) + valL (ys.drop (i + 1))) = V) := Lib.hid (by
          rw [Nat.pow_succ]
          have h0 : 4294967296 ^ i * (0 : Int).toNat = 0 := Nat.mul_zero _
          rw [h0] at hset
          omega)
        have HL2 : Hid ((out.set i (p : Int)).length = n + 1) := Lib.hid (by rw [List.length_set]; exact hol)
        have HM2 := Lib.hid (hlo.set i (x := (p : Int)) ⟨by omega, by omega⟩)
        have HZ2 := Lib.hid (set_past (p : Int) hzr)
        have HQ1 : Hid (q ≤ 1) := Lib.hid (by omega)
        have HI1 : Hid (i + 1 ≤ n) := Lib.hid (by omega)
        have HJS := Lib.hid (nat_lt (out := out) (j := i) (by omega))
        have i1 : (i : Int) < (n : Int) := by omega
        obtain ⟨x0, x1⟩ := hxi
        have f1 : IntKind.u64.wrap x = x := by rw [IntKind.wrap_u64]; omega
        have hq1 : (q : Int) ≤ 1 := by omega
        have hp1 : (p : Int) < 4294967296 := by omega
        have hpw : IntKind.u32.wrap (s : Int) = (p : Int) := by rw [IntKind.wrap_u32]; omega
        have hqd : (s : Int) / 4294967296 = (q : Int) := by omega
        have hqw : IntKind.u64.wrap (q : Int) = (q : Int) := by rw [IntKind.wrap_u64]; omega
        by_cases him : i < m
        · obtain ⟨b2, o2, rfl, _, hc2⟩ := (HRB.out.below hns.bel).at_ (by omega)
          have hk2 := hc2 i him
          rw [hyy] at hk2
          obtain ⟨y0, y1⟩ := hyi
          have f2 : IntKind.u64.wrap y = y := by rw [IntKind.wrap_u64]; omega
          have f3 : IntKind.u64.wrap (x + (r : Int)) = x + (r : Int) := by rw [IntKind.wrap_u64]; omega
          have f4 : x + (r : Int) + y = (s : Int) := by omega
          have f5 : IntKind.u64.wrap (s : Int) = (s : Int) := by rw [IntKind.wrap_u64]; omega
          have i2 : (i : Int) < (m : Int) := by omega
          clear hns hol hlo hzr hval hc1 hc2 hxx hyy hye hs hp hq hpq hset hnew hi hin him
          go_wp2_with (first
            | (with_reducible refine at_any ?_; refine at_store 49 rfl ?_; refine wpList_store_cell rfl 62 (.tmp 49) (.tmp 46) rfl g i rfl 62 (intsA .u32 out) (NatS.blk HNS.out) (.int .u32 (p : Int)) rfl HJS.out size_u32s rfl rfl ?_; intro w90 hk90 ho90; have HF9 := Lib.hid (NatS.set HNS.out hk90.out ho90); clear hk90 ho90))
          go_roundw
          case rel => exact ⟨i + 1, q, _, HI1.out, HQ1.out, rfl, by go_num, HL2.out, HM2.out, HZ2.out, HV2.out, HF9.out⟩
          case measure => have := HI1.out; simp [intOf]; omega
        · have hy0 : y = 0 := hye (by omega)
          subst hy0
          have f3 : x + (r : Int) = (s : Int) := by rw [hs]; have : (0 : Int).toNat = 0 := rfl; omega
          have f5 : IntKind.u64.wrap (s : Int) = (s : Int) := by rw [IntKind.wrap_u64]; omega
          have i2 : ¬ (i : Int) < (m : Int) := by omega
          clear hns hol hlo hzr hval hc1 hxx hyy hye hs hp hq hpq hset hnew hi hin him
          go_wp2_with (first
            | (with_reducible refine at_any ?_; refine at_store 49 rfl ?_; refine wpList_store_cell rfl 62 (.tmp 49) (.tmp 46) rfl g i rfl 62 (intsA .u32 out) (NatS.blk HNS.out) (.int .u32 (p : Int)) rfl HJS.out size_u32s rfl rfl ?_; intro w90 hk90 ho90; have HF9 := Lib.hid (NatS.set HNS.out hk90.out ho90); clear hk90 ho90))
          go_roundw
          case rel => exact ⟨i + 1, q, _, HI1.out, HQ1.out, rfl, by go_num, HL2.out, HM2.out, HZ2.out, HV2.out, HF9.out⟩
          case measure => have := HI1.out; simp [intOf]; omega
      · obtain rfl : i = n := by omega
        obtain ⟨e1, e2⟩ := HEND.out
        rw [e1, e2] at hval
        have hset := valL_set out i (r : Int) (by omega)
        rw [hzr i (Nat.le_refl _), Int.toNat_natCast] at hset
        have hfin : valL (out.set i (r : Int)) = V := by
          have h0 : 4294967296 ^ i * (0 : Int).toNat = 0 := Nat.mul_zero _
          rw [h0] at hset
          have hv2 : valL out + 4294967296 ^ i * r = V := hval
          clear hval
          generalize 4294967296 ^ i * r = Y at *
          omega
        have hlo2 := hlo.set i (x := (r : Int)) ⟨by omega, by omega⟩
        have hol2 : (out.set i (r : Int)).length = i + 1 := by rw [List.length_set]; exact hol
        have htr := fun W h => q10trim_c (out.set i (r : Int)) (some ⟨g, 0, none⟩) (i + 1) (i + 1) (by unfold maxLen; omega) (Nat.le_refl _) W h
        have hrt := fun W (h : Rd .u32 W W.heap.size (some ⟨g, 0, none⟩) (i + 1) (out.set i (r : Int))) => rd_trim h
        have htl := trimL_len (out.set i (r : Int))
        rw [trimL_eq hlo2, hfin] at htr hrt htl
        rw [hol2] at htl
        have HTR := Lib.hid htr
        have HRT := Lib.hid hrt
        have HTL := Lib.hid htl
        have HML : Hid (i + 1 ≤ maxLen) := Lib.hid (by unfold maxLen; omega)
        have HJS := Lib.hid (nat_lt (out := out) (j := i) (by omega))
        have HOL := Lib.hid hol2
        have i1 : (i : Int) < (i : Int) + 1 := by omega
        have hrw : IntKind.u32.wrap (r : Int) = (r : Int) := by rw [IntKind.wrap_u32]; omega
        clear hns hol hlo hzr hval hset hfin hlo2 hol2 htr hrt htl hi hin e1 e2
        go_wp2_with (first
          | (with_reducible refine at_any ?_; refine at_store 56 rfl ?_; refine wpList_store_cell rfl 62 (.tmp 56) (.tmp 55) rfl g i rfl 62 (intsA .u32 out) (NatS.blk HNS.out) (.int .u32 (r : Int)) rfl HJS.out size_u32s rfl rfl ?_; intro w90 hk90 ho90; have HF9 := Lib.hid (NatS.set HNS.out hk90.out ho90); have HR9 : Hid (Rd .u32 w90 w90.heap.size (some ⟨g, 0, none⟩) (i + 1) (out.set i (r : Int))) := Lib.hid (by have h := NatS.rd HF9.out; rw [HOL.out] at h; exact h); clear hk90 ho90)
          | (go_at_call 89; (with_reducible refine (HTR.out _ HR9.out).mono ?_); rintro e _ ⟨rfl, rfl⟩))
        go_ret
        exact ⟨_, _, rfl, HTL.out, HML.out, HRT.out _ HR9.out, HF9.out.bel⟩
end
section
open Go.ChangeShapes Go.WideShapes Go.ChangeAt Go.RowKit
set_option maxHeartbeats 8000000 in
theorem q10times_c (xs ys : List Int) (hx : Lim xs) (hy : Lim ys) (A B : Option Addr) (n m c d : Nat) (hn : n ≤ 100000) (hm : m ≤ 100000) (w : World) (hra : Rd .u32 w w.heap.size A n xs) (hrb : Rd .u32 w w.heap.size B m ys) : Calls Tryz.prog 91 #[.slice A n c, .slice B m d] w (RetN w (natL (valL xs * valL ys))) := by
  have hlx := hra.len
  have hly := hrb.len
  have HRA := Lib.hid hra
  have HRB := Lib.hid hrb
  obtain ⟨i0, hi0, hz0, hz1, hzb⟩ := info_parts info_u32d
  have HXG := Lib.hid (fun i => hx.getD i)
  have HYG := Lib.hid (fun i => hy.getD i)
  have HYD := Lib.hid (fun i => valL_drop_getD ys i)
  have HXT := Lib.hid (fun i (h : i < n) => valL_take_succ xs i (by omega))
  have HDY := Lib.hid (show valL (ys.drop m) = 0 by rw [List.drop_eq_nil_of_le (by omega)]; rfl)
  have hyl := valL_lt hy
  have hxl := fun i => valL_lt (hx.take i)
  rw [hly] at hyl
  have HYL := Lib.hid hyl
  have HXL := Lib.hid hxl
  obtain ⟨L, hL⟩ : ∃ L, n + m = L := ⟨_, rfl⟩
  have hLI : (n : Int) + (m : Int) = (L : Int) := by omega
  have hL2 : (L : Int) ≤ 200000 := by omega
  have hmk : ∀ W, (Instr.makeSlice 49 (.int .i64 (L : Int)) (.int .i64 (L : Int))).run Tryz.prog W = .ok (.slice (some ⟨W.heap.size, 0, none⟩) L L) (W.alloc (.cells (intsA .u32 (List.replicate L 0)) 62)) := fun W => run_make_ints (P := Tryz.prog) 49 62 i0 .u32 Tryz.underlying49 hi0 hz0 hz1 .i64 .i64 L (by rw [hzb]; omega) (by omega) W
  have HS0 : Hid (NatS w w.heap.size (List.replicate L 0) (w.alloc (.cells (intsA .u32 (List.replicate L 0)) 62))) := Lib.hid ⟨Blk.new _ _ _, Nat.le_refl _, (Below.refl _ _).alloc (Nat.le_refl _) _⟩
  have hst : valL (List.replicate L 0) = valL (xs.take 0) * valL ys := by rw [valL_rep, List.take_zero]; show 0 = 0 * _; omega
  have HST := Lib.hid hst
  have htk : xs.take n = xs := by rw [← hlx, List.take_length]
  have HTK := Lib.hid htk
  obtain ⟨Y, hY⟩ : ∃ Y, valL ys = Y := ⟨_, rfl⟩
  rw [hY] at HYL HST ⊢
  have hY0 : valL (ys.drop 0) = Y := by rw [List.drop_zero]; exact hY
  have HY0 := Lib.hid hY0
  have nI : (n : Int) ≤ 100000 := by omega
  have mI : (m : Int) ≤ 100000 := by omega
  have HNM : Hid (n + m = L) := Lib.hid hL
  clear hra hrb hx hy hst hly hyl hxl hY hY0 hlx hi0 hz0 hz1 hzb htk
  go_enter Tryz.func91, Tryz.ntmps91
  go_wp2
  clear hmk hLI
  obtain ⟨g, hg⟩ : ∃ g, w.heap.size = g := ⟨_, rfl⟩
  have HS1 : Hid (NatS w g (List.replicate L 0) (w.alloc (.cells (intsA .u32 (List.replicate L 0)) 62))) := by rw [← hg]; exact HS0
  rw [hg]
  clear hg HS0
  obtain ⟨w1, hw1⟩ : ∃ w1, w.alloc (.cells (intsA .u32 (List.replicate L 0)) 62) = w1 := ⟨_, rfl⟩
  rw [hw1] at HS1
  rw [hw1]
  clear hw1
  go_loopw [20] (fun ii wr => ∃ (i : Nat) (out : List Int), i ≤ n ∧ ii = .int .i64 (i : Int) ∧ out.length = L ∧ Lim out ∧ valL out = valL (xs.take i) * Y ∧ NatS w g out wr) (fun ii _ => n - (intOf ii).toNat)
  case atStart => exact ⟨0, _, by omega, rfl, List.length_replicate, Lim.rep _, HST.out, HS1.out⟩
  case round =>
    clear HST HS1
    obtain ⟨i, out0, hi, rfl, hol, hlo, hval, hns⟩ := hrel
    by_cases hin : i < n
    · have HNS := Lib.hid hns
      have hxi := HXG.out i
      have hxt := HXT.out i hin
      obtain ⟨b, off, rfl, hblt, hxc⟩ := (HRA.out.below hns.bel).at_ (by omega)
      have hxci := hxc i hin
      obtain ⟨x, hxx⟩ : ∃ x, xs.getD i 0 = x := ⟨_, rfl⟩
      rw [hxx] at hxi hxci hxt
      have hzt : out0.getD (i + m) 0 = 0 := limb_zero hlo (by
        rw [hval, Nat.pow_add]
        have h1 := HXL.out i
        have h2 := HYL.out
        have h3 : (xs.take i).length = i := by rw [List.length_take, HRA.out.len]; omega
        rw [h3] at h1
        exact Nat.mul_lt_mul'' h1 h2)
      obtain ⟨V, hV⟩ : ∃ V, valL out0 + 4294967296 ^ i * (0 + x.toNat * Y) = V := ⟨_, rfl⟩
      have HST : Hid (valL out0 + 4294967296 ^ (i + 0) * (0 + x.toNat * valL (ys.drop 0)) = V) := Lib.hid (by rw [HY0.out, Nat.add_zero]; exact hV)
      have HVV : Hid (V = valL (xs.take (i + 1)) * Y) := Lib.hid (by
        rw [← hV, hval, hxt, Nat.zero_add, Nat.add_mul, Nat.mul_assoc])
      have HZT := Lib.hid hzt
      have HOL := Lib.hid hol
      have HLO := Lib.hid hlo
      have hiI : (i : Int) < (n : Int) := by omega
      have HI1 : Hid (i + 1 ≤ n) := Lib.hid (by omega)
      obtain ⟨x0, x1⟩ := hxi
      have HXB : Hid (x.toNat < 4294967296) := Lib.hid (by omega)
      have HXN := Lib.hid (Int.toNat_of_nonneg x0)
      have hxw : IntKind.u64.wrap x = x := by rw [IntKind.wrap_u64]; omega
      clear hns hol hlo hval hxt hxc hxx hzt hV hblt hi
      go_wp2
      obtain ⟨wo, hwo⟩ : ∃ wo : World, wo = wr := ⟨_, rfl⟩
      rw [← hwo] at HNS
      rw [← hwo]
      clear hwo hxci wr
      go_loopw [8, 27] (fun cc kk wr => ∃ (k r : Nat) (out : List Int), k ≤ m ∧ r < 4294967296 ∧ cc = .int .u64 (r : Int) ∧ kk = .int .i64 (k : Int) ∧ out.length = L ∧ Lim out ∧ valL out + 4294967296 ^ (i + k) * (r + x.toNat * valL (ys.drop k)) = V ∧ out.getD (i + m) 0 = 0 ∧ NatS w g out wr) (fun _ kk _ => m - (intOf kk).toNat)
      case atStart => exact ⟨0, 0, out0, by omega, by omega, rfl, rfl, HOL.out, HLO.out, HST.out, HZT.out, HNS.out⟩
      case round =>
        clear HST HNS HOL HLO HZT
        obtain ⟨k, r, out, hk, hr1, rfl, rfl, hol, hlo, hval, hzt, hns⟩ := hrel
        by_cases hkm : k < m
        · have hyi := HYG.out k
          obtain ⟨b2, off2, rfl, _, hyc⟩ := (HRB.out.below hns.bel).at_ (by omega)
          have hyci := hyc k hkm
          rw [HYD.out k] at hval
          obtain ⟨y, hyy⟩ : ∃ x, ys.getD k 0 = x := ⟨_, rfl⟩
          rw [hyy] at hyi hyci hval
          obtain ⟨j, hj⟩ : ∃ j, i + k = j := ⟨_, rfl⟩
          have hjL : j < L := by have := HI1.out; have := HNM.out; omega
          have hoi := hlo.getD j
          obtain ⟨o, hoo⟩ : ∃ o, out.getD j 0 = o := ⟨_, rfl⟩
          have hoc := hns.at_ (j := j) (by omega)
          rw [hoo] at hoi hoc
          have hxb := mul_bound HXB.out (show y.toNat < 4294967296 by omega)
          obtain ⟨t, ht⟩ : ∃ t, x.toNat * y.toNat = t := ⟨_, rfl⟩
          have htI : x * y = (t : Int) := by
            rw [← ht, Int.natCast_mul, HXN.out, Int.toNat_of_nonneg hyi.1]
          rw [ht] at hxb
          obtain ⟨s, hs⟩ : ∃ s : Nat, s = o.toNat + t + r := ⟨_, rfl⟩
          have hsb : s < 18446744073709551616 := by omega
          obtain ⟨p, hp⟩ : ∃ p, s % 4294967296 = p := ⟨_, rfl⟩
          obtain ⟨q, hq⟩ : ∃ p, s / 4294967296 = p := ⟨_, rfl⟩
          have hpq : p + 4294967296 * q = s := by omega
          have hset := valL_set out j (p : Int) (by omega)
          rw [hoo, Int.toNat_natCast] at hset
          rw [hj] at hval
          have hnew := mul_step (4294967296 ^ j) p q r o.toNat x.toNat y.toNat (valL (ys.drop (k + 1))) (valL out) (valL (out.set j (p : Int))) V (by rw [ht]; omega) hset hval
          have HV2 : Hid (valL (out.set j (p : Int)) + 4294967296 ^ (i + (k + 1)) * (q + x.toNat * valL (ys.drop (k + 1))) = V) := Lib.hid (by rw [← Nat.add_assoc, hj, Nat.pow_succ]; exact hnew)
          have HLM2 := Lib.hid (hlo.set j (x := (p : Int)) ⟨by omega, by omega⟩)
          have HL2 : Hid ((out.set j (p : Int)).length = L) := Lib.hid (by rw [List.length_set]; exact hol)
          have HK2 : Hid (k + 1 ≤ m) := Lib.hid (by omega)
          have HQ1 : Hid (q < 4294967296) := Lib.hid (by omega)
          have HZ2 : Hid ((out.set j (p : Int)).getD (i + m) 0 = 0) := Lib.hid (by
            rw [List.getD_eq_getElem?_getD] at hzt ⊢
            rw [List.getElem?_set_ne (by omega)]
            exact hzt)
          have f0 : (i : Int) + (k : Int) = (j : Int) := by omega
          have f1 : IntKind.i64.wrap (j : Int) = (j : Int) := by rw [IntKind.wrap_i64]; omega
          have f2 : (j : Int) < (L : Int) := by omega
          have f3 : IntKind.u64.wrap o = o := by rw [IntKind.wrap_u64]; omega
          have f4 : IntKind.u64.wrap y = y := by rw [IntKind.wrap_u64]; omega
          have f5 : IntKind.u64.wrap (t : Int) = (t : Int) := by rw [IntKind.wrap_u64]; omega
          obtain ⟨u, hu⟩ : ∃ u : Int, (t : Int) + o = u := ⟨_, rfl⟩
          have f6 : IntKind.u64.wrap u = u := by rw [IntKind.wrap_u64]; omega
          have f7 : u + (r : Int) = (s : Int) := by omega
          have f8 : IntKind.u64.wrap (s : Int) = (s : Int) := by rw [IntKind.wrap_u64]; omega
          have f9 : IntKind.u32.wrap (s : Int) = (p : Int) := by rw [IntKind.wrap_u32]; omega
          have f10 : (s : Int) / 4294967296 = (q : Int) := by omega
          have f11 : IntKind.u64.wrap (q : Int) = (q : Int) := by rw [IntKind.wrap_u64]; omega
          have k1 : (k : Int) < (m : Int) := by omega
          have HJS := Lib.hid (nat_lt (out := out) (j := j) (by omega))
          have HNS := Lib.hid hns
          obtain ⟨y0, y1⟩ := hyi
          clear hns hol hlo hval hzt hyc hyy hj hjL hoi hoo hxb ht hs hsb hp hq hpq hset hnew hk hkm hr1
          go_wp2_with (first
            | (with_reducible refine at_any ?_; refine at_store 55 rfl ?_; refine wpList_store_cell rfl 62 (.tmp 55) (.tmp 52) rfl g j rfl 62 (intsA .u32 out) (NatS.blk HNS.out) (.int .u32 (p : Int)) rfl HJS.out size_u32s rfl rfl ?_; intro w90 hk90 ho90; have HF9 := Lib.hid (NatS.set HNS.out hk90.out ho90); clear hk90 ho90))
          go_roundw
          case rel => exact ⟨k + 1, q, _, HK2.out, HQ1.out, rfl, by go_num, HL2.out, HLM2.out, HV2.out, HZ2.out, HF9.out⟩
          case measure => have := HK2.out; simp [intOf]; omega
        · obtain rfl : k = m := by omega
          obtain ⟨j, hj⟩ : ∃ j, i + k = j := ⟨_, rfl⟩
          rw [hj, HDY.out, Nat.mul_zero, Nat.add_zero] at hval
          rw [hj] at hzt
          have hjL : j < L := by have := HI1.out; have := HNM.out; omega
          have hset := valL_set out j (r : Int) (by omega)
          rw [hzt, Int.toNat_natCast] at hset
          have hfin : valL (out.set j (r : Int)) = V := by
            have h0 : 4294967296 ^ j * (0 : Int).toNat = 0 := Nat.mul_zero _
            rw [h0] at hset
            omega
          have HVT := Lib.hid (hfin.trans HVV.out)
          have HLM2 := Lib.hid (hlo.set j (x := (r : Int)) ⟨by omega, by omega⟩)
          have HL2 : Hid ((out.set j (r : Int)).length = L) := Lib.hid (by rw [List.length_set]; exact hol)
          have f0 : (i : Int) + (k : Int) = (j : Int) := by omega
          have f1 : IntKind.i64.wrap (j : Int) = (j : Int) := by rw [IntKind.wrap_i64]; omega
          have f2 : (j : Int) < (L : Int) := by omega
          have f3 : IntKind.u32.wrap (r : Int) = (r : Int) := by rw [IntKind.wrap_u32]; omega
          have HJS := Lib.hid (nat_lt (out := out) (j := j) (by omega))
          have HNS := Lib.hid hns
          clear hk hr1 hol hlo hval hzt hns hkm hset hfin hj hjL
          go_wp2_with (first
            | (with_reducible refine at_any ?_; refine at_store 64 rfl ?_; refine wpList_store_cell rfl 62 (.tmp 64) (.tmp 63) rfl g j rfl 62 (intsA .u32 out) (NatS.blk HNS.out) (.int .u32 (r : Int)) rfl HJS.out size_u32s rfl rfl ?_; intro w90 hk90 ho90; have HF9 := Lib.hid (NatS.set HNS.out hk90.out ho90); clear hk90 ho90))
          go_roundw
          case rel => exact ⟨i + 1, _, HI1.out, by go_num, HL2.out, HLM2.out, HVT.out, HF9.out⟩
          case measure => have := HI1.out; simp [intOf]; omega
    · obtain rfl : i = n := by omega
      rw [HTK.out] at hval
      have hrd7 := hns.rd
      have htr := q10trim_c out0 (some ⟨g, 0, none⟩) out0.length L (by unfold maxLen; omega) (by omega) wr hrd7
      have hrt := rd_trim hrd7
      have htl := trimL_len out0
      rw [trimL_eq hlo, hval] at htr hrt htl
      rw [hol] at htr htl
      have HTR := Lib.hid htr
      have HRT := Lib.hid hrt
      have HTL := Lib.hid htl
      have HBL := Lib.hid hns.bel
      have HML : Hid (L ≤ maxLen) := Lib.hid (by unfold maxLen; omega)
      clear htr hrt htl hrd7 hval hlo hol hns
      go_wp2_with (first
        | (go_at_call 89; (with_reducible refine HTR.out.mono ?_); rintro e _ ⟨rfl, rfl⟩))
      go_ret
      exact ⟨_, _, rfl, HTL.out, HML.out, HRT.out, HBL.out⟩
end
section
open Go.ChangeShapes Go.WideShapes Go.ChangeAt Go.RowKit
set_option maxHeartbeats 4000000 in
theorem q10foldP_c (s0 : Nat) (hs0 : (natL s0).length ≤ 256) (A0 : Option Addr) (c0 : Nat) (hc0 : (natL s0).length ≤ c0) (hm0 : c0 ≤ maxLen) (rs : List NRow) (A : Option Addr) (n c : Nat) (hn : n ≤ 100000) (w : World) (hr0 : Rd .u32 w w.heap.size A0 (natL s0).length (natL s0)) (hrd : RdNs w w.heap.size A n rs) : Calls Tryz.prog 90 #[.func (.func 92) #[] #[], .slice A0 (natL s0).length c0, .slice A n c] w (RetNE w (if allN rs = true then addGo s0 rs else (1, []))) := by
  have HR := Lib.hid hrd
  have hnI : (n : Int) ≤ 100000 := by omega
  have HE := Lib.hid (drop_end hrd.1)
  have HR0 := Lib.hid hr0
  have HP0 := Lib.hid (And.intro hs0 (And.intro hc0 hm0))
  obtain ⟨N0, hN0⟩ : ∃ N, (natL s0).length = N := ⟨_, rfl⟩
  have HN0 := Lib.hid hN0
  rw [hN0]
  obtain ⟨R, hR⟩ : ∃ R, (if allN rs = true then addGo s0 rs else (1, [])) = R := ⟨_, rfl⟩
  have HRES := Lib.hid hR
  rw [hR]
  clear hrd hr0 hs0 hc0 hm0 hN0 hR
  go_enter Tryz.func90, Tryz.ntmps90
  go_wp2
  go_loopw [15] (fun ii wr => ∃ k : Nat, k ≤ n ∧ ii = .int .i64 (k : Int) ∧ allN (rs.drop k) = allN rs ∧ w = wr) (fun ii _ => n - (intOf ii).toNat)
  case atStart => exact ⟨0, by omega, rfl, by rw [List.drop_zero], by first | rfl | trivial⟩
  case round =>
    obtain ⟨k, hk, rfl, hall, rfl⟩ := hrel
    by_cases hlt : k < n
    · obtain ⟨r, b, off, hr, rfl, hcell, hrr, hrc, hrm, hrl, hdr⟩ := HR.out.row hlt
      have hst := allN_step hdr
      rw [hall] at hst
      have hrt := fun W h => q10right_c r.zs r.A r.n r.c (by omega) W h
      have h3 : (k : Int) < (n : Int) := by omega
      obtain ⟨RA, hRA⟩ : ∃ x, r.A = x := ⟨_, rfl⟩
      obtain ⟨Rn, hRn⟩ : ∃ x, r.n = x := ⟨_, rfl⟩
      obtain ⟨Rc, hRc⟩ : ∃ x, r.c = x := ⟨_, rfl⟩
      rw [hRA, hRn, hRc] at hcell
      rw [hRA, hRn] at hrr
      rw [hRA, hRn, hRc] at hrt
      have HRR := Lib.hid hrr
      cases hok : rightN r.zs with
      | true =>
        rw [hok] at hrt hst
        rw [Bool.true_and] at hst
        have HRT := Lib.hid hrt
        have HST := Lib.hid hst.symm
        clear hrt hst hall hr hrr hrc hrm hrl hdr hok hRA hRn hRc
        go_wp2_with (first
          | (go_at_call 102; (with_reducible refine (HRT.out _ HRR.out).mono ?_); rintro e _ ⟨rfl, rfl⟩))
        go_roundw
        case rel => exact ⟨k + 1, by omega, by go_num, HST.out, by first | rfl | trivial⟩
        case measure => simp [intOf]; omega
      | false =>
        rw [hok] at hrt hst
        rw [Bool.false_and] at hst
        have HRT := Lib.hid hrt
        have HST := Lib.hid hst
        clear hrt hst hall hr hrr hrc hrm hrl hdr hok hRA hRn hRc
        go_wp2_with (first
          | (go_at_call 102; (with_reducible refine (HRT.out _ HRR.out).mono ?_); rintro e _ ⟨rfl, rfl⟩))
        go_ret2
        rw [← HRES.out, if_neg (by rw [HST.out]; decide)]
        exact RetNE.nil 1 (Below.refl _ _)
    · obtain rfl : k = n := by omega
      rw [HE.out] at hall
      have hok : allN rs = true := hall.symm
      have HOK := Lib.hid hok
      have HM := Lib.hid (fun r hr => rightN_len (allN_mem hok (r := r) hr))
      clear hall hok
      go_wp2
      go_loopw [10, 26] (fun v ii wr => ∃ (j s : Nat) (A' : Option Addr) (c' : Nat), j ≤ k ∧ ii = .int .i64 (j : Int) ∧ v = .slice A' (natL s).length c' ∧ (natL s).length ≤ 256 ∧ (natL s).length ≤ c' ∧ c' ≤ maxLen ∧ Rd .u32 wr wr.heap.size A' (natL s).length (natL s) ∧ addGo s (rs.drop j) = addGo s0 rs ∧ Below w.heap.size w wr) (fun _ ii _ => k - (intOf ii).toNat)
      case atStart => exact ⟨0, s0, A0, c0, by omega, rfl, by rw [HN0.out], HP0.out.1, HP0.out.2.1, HP0.out.2.2, HR0.out, by rw [List.drop_zero], Below.refl _ _⟩
      case round =>
        obtain ⟨j, s, A', c', hj, rfl, rfl, hl, hlc, hcm, hrs, hgo, hbl⟩ := hrel
        by_cases hlt : j < k
        · obtain ⟨r, b, off, hr, hA, hcell, hrr, hrc, hrm, hrl, hdr⟩ := (HR.out.to hbl).row hlt
          have hst := addGo_step (s := s) hdr
          rw [hgo] at hst
          have hrlen : r.n ≤ 256 := by rw [← hrr.len]; exact HM.out r (List.mem_of_getElem? hr)
          have hsum := fun W h h' => q10plus_c (natL s) r.zs (natL_lim s) hrl A' r.A (natL s).length r.n c' r.c (by omega) (by omega) W h h'
          rw [natL_val] at hsum
          have h3 : (j : Int) < (k : Int) := by omega
          obtain ⟨S, hS⟩ : ∃ S, s + valL r.zs = S := ⟨_, rfl⟩
          rw [hS] at hst hsum
          obtain ⟨RA, hRA⟩ : ∃ x, r.A = x := ⟨_, rfl⟩
          obtain ⟨Rn, hRn⟩ : ∃ x, r.n = x := ⟨_, rfl⟩
          obtain ⟨Rc, hRc⟩ : ∃ x, r.c = x := ⟨_, rfl⟩
          rw [hRA, hRn, hRc] at hcell hsum
          rw [hRA, hRn] at hrr
          have HRR := Lib.hid hrr
          have HRS := Lib.hid hrs
          have HBL := Lib.hid hbl
          have HST := Lib.hid hst
          have HSUM := Lib.hid hsum
          have HJ1 : Hid (j + 1 ≤ k) := Lib.hid (by omega)
          subst hA
          clear hst hsum hgo hr hrr hrs hrc hrm hrl hdr hRA hRn hRc hbl hS hl hlc hcm
          by_cases hbig : 256 < (natL S).length
          · have hgr := HST.out
            rw [if_pos hbig] at hgr
            have HG := Lib.hid hgr
            have hb2 : (256 : Int) < ((natL S).length : Int) := by omega
            obtain ⟨Z, hZ⟩ : ∃ Z, natL S = Z := ⟨_, rfl⟩
            rw [hZ] at HSUM hb2
            clear hgr hbig HST
            go_wp2_with (first
              | (go_at_call 92; (with_reducible refine (HSUM.out _ HRS.out HRR.out).mono ?_); rintro e w5 ⟨A5, c5, rfl, hl5, hm5, hr5, hb5⟩; have HB5 := Lib.hid (HBL.out.trans (hb5.mono HBL.out.size)); clear hl5 hm5 hr5 hb5))
            go_ret2
            rw [← HRES.out, if_pos HOK.out, HG.out]
            exact RetNE.nil 11 HB5.out
          · have hgr := HST.out
            rw [if_neg hbig] at hgr
            have HG := Lib.hid hgr.symm
            have HSM : Hid ((natL S).length ≤ 256) := Lib.hid (by omega)
            have hb2 : ((natL S).length : Int) ≤ 256 := by omega
            obtain ⟨Z, hZ⟩ : ∃ Z, natL S = Z := ⟨_, rfl⟩
            have HZ := Lib.hid hZ
            rw [hZ] at HSUM hb2 HSM
            clear hgr hbig HST hZ
            go_wp2_with (first
              | (go_at_call 92; (with_reducible refine (HSUM.out _ HRS.out HRR.out).mono ?_); rintro e w5 ⟨A5, c5, rfl, hl5, hm5, hr5, hb5⟩; have HB5 := Lib.hid (HBL.out.trans (hb5.mono HBL.out.size)); have HL5 := Lib.hid hl5; have HM5 := Lib.hid hm5; have HR5 := Lib.hid hr5; clear hl5 hm5 hr5 hb5))
            go_roundw
            case rel => exact ⟨j + 1, S, A5, c5, HJ1.out, by go_num, by rw [HZ.out], by rw [HZ.out]; exact HSM.out, by rw [HZ.out]; exact HL5.out, HM5.out, by rw [HZ.out]; exact HR5.out, HG.out, HB5.out⟩
            case measure => have := HJ1.out; simp [intOf]; omega
        · obtain rfl : j = k := by omega
          rw [HE.out] at hgo
          have HG := Lib.hid (show (0, natL s) = addGo s0 rs from hgo)
          have HL := Lib.hid hlc
          have HM5 := Lib.hid hcm
          have HR5 := Lib.hid hrs
          have HB5 := Lib.hid hbl
          obtain ⟨Z, hZ⟩ : ∃ Z, natL s = Z := ⟨_, rfl⟩
          rw [hZ] at HG HL HR5 ⊢
          clear hgo hlc hcm hrs hbl hZ hl
          go_wp2
          go_ret2
          rw [← HRES.out, if_pos HOK.out, ← HG.out]
          exact ⟨_, _, rfl, HL.out, HM5.out, HR5.out, HB5.out⟩
set_option maxHeartbeats 4000000 in
theorem q10foldT_c (s0 : Nat) (hs0 : (natL s0).length ≤ 256) (A0 : Option Addr) (c0 : Nat) (hc0 : (natL s0).length ≤ c0) (hm0 : c0 ≤ maxLen) (rs : List NRow) (A : Option Addr) (n c : Nat) (hn : n ≤ 100000) (w : World) (hr0 : Rd .u32 w w.heap.size A0 (natL s0).length (natL s0)) (hrd : RdNs w w.heap.size A n rs) : Calls Tryz.prog 90 #[.func (.func 91) #[] #[], .slice A0 (natL s0).length c0, .slice A n c] w (RetNE w (if allN rs = true then mulGo s0 rs else (1, []))) := by
  have HR := Lib.hid hrd
  have hnI : (n : Int) ≤ 100000 := by omega
  have HE := Lib.hid (drop_end hrd.1)
  have HR0 := Lib.hid hr0
  have HP0 := Lib.hid (And.intro hs0 (And.intro hc0 hm0))
  obtain ⟨N0, hN0⟩ : ∃ N, (natL s0).length = N := ⟨_, rfl⟩
  have HN0 := Lib.hid hN0
  rw [hN0]
  obtain ⟨R, hR⟩ : ∃ R, (if allN rs = true then mulGo s0 rs else (1, [])) = R := ⟨_, rfl⟩
  have HRES := Lib.hid hR
  rw [hR]
  clear hrd hr0 hs0 hc0 hm0 hN0 hR
  go_enter Tryz.func90, Tryz.ntmps90
  go_wp2
  go_loopw [15] (fun ii wr => ∃ k : Nat, k ≤ n ∧ ii = .int .i64 (k : Int) ∧ allN (rs.drop k) = allN rs ∧ w = wr) (fun ii _ => n - (intOf ii).toNat)
  case atStart => exact ⟨0, by omega, rfl, by rw [List.drop_zero], by first | rfl | trivial⟩
  case round =>
    obtain ⟨k, hk, rfl, hall, rfl⟩ := hrel
    by_cases hlt : k < n
    · obtain ⟨r, b, off, hr, rfl, hcell, hrr, hrc, hrm, hrl, hdr⟩ := HR.out.row hlt
      have hst := allN_step hdr
      rw [hall] at hst
      have hrt := fun W h => q10right_c r.zs r.A r.n r.c (by omega) W h
      have h3 : (k : Int) < (n : Int) := by omega
      obtain ⟨RA, hRA⟩ : ∃ x, r.A = x := ⟨_, rfl⟩
      obtain ⟨Rn, hRn⟩ : ∃ x, r.n = x := ⟨_, rfl⟩
      obtain ⟨Rc, hRc⟩ : ∃ x, r.c = x := ⟨_, rfl⟩
      rw [hRA, hRn, hRc] at hcell
      rw [hRA, hRn] at hrr
      rw [hRA, hRn, hRc] at hrt
      have HRR := Lib.hid hrr
      cases hok : rightN r.zs with
      | true =>
        rw [hok] at hrt hst
        rw [Bool.true_and] at hst
        have HRT := Lib.hid hrt
        have HST := Lib.hid hst.symm
        clear hrt hst hall hr hrr hrc hrm hrl hdr hok hRA hRn hRc
        go_wp2_with (first
          | (go_at_call 102; (with_reducible refine (HRT.out _ HRR.out).mono ?_); rintro e _ ⟨rfl, rfl⟩))
        go_roundw
        case rel => exact ⟨k + 1, by omega, by go_num, HST.out, by first | rfl | trivial⟩
        case measure => simp [intOf]; omega
      | false =>
        rw [hok] at hrt hst
        rw [Bool.false_and] at hst
        have HRT := Lib.hid hrt
        have HST := Lib.hid hst
        clear hrt hst hall hr hrr hrc hrm hrl hdr hok hRA hRn hRc
        go_wp2_with (first
          | (go_at_call 102; (with_reducible refine (HRT.out _ HRR.out).mono ?_); rintro e _ ⟨rfl, rfl⟩))
        go_ret2
        rw [← HRES.out, if_neg (by rw [HST.out]; decide)]
        exact RetNE.nil 1 (Below.refl _ _)
    · obtain rfl : k = n := by omega
      rw [HE.out] at hall
      have hok : allN rs = true := hall.symm
      have HOK := Lib.hid hok
      have HM := Lib.hid (fun r hr => rightN_len (allN_mem hok (r := r) hr))
      clear hall hok
      go_wp2
      go_loopw [10, 26] (fun v ii wr => ∃ (j s : Nat) (A' : Option Addr) (c' : Nat), j ≤ k ∧ ii = .int .i64 (j : Int) ∧ v = .slice A' (natL s).length c' ∧ (natL s).length ≤ 256 ∧ (natL s).length ≤ c' ∧ c' ≤ maxLen ∧ Rd .u32 wr wr.heap.size A' (natL s).length (natL s) ∧ mulGo s (rs.drop j) = mulGo s0 rs ∧ Below w.heap.size w wr) (fun _ ii _ => k - (intOf ii).toNat)
      case atStart => exact ⟨0, s0, A0, c0, by omega, rfl, by rw [HN0.out], HP0.out.1, HP0.out.2.1, HP0.out.2.2, HR0.out, by rw [List.drop_zero], Below.refl _ _⟩
      case round =>
        obtain ⟨j, s, A', c', hj, rfl, rfl, hl, hlc, hcm, hrs, hgo, hbl⟩ := hrel
        by_cases hlt : j < k
        · obtain ⟨r, b, off, hr, hA, hcell, hrr, hrc, hrm, hrl, hdr⟩ := (HR.out.to hbl).row hlt
          have hst := mulGo_step (s := s) hdr
          rw [hgo] at hst
          have hrlen : r.n ≤ 256 := by rw [← hrr.len]; exact HM.out r (List.mem_of_getElem? hr)
          have hsum := fun W h h' => q10times_c (natL s) r.zs (natL_lim s) hrl A' r.A (natL s).length r.n c' r.c (by omega) (by omega) W h h'
          rw [natL_val] at hsum
          have h3 : (j : Int) < (k : Int) := by omega
          obtain ⟨S, hS⟩ : ∃ S, s * valL r.zs = S := ⟨_, rfl⟩
          rw [hS] at hst hsum
          obtain ⟨RA, hRA⟩ : ∃ x, r.A = x := ⟨_, rfl⟩
          obtain ⟨Rn, hRn⟩ : ∃ x, r.n = x := ⟨_, rfl⟩
          obtain ⟨Rc, hRc⟩ : ∃ x, r.c = x := ⟨_, rfl⟩
          rw [hRA, hRn, hRc] at hcell hsum
          rw [hRA, hRn] at hrr
          have HRR := Lib.hid hrr
          have HRS := Lib.hid hrs
          have HBL := Lib.hid hbl
          have HST := Lib.hid hst
          have HSUM := Lib.hid hsum
          have HJ1 : Hid (j + 1 ≤ k) := Lib.hid (by omega)
          subst hA
          clear hst hsum hgo hr hrr hrs hrc hrm hrl hdr hRA hRn hRc hbl hS hl hlc hcm
          by_cases hbig : 256 < (natL S).length
          · have hgr := HST.out
            rw [if_pos hbig] at hgr
            have HG := Lib.hid hgr
            have hb2 : (256 : Int) < ((natL S).length : Int) := by omega
            obtain ⟨Z, hZ⟩ : ∃ Z, natL S = Z := ⟨_, rfl⟩
            rw [hZ] at HSUM hb2
            clear hgr hbig HST
            go_wp2_with (first
              | (go_at_call 91; (with_reducible refine (HSUM.out _ HRS.out HRR.out).mono ?_); rintro e w5 ⟨A5, c5, rfl, hl5, hm5, hr5, hb5⟩; have HB5 := Lib.hid (HBL.out.trans (hb5.mono HBL.out.size)); clear hl5 hm5 hr5 hb5))
            go_ret2
            rw [← HRES.out, if_pos HOK.out, HG.out]
            exact RetNE.nil 11 HB5.out
          · have hgr := HST.out
            rw [if_neg hbig] at hgr
            have HG := Lib.hid hgr.symm
            have HSM : Hid ((natL S).length ≤ 256) := Lib.hid (by omega)
            have hb2 : ((natL S).length : Int) ≤ 256 := by omega
            obtain ⟨Z, hZ⟩ : ∃ Z, natL S = Z := ⟨_, rfl⟩
            have HZ := Lib.hid hZ
            rw [hZ] at HSUM hb2 HSM
            clear hgr hbig HST hZ
            go_wp2_with (first
              | (go_at_call 91; (with_reducible refine (HSUM.out _ HRS.out HRR.out).mono ?_); rintro e w5 ⟨A5, c5, rfl, hl5, hm5, hr5, hb5⟩; have HB5 := Lib.hid (HBL.out.trans (hb5.mono HBL.out.size)); have HL5 := Lib.hid hl5; have HM5 := Lib.hid hm5; have HR5 := Lib.hid hr5; clear hl5 hm5 hr5 hb5))
            go_roundw
            case rel => exact ⟨j + 1, S, A5, c5, HJ1.out, by go_num, by rw [HZ.out], by rw [HZ.out]; exact HSM.out, by rw [HZ.out]; exact HL5.out, HM5.out, by rw [HZ.out]; exact HR5.out, HG.out, HB5.out⟩
            case measure => have := HJ1.out; simp [intOf]; omega
        · obtain rfl : j = k := by omega
          rw [HE.out] at hgo
          have HG := Lib.hid (show (0, natL s) = mulGo s0 rs from hgo)
          have HL := Lib.hid hlc
          have HM5 := Lib.hid hcm
          have HR5 := Lib.hid hrs
          have HB5 := Lib.hid hbl
          obtain ⟨Z, hZ⟩ : ∃ Z, natL s = Z := ⟨_, rfl⟩
          rw [hZ] at HG HL HR5 ⊢
          clear hgo hlc hcm hrs hbl hZ hl
          go_wp2
          go_ret2
          rw [← HRES.out, if_pos HOK.out, ← HG.out]
          exact ⟨_, _, rfl, HL.out, HM5.out, HR5.out, HB5.out⟩
set_option maxHeartbeats 4000000 in
theorem q10add_c (rs : List NRow) (A : Option Addr) (n c : Nat) (hn : n ≤ 100000) (w : World) (hrd : RdNs w w.heap.size A n rs) : Calls Tryz.prog 69 #[.slice A n c] w (RetNE w (addR rs)) := by
  have hf := fun W (h : RdNs W W.heap.size A n rs) => q10foldP_c 0 (by rw [natL_zero]; simp) none 0 (by rw [natL_zero]; simp) (by simp [maxLen]) rs A n c hn W (by rw [natL_zero]; exact Rd.none_) h
  rw [natL_zero] at hf
  have HF : Hid (∀ W, RdNs W W.heap.size A n rs → Calls Tryz.prog 90 #[.func (.func 92) #[] #[], .slice none 0 0, .slice A n c] W (RetNE W (addR rs))) := Lib.hid hf
  have HR := Lib.hid hrd
  obtain ⟨⟨er, zr⟩, hR⟩ : ∃ R, addR rs = R := ⟨_, rfl⟩
  rw [hR] at HF ⊢
  clear hf hrd hR
  go_enter Tryz.func69, Tryz.ntmps69
  go_wp2_with (first
    | (go_at_call 90; (with_reducible refine (HF.out _ HR.out).mono ?_); rintro e w5 ⟨A5, c5, rfl, hl5, hm5, hr5, hb5⟩; have HB5 := Lib.hid hb5; have HL5 := Lib.hid hl5; have HM5 := Lib.hid hm5; have HR5 := Lib.hid hr5; clear hl5 hm5 hr5 hb5))
  go_ret2
  exact ⟨_, _, rfl, HL5.out, HM5.out, HR5.out, HB5.out⟩
set_option maxHeartbeats 4000000 in
theorem q10mul_c (rs : List NRow) (A : Option Addr) (n c : Nat) (hn : n ≤ 100000) (w : World) (hrd : RdNs w w.heap.size A n rs) : Calls Tryz.prog 68 #[.slice A n c] w (RetNE w (mulR rs)) := by
  have hof := fun W => q10of_c 1 (by omega) (by omega) W
  rw [show (1 : Int).toNat = 1 from rfl] at hof
  have h1 : (natL 1).length = 1 := by rw [natL_one]; rfl
  have HF : Hid (∀ A0 c0 W, (natL 1).length ≤ c0 → c0 ≤ maxLen → Rd .u32 W W.heap.size A0 (natL 1).length (natL 1) → RdNs W W.heap.size A n rs → Calls Tryz.prog 90 #[.func (.func 91) #[] #[], .slice A0 (natL 1).length c0, .slice A n c] W (RetNE W (mulR rs))) := Lib.hid (fun A0 c0 W h2 h3 h4 h5 => q10foldT_c 1 (by rw [h1]; omega) A0 c0 h2 h3 rs A n c hn W h4 h5)
  have HR := Lib.hid hrd
  have HOF := Lib.hid hof
  obtain ⟨⟨er, zr⟩, hR⟩ : ∃ R, mulR rs = R := ⟨_, rfl⟩
  rw [hR] at HF ⊢
  obtain ⟨Z, hZ⟩ : ∃ Z, natL 1 = Z := ⟨_, rfl⟩
  rw [hZ] at HF HOF
  clear hrd hR hof hZ h1
  go_enter Tryz.func68, Tryz.ntmps68
  go_wp2_with (first
    | (go_at_call 66; (with_reducible refine (HOF.out _).mono ?_); rintro e w4 ⟨A4, c4, rfl, hl4, hm4, hr4, hb4⟩; have HB4 := Lib.hid hb4; have HL4 := Lib.hid hl4; have HM4 := Lib.hid hm4; have HR4 := Lib.hid hr4; have HS4 := Lib.hid (HR.out.to hb4); clear hl4 hm4 hr4 hb4)
    | (go_at_call 90; (with_reducible refine (HF.out _ _ _ HL4.out HM4.out HR4.out HS4.out).mono ?_); rintro e w5 ⟨A5, c5, rfl, hl5, hm5, hr5, hb5⟩; have HB5 := Lib.hid (HB4.out.trans (hb5.mono HB4.out.size)); have HL5 := Lib.hid hl5; have HM5 := Lib.hid hm5; have HR5 := Lib.hid hr5; clear hl5 hm5 hr5 hb5))
  go_ret2
  exact ⟨_, _, rfl, HL5.out, HM5.out, HR5.out, HB5.out⟩
end
section
open Go.ChangeShapes Go.WideShapes Go.ChangeAt Go.RowKit

end
section
open Go.ChangeShapes Go.WideShapes Go.ChangeAt Go.RowKit
def TwoC (w : World) (b1 o1 b2 o2 : Nat) (x y : Int) (W : World) : Prop := W.cell? ⟨b1, o1, none⟩ = some (.int .u32 x) ∧ W.cell? ⟨b2, o2, none⟩ = some (.int .u32 y) ∧ Below w.heap.size w W
theorem TwoC.drew {w W : World} {b1 o1 b2 o2 : Nat} {x y : Int} (h : TwoC w b1 o1 b2 o2 x y W) : TwoC w b1 o1 b2 o2 x y W.drew := ⟨h.1, h.2.1, h.2.2.trans ((Below.refl _ _).drew)⟩
end
section
namespace Div64
def KI (b c u v q r : Nat) : Prop := u = q * b + r ∧ (u * 4294967296 + v) / (b * 4294967296 + c) ≤ q ∧ q ≤ 4294967297 ∧ r < 4294967296
theorem KI.start {b c u v : Nat} (hb : 2147483648 ≤ b) (hb2 : b < 4294967296) (hc : c < 4294967296) (hv : v < 4294967296) (hu : u < b * 4294967296 + c) : KI b c u v (u / b) (u % b) := by
  have h1 : u = u / b * b + u % b := by rw [Nat.mul_comm]; exact (Nat.div_add_mod u b).symm
  have hm : u % b < b := Nat.mod_lt _ (by omega)
  refine ⟨h1, ?_, ?_, by omega⟩
  · rw [Nat.le_div_iff_mul_le (by omega)]
    have h2 : (u * 4294967296 + v) / (b * 4294967296 + c) * (b * 4294967296 + c) ≤ u * 4294967296 + v := Nat.div_mul_le_self _ _
    generalize (u * 4294967296 + v) / (b * 4294967296 + c) = q at *
    rw [Nat.mul_add, ← Nat.mul_assoc] at h2
    generalize q * b = x at *
    generalize q * c = y at *
    omega
  · have h3 : u / b < 4294967298 := by
      rw [Nat.div_lt_iff_lt_mul (by omega)]
      omega
    omega
theorem KI.test {b c u v q r : Nat} (hb : 2147483648 ≤ b) (h : KI b c u v q r) : (r * 4294967296 + v < q * c) ↔ (u * 4294967296 + v) / (b * 4294967296 + c) < q := by
  rw [Nat.div_lt_iff_lt_mul (by omega), h.1, Nat.mul_add, Nat.add_mul, Nat.mul_assoc]
  omega
theorem KI.lt {b c u v : Nat} (hb : 2147483648 ≤ b) (hv : v < 4294967296) (hu : u < b * 4294967296 + c) : (u * 4294967296 + v) / (b * 4294967296 + c) < 4294967296 := by
  rw [Nat.div_lt_iff_lt_mul (by omega)]
  omega
theorem KI.next {b c u v q r : Nat} (hb : 2147483648 ≤ b) (hb2 : b < 4294967296) (hc : c < 4294967296) (hv : v < 4294967296) (hu : u < b * 4294967296 + c) (h : KI b c u v q r) (ht : 4294967296 ≤ q ∨ r * 4294967296 + v < q * c) : ∃ p, q = p + 1 ∧ (r + b < 4294967296 → KI b c u v p (r + b)) ∧ (4294967296 ≤ r + b → p = (u * 4294967296 + v) / (b * 4294967296 + c)) := by
  have h0 := KI.lt (c := c) hb hv hu
  have h1 : (u * 4294967296 + v) / (b * 4294967296 + c) < q := by
    rcases ht with ht | ht
    · omega
    · exact (h.test hb).1 ht
  obtain ⟨p, rfl⟩ : ∃ p, q = p + 1 := ⟨q - 1, by have := Nat.lt_of_le_of_lt (Nat.zero_le _) h1; omega⟩
  obtain ⟨e1, e2, e3, e4⟩ := h
  refine ⟨p, rfl, fun hr => ⟨by rw [Nat.add_mul, Nat.one_mul] at e1; omega, by omega, by omega, hr⟩, fun hr => ?_⟩
  have h2 : p * (b * 4294967296 + c) ≤ u * 4294967296 + v := by
    have h3 : p * c ≤ 4294967296 * 4294967295 := Nat.mul_le_mul (by omega) (by omega)
    rw [Nat.add_mul, Nat.one_mul] at e1
    rw [Nat.mul_add, ← Nat.mul_assoc]
    generalize p * b = x at *
    generalize p * c = y at *
    omega
  have h3 : p ≤ (u * 4294967296 + v) / (b * 4294967296 + c) := (Nat.le_div_iff_mul_le (by omega)).2 h2
  omega
theorem KI.done {b c u v q r : Nat} (hb : 2147483648 ≤ b) (h : KI b c u v q r) (ht : ¬ r * 4294967296 + v < q * c) : q = (u * 4294967296 + v) / (b * 4294967296 + c) := by
  have h1 := h.2.1
  rw [h.test hb] at ht
  omega
theorem whole {U d s n32 n1 n0 b c : Nat} (hd : 0 < d) (hy : d * 2 ^ s = b * 4294967296 + c) (hU : U < d * 4294967296) (hn : U * 2 ^ s = (n32 * 4294967296 + n1) * 4294967296 + n0) (h1 : n1 < 4294967296) (h0 : n0 < 4294967296) :
    n32 * 4294967296 + n1 < b * 4294967296 + c ∧ (n32 * 4294967296 + n1) / (b * 4294967296 + c) = 0 ∧ ((n32 * 4294967296 + n1) * 4294967296 + n0) / (b * 4294967296 + c) = U / d ∧ ((n32 * 4294967296 + n1) * 4294967296 + n0) = (U / d) * (b * 4294967296 + c) + (U % d) * 2 ^ s := by
  have hp : 0 < 2 ^ s := Nat.pow_pos (by omega)
  have e1 : U * 2 ^ s < d * 2 ^ s * 4294967296 := by
    rw [Nat.mul_right_comm]
    exact (Nat.mul_lt_mul_right hp).2 hU
  rw [hn, hy] at e1
  have h2 : n32 * 4294967296 + n1 < b * 4294967296 + c := Nat.lt_of_mul_lt_mul_right (Nat.lt_of_le_of_lt (Nat.le_add_right _ n0) e1)
  refine ⟨h2, Nat.div_eq_of_lt h2, ?_, ?_⟩
  · rw [← hn, ← hy, Nat.mul_div_mul_right _ _ hp]
  · rw [← hn, ← hy, ← Nat.mul_assoc, ← Nat.add_mul]
    congr 1
    rw [Nat.mul_comm]; exact (Nat.div_add_mod U d).symm
end Div64
end
section
def renA : Go.Shelf.Ren := ⟨fun
  | 129 => 106
  | 212 => 108
  | 263 => 112
  | 264 => 113
  | n => n, fun
  | 0 => 0
  | 3 => 3
  | 4 => 4
  | 5 => 5
  | 9 => 9
  | 37 => 23
  | 46 => 118
  | 51 => 62
  | 53 => 24
  | 146 => 146
  | 148 => 124
  | n => n, fun
  | n => n⟩
theorem lays212 : Go.Proofs.Lays.n212 Tryz.prog renA where
  mixed := by kernel_rfl
  f212 := Tryz.func108.trans (congrArg some (by kernel_rfl))
  f263 := Tryz.func112.trans (congrArg some (by kernel_rfl))
  f264 := Tryz.func113.trans (congrArg some (by kernel_rfl))
  t46 := Tryz.underlying118
  a46 := Tryz.isAgg118
  z46 := Tryz.sizeOf118
  v46 := Tryz.zeroValue118
  t51 := Tryz.underlying62
  a51 := Tryz.isAgg62
  z51 := Tryz.sizeOf62
  v51 := Tryz.zeroValue62
  t53 := Tryz.underlying24
  a53 := Tryz.isAgg24
  z53 := Tryz.sizeOf24
  v53 := Tryz.zeroValue24
  t146 := Tryz.underlying146
  a146 := Tryz.isAgg146
  z146 := Tryz.sizeOf146
  v146 := Tryz.zeroValue146
  t148 := Tryz.underlying124
  a148 := Tryz.isAgg124
  z148 := Tryz.sizeOf124
  v148 := Tryz.zeroValue124
end
section
open Go.ChangeShapes Go.WideShapes Go.ChangeAt Go.RowKit Div64

end
section
open Go.ChangeShapes Go.WideShapes Go.ChangeAt Go.RowKit
set_option maxHeartbeats 4000000 in
theorem q10two_c (k : Int) (k0 : -9223372036854775808 ≤ k) (k1 : k < 9223372036854775808) (w : World) : Calls Tryz.prog 67 #[.int .i64 k] w (RetNE w (twoR k)) := by
  by_cases hok : 0 ≤ k ∧ k ≤ 8191
  · obtain ⟨h0, h1⟩ := hok
    obtain ⟨m, rfl⟩ := Int.eq_ofNat_of_zero_le h0
    have e1 : twoR (m : Int) = (0, natL (2 ^ m)) := by unfold twoR; rw [if_pos ⟨h0, h1⟩, Int.toNat_natCast]
    rw [e1, ← two_limbs]
    obtain ⟨i0, hi0, hz0, hz1, hzb⟩ := info_parts info_u32d
    obtain ⟨q, hq⟩ : ∃ q, m / 32 = q := ⟨_, rfl⟩
    obtain ⟨r, hr⟩ : ∃ q, m % 32 = q := ⟨_, rfl⟩
    have hdiv : (m : Int) / 32 = (q : Int) := by omega
    have hmod : (m : Int) % 32 = (r : Int) := by omega
    have hdt : (m : Int).tdiv 32 = (q : Int) := by rw [Int.tdiv_eq_ediv_of_nonneg (by omega)]; exact hdiv
    have hmt : (m : Int).tmod 32 = (r : Int) := by rw [Int.tmod_eq_emod_of_nonneg (by omega)]; exact hmod
    have hr32 : r ≤ 31 := by omega
    have hrs := rep_set q ((2 ^ r : Nat) : Int)
    rw [hq, hr]
    have hp := pow_two_le hr32
    have hpi : (2 : Int) ^ r = ((2 ^ r : Nat) : Int) := by rw [Int.natCast_pow]; rfl
    obtain ⟨P, hP⟩ : ∃ P, 2 ^ r = P := ⟨_, rfl⟩
    rw [hP] at hp hpi hrs ⊢
    have hw1 : IntKind.u32.wrap (P : Int) = (P : Int) := by rw [IntKind.wrap_u32]; omega
    have hmk : ∀ W, (Instr.makeSlice 49 (.int .i64 ((q : Int) + 1)) (.int .i64 ((q : Int) + 1))).run Tryz.prog W = .ok (.slice (some ⟨W.heap.size, 0, none⟩) (q + 1) (q + 1)) (W.alloc (.cells (intsA .u32 (List.replicate (q + 1) 0)) 62)) := fun W => run_make_ints (P := Tryz.prog) 49 62 i0 .u32 Tryz.underlying49 hi0 hz0 hz1 .i64 .i64 (q + 1) (by rw [hzb]; omega) (by omega) W
    have HS0 : Hid (NatS w w.heap.size (List.replicate (q + 1) 0) (w.alloc (.cells (intsA .u32 (List.replicate (q + 1) 0)) 62))) := Lib.hid ⟨Blk.new _ _ _, Nat.le_refl _, (Below.refl _ _).alloc (Nat.le_refl _) _⟩
    have HRS := Lib.hid hrs
    have hq2 : (q : Int) ≤ 255 := by omega
    have HQM : Hid (q + 1 ≤ maxLen) := Lib.hid (by unfold maxLen; omega)
    have HJS : Hid (q < (intsA .u32 (List.replicate (q + 1) 0)).size) := Lib.hid (by rw [intsA_size, List.length_replicate]; omega)
    obtain ⟨R, hR⟩ : ∃ R, List.replicate q 0 ++ [(P : Int)] = R := ⟨_, rfl⟩
    have hRl : R.length = q + 1 := by rw [← hR]; simp
    have HRL := Lib.hid hRl
    rw [hR] at HRS ⊢
    have hm8 : (m : Int) ≤ 8191 := h1
    have hm0 : ¬ (m : Int) < 0 := by omega
    have hqq : (q : Int) < (q : Int) + 1 := by omega
    clear hq hr hrs hi0 hz0 hz1 hzb e1 hR hRl k0 k1 h0 hP hp
    go_enter Tryz.func67, Tryz.ntmps67
    go_upto_region 4 with fail
    clear hmk
    obtain ⟨g, hg⟩ : ∃ g, w.heap.size = g := ⟨_, rfl⟩
    have HS1 : Hid (NatS w g (List.replicate (q + 1) 0) (w.alloc (.cells (intsA .u32 (List.replicate (q + 1) 0)) 62))) := by rw [← hg]; exact HS0
    rw [hg]
    clear hg HS0
    obtain ⟨w1, hw1⟩ : ∃ w1, w.alloc (.cells (intsA .u32 (List.replicate (q + 1) 0)) 62) = w1 := ⟨_, rfl⟩
    rw [hw1] at HS1
    rw [hw1]
    clear hw1
    go_wp2_with (first
      | (with_reducible refine at_any ?_; refine at_store 21 rfl ?_; refine wpList_store_cell rfl 62 (.tmp 21) (.tmp 20) rfl g q rfl 62 (intsA .u32 (List.replicate (q + 1) 0)) (NatS.blk HS1.out) (.int .u32 (P : Int)) rfl HJS.out size_u32s rfl rfl ?_; intro w90 hk90 ho90; have HF9 := Lib.hid (NatS.set HS1.out hk90.out ho90); clear hk90 ho90))
    go_ret2
    have hf := HF9.out
    rw [HRS.out] at hf
    have hrd := hf.rd
    rw [HRL.out] at hrd
    exact ⟨some ⟨g, 0, none⟩, q + 1, ret_sliceE HRL.out.symm, by rw [HRL.out]; exact Nat.le_refl _, HQM.out, by rw [HRL.out]; exact hrd, hf.bel⟩
  · have e1 : twoR k = (1, []) := if_neg hok
    rw [e1]
    have h2 : k < 0 ∨ (¬ k < 0 ∧ 8192 ≤ k) := by omega
    clear hok e1
    rcases h2 with h | ⟨h, h'⟩
    all_goals
      go_enter Tryz.func67, Tryz.ntmps67
      go_wp2
      go_ret2
      exact RetNE.nil 1 (Below.refl _ _)
end
section
open Go.ChangeShapes Go.WideShapes Go.ChangeAt Go.RowKit
def q10AnyN (_ : World) : Prop := True
theorem mul1_c (k : Nat) (h : k ≤ 64) (w : World) : Calls Tryz.prog 108 #[.int .u64 1, .int .u64 (k : Int)] w fun e w' => e = .returned (.tuple #[.int .u64 0, .int .u64 (k : Int)]) ∧ w = w' := by
  have h1 := Any.bits_Mul lays212 1 k (by omega) (by omega) w
  rw [Nat.one_mul, Nat.div_eq_of_lt (by omega), Nat.mod_eq_of_lt (by omega)] at h1
  exact h1.mono fun e w' h => ⟨h.1, h.2.symm⟩
section
variable {P : Program} {ops : Array Oper} {Q : Exit → Act → World → Prop} {a : Act} {w : World} {o : Oper}
theorem step_copy {K : Act → World → Prop} {E : Prop} (d : Option Tmp) (hd : o.dst = d) (hw : Region.wanted o (yielded ops a.tmps) = true) (x y : Operand) (t t' : TypeId)
    (ho : o.op = .call { callee := .builtin .copy, args := #[x, y], argTypes := #[t, t'] }) (v u : Value) (hx : a.eval x = v) (hy : a.eval y = u) {v' : Value} {w' : World}
    (hr : (Builtin.copy_ #[t, t'] o.type #[v, u]).run P w = .ok v' w') (h : K (a.put d v') w') :
    if Region.wanted o (yielded ops a.tmps) = true then Oper.wp P o a w K Q else E := by
  subst hd
  rw [if_pos hw]
  exact Lib.wp_copy_run w x y t t' ho v u hx hy hr h
end
def rowK (v z : Value) (n k : Nat) : Array Value := (List.replicate n v ++ List.replicate (k - n) z).toArray
theorem rowK_at {v z : Value} {n k j : Nat} (h : j < n) : (rowK v z n k)[j]? = some v := by
  simp [rowK, List.getElem?_append, h]
theorem rowK_splice {v z : Value} {n m k : Nat} (h : n + m ≤ k) : (List.take n (rowK v z n k).toList ++ List.replicate m v ++ List.drop (n + m) (rowK v z n k).toList).toArray = rowK v z (n + m) k := by
  unfold rowK
  congr 1
  rw [List.take_append_of_le_length (by simp), List.take_of_length_le (by simp), List.drop_append, List.drop_of_length_le (by simp)]
  simp only [List.length_replicate, List.drop_replicate, List.nil_append]
  rw [List.replicate_append_replicate]
  congr 2
  omega
theorem rowK_full {v z : Value} {k : Nat} : rowK v z k k = (List.replicate k v).toArray := by simp [rowK]
theorem info_natS : (Tryz.prog.info? 49).map (·.size) = some 1 := by kernel_rfl
theorem run_rep {w : World} {g n m k : Nat} {v z : Value} (hv : v.oneCell' = true) (hb : Blk w g 49 (rowK v z n k)) (hk : n ≤ k) (dLen dCap : Nat) (a : Addr) (sLen sCap : Nat) (hm : m = min sLen dLen) (hd : n + m ≤ k) (hs : ∀ j, j < m → w.cell? (a.add j) = some v) (ty : TypeId) :
    ∃ w', (Builtin.copy_ #[89, 89] ty #[.slice (some ⟨g, n, none⟩) dLen dCap, .slice (some a) sLen sCap]).run Tryz.prog w = .ok (.int .i64 (m : Int)) w' ∧ Blk w' g 49 (rowK v z (n + m) k) ∧ (∀ B, B ≤ g → Below B w w') := by
  have hl : (rowK v z n k).size = k := by simp [rowK]; omega
  have h := Go.run_copy_row (P := Tryz.prog) w 89 89 ty 49 g n dLen dCap a sLen sCap (rowK v z n k) 49 (List.replicate m v) Tryz.underlying89 info_natS hb (by rw [List.length_replicate]; exact hm) (fun j u hj => by
    have hjl : j < m := by
      rcases Nat.lt_or_ge j m with h5 | h5
      · exact h5
      · rw [List.getElem?_eq_none (by simpa using h5)] at hj; cases hj
    rw [List.getElem?_replicate, if_pos hjl] at hj
    rw [← hj]
    exact hs j hjl) (by rw [List.length_replicate, hl]; exact hd) (fun u hu => by rw [List.eq_of_mem_replicate hu]; exact hv)
  rw [List.length_replicate, rowK_splice hd] at h
  exact ⟨_, h, setRow_heap w g _ _ _ _ hb, fun B hB => below_setRow (Below.refl _ _) hB _⟩
theorem run_make_nats (k : Nat) (hk : k ≤ 64) (W : World) : (Instr.makeSlice 89 (.int .i64 (k : Int)) (.int .i64 (k : Int))).run Tryz.prog W = .ok (.slice (some ⟨W.heap.size, 0, none⟩) k k) (W.alloc (.cells (rowK (.slice none 0 0) (.slice none 0 0) 0 k) 49)) := by
  obtain ⟨i, hi, hz, hs, hb⟩ := info_parts info_nat
  have hr := run_make (P := Tryz.prog) W 89 49 i _ Tryz.underlying89 hi hz .i64 .i64 k k (by omega) (by omega) (by rw [hb]; omega) (by omega)
  simp only [Int.toNat_natCast, hs, Nat.mul_one] at hr
  rw [hr, show madeCells (Value.slice none 0 0).cells k = rowK (.slice none 0 0) (.slice none 0 0) 0 k from ?_]
  have h1 := madeCells_same (.slice none 0 0) 1 k (by omega)
  simpa [rowK, Value.cells] using h1
theorem rowK_none {v z : Value} {k : Nat} : rowK v z 0 k = rowK z z 0 k := by simp [rowK]
set_option maxHeartbeats 4000000 in
theorem repeat_c (v : Value) (hv : v.oneCell' = true) (b0 o0 cx : Nat) (k : Nat) (hk : k ≤ 64) (w : World) (hlt : b0 < w.heap.size) (hx : w.cell? ⟨b0, o0, none⟩ = some v) : Calls Tryz.prog 103 #[.slice (some ⟨b0, o0, none⟩) 1 cx, .int .i64 (k : Int)] w fun e w' => ∃ g, e = .returned (.slice (some ⟨g, 0, none⟩) k k) ∧ Blk w' g 49 (List.replicate k v).toArray ∧ w.heap.size ≤ g ∧ Below w.heap.size w w' := by
  have HMUL := Lib.hid (fun W => mul1_c k hk W)
  have hmk := fun W => run_make_nats k hk W
  have f1 : IntKind.u64.wrap (k : Int) = (k : Int) := by rw [IntKind.wrap_u64]; omega
  have f2 : IntKind.i64.wrap (k : Int) = (k : Int) := by rw [IntKind.wrap_i64]; omega
  have hk64 : (k : Int) ≤ 64 := by omega
  have HK := Lib.hid hk
  obtain ⟨z, hz⟩ : ∃ z : Value, (Value.slice none 0 0) = z := ⟨_, rfl⟩
  have hcp0 : ∀ ty, ∃ w', (Builtin.copy_ #[89, 89] ty #[.slice (some ⟨w.heap.size, 0, none⟩) k k, .slice (some ⟨b0, o0, none⟩) 1 cx]).run Tryz.prog (w.alloc (.cells (rowK (.slice none 0 0) (.slice none 0 0) 0 k) 49)) = .ok (.int .i64 ((min 1 k : Nat) : Int)) w' ∧ Blk w' w.heap.size 49 (rowK v (.slice none 0 0) (min 1 k) k) ∧ Below w.heap.size w w' := fun ty => by
    obtain ⟨w', h1, h2, h3⟩ := run_rep (m := min 1 k) (v := v) (z := .slice none 0 0) (n := 0) (k := k) hv (by rw [rowK_none]; exact Blk.new w 49 _) (by omega) k k ⟨b0, o0, none⟩ 1 cx rfl (by omega) (fun j hj => by
      obtain rfl : j = 0 := by omega
      show (w.alloc _).cell? (Addr.add ⟨b0, o0, none⟩ 0) = some v
      rw [show Addr.add ⟨b0, o0, none⟩ 0 = ⟨b0, o0, none⟩ from rfl]
      exact (((Below.refl w.heap.size w).alloc (Nat.le_refl _) _).cell (p := ⟨b0, o0, none⟩) hlt).trans hx) ty
    rw [Nat.zero_add] at h2
    exact ⟨w', h1, h2, ((Below.refl _ _).alloc (Nat.le_refl _) _).trans (h3 _ (Nat.le_refl _))⟩
  have HCP0 := Lib.hid hcp0
  clear hcp0 hx hlt hz
  go_enter Tryz.func103, Tryz.ntmps103
  go_upto_region 7 with (first
    | (go_at_call 108; (with_reducible refine (HMUL.out _).mono ?_); rintro e _ ⟨rfl, rfl⟩))
  clear hmk
  obtain ⟨w1, hr1, hb1, hl1⟩ := HCP0.out 3
  obtain ⟨n0, hn0⟩ : ∃ n, min 1 k = n := ⟨_, rfl⟩
  rw [hn0] at hr1 hb1
  have HR1 := Lib.hid hr1
  clear hr1 HCP0
  obtain ⟨g, hg⟩ : ∃ g, w.heap.size = g := ⟨_, rfl⟩
  have HG : Hid (w.heap.size ≤ g) := Lib.hid (by omega)
  have HB1 : Hid (Blk w1 g 49 (rowK v (.slice none 0 0) n0 k)) := Lib.hid (by rw [← hg]; exact hb1)
  have HL1 := Lib.hid hl1
  rw [hg] at HR1 ⊢
  clear hb1 hl1 hg
  have HN0 : Hid (n0 = min 1 k) := Lib.hid hn0.symm
  clear hn0
  have hr1 := HR1.out
  go_wp2
  clear hr1
  go_loopw [8] (fun vn wr => ∃ n : Nat, n ≤ k ∧ (n = 0 → k = 0) ∧ vn = .int .i64 (n : Int) ∧ Blk wr g 49 (rowK v (.slice none 0 0) n k) ∧ Below w.heap.size w wr) (fun vn _ => k - (intOf vn).toNat)
  case atStart => exact ⟨n0, by have := HN0.out; omega, by have := HN0.out; omega, rfl, HB1.out, HL1.out⟩
  case round =>
    clear HB1 HL1 HN0 HR1
    obtain ⟨n, hn, hn0, rfl, hb, hbl⟩ := hrel
    by_cases hlt : n < k
    · obtain ⟨kn, hkn⟩ : ∃ kn, k - n = kn := ⟨_, rfl⟩
      obtain ⟨w2, hr2, hb2, hl2⟩ := run_rep (w := wr.drew) (m := min n kn) hv hb hn kn kn ⟨g, 0, none⟩ n k rfl (by omega) (fun j hj => by
        have e : Addr.add ⟨g, 0, none⟩ j = ⟨g, j, none⟩ := by
          unfold Addr.add
          split
          · rename_i h; subst h; rfl
          · simp
        rw [e, Blk.cell (h := hb.drew)]
        exact rowK_at (by omega)) 3
      obtain ⟨nm, hnm⟩ : ∃ nm, n + min n kn = nm := ⟨_, rfl⟩
      obtain ⟨m, hm⟩ : ∃ m, min n kn = m := ⟨_, rfl⟩
      rw [hm] at hr2 hnm
      rw [hm, hnm] at hb2
      have hnm1 : nm ≤ k := by omega
      have hnm2 : n < nm := by omega
      have HCP := Lib.hid hr2
      have HB2 := Lib.hid hb2
      have HL2 := Lib.hid ((hbl.trans (Below.refl _ _).drew).trans (hl2 _ HG.out))
      have HNK : Hid (n ≤ k ∧ ¬ k = n ∧ k - n = kn ∧ ¬ k < n) := Lib.hid ⟨by omega, by omega, hkn, by omega⟩
      have HNM : Hid ((n : Int) + (m : Int) = (nm : Int)) := Lib.hid (by omega)
      have HNW : Hid (IntKind.i64.wrap (nm : Int) = (nm : Int)) := Lib.hid (by rw [IntKind.wrap_i64]; omega)
      have HN1 : Hid (nm ≤ k ∧ n < nm ∧ (nm = 0 → k = 0)) := Lib.hid ⟨hnm1, hnm2, by omega⟩
      have i1 : (n : Int) < (k : Int) := by omega
      clear hb hbl hr2 hb2 hl2 hnm hm hnm1 hnm2 hkn hn hn0 hlt
      go_wp2
      refine wp_region_held_drew (S := q10AnyN) (by kernel_rfl) trivial (fun _ => ?_)
      refine wpAnyH_letter #[false, false, false, false, false, false, false, false, false, false] (by kernel_rfl) (fun _ _ d _ _ h => by cases d <;> exact h) (fun QL HQ1 HQ2 => ?_)
      refine held_v 0 (some 38) rfl (by kernel_rfl) (by kernel_rfl) (by kernel_rfl) (by kernel_rfl) (fun c a v w h => HQ2.out c a _ v w h) (by kernel_rfl) (.int .i64 (n : Int)) (fun W h => by kernel_rfl) trivial ?_
      try simp only [Act.put, List.setIfInBounds_toArray, List.set_cons_zero, List.set_cons_succ]
      refine held_v 1 (some 39) rfl (by kernel_rfl) (by kernel_rfl) (by kernel_rfl) (by kernel_rfl) (fun c a v w h => HQ2.out c a _ v w h) (by kernel_rfl) (.slice (some ⟨g, 0, none⟩) k k) (fun W h => by kernel_rfl) trivial ?_
      try simp only [Act.put, List.setIfInBounds_toArray, List.set_cons_zero, List.set_cons_succ]
      refine held_v 2 (some 40) rfl (by kernel_rfl) (by kernel_rfl) (by kernel_rfl) (by kernel_rfl) (fun c a v w h => HQ2.out c a _ v w h) (by kernel_rfl) (.int .i64 (n : Int)) (fun W h => by kernel_rfl) trivial ?_
      try simp only [Act.put, List.setIfInBounds_toArray, List.set_cons_zero, List.set_cons_succ]
      refine held_v 3 (some 41) rfl (by kernel_rfl) (by kernel_rfl) (by kernel_rfl) (by kernel_rfl) (fun c a v w h => HQ2.out c a _ v w h) (by kernel_rfl) (.slice (some ⟨g, n, none⟩) kn kn) (fun W h => by have p := HNK.out.1; have p2 := HNK.out.2.1; have p3 := HNK.out.2.2.1; go_simp) trivial ?_
      try simp only [Act.put, List.setIfInBounds_toArray, List.set_cons_zero, List.set_cons_succ]
      refine held_v 4 (some 42) rfl (by kernel_rfl) (by kernel_rfl) (by kernel_rfl) (by kernel_rfl) (fun c a v w h => HQ2.out c a _ v w h) (by kernel_rfl) (.slice (some ⟨g, 0, none⟩) k k) (fun W h => by kernel_rfl) trivial ?_
      try simp only [Act.put, List.setIfInBounds_toArray, List.set_cons_zero, List.set_cons_succ]
      refine held_v 5 (some 43) rfl (by kernel_rfl) (by kernel_rfl) (by kernel_rfl) (by kernel_rfl) (fun c a v w h => HQ2.out c a _ v w h) (by kernel_rfl) (.int .i64 (n : Int)) (fun W h => by kernel_rfl) trivial ?_
      try simp only [Act.put, List.setIfInBounds_toArray, List.set_cons_zero, List.set_cons_succ]
      refine held_v 6 (some 44) rfl (by kernel_rfl) (by kernel_rfl) (by kernel_rfl) (by kernel_rfl) (fun c a v w h => HQ2.out c a _ v w h) (by kernel_rfl) (.slice (some ⟨g, 0, none⟩) n k) (fun W h => by have p2 := HNK.out.2.2.2; have p := HNK.out.1; go_simp) trivial ?_
      try simp only [Act.put, List.setIfInBounds_toArray, List.set_cons_zero, List.set_cons_succ]
      refine wpAnyH_ready (rs := [7]) (by kernel_rfl) (by decide) ?_
      refine AllReadyH.cons rfl (fun K hK => ?_) AllReadyH.nil
      refine step_copy (some 45) (by kernel_rfl) (by kernel_rfl) (.tmp 41) (.tmp 44) 89 89 (by kernel_rfl) _ _ (by kernel_rfl) (by kernel_rfl) HCP.out ?_
      refine hK.out _ _ trivial (fun _ => ?_)
      clear hK K
      try simp only [Act.put, List.setIfInBounds_toArray, List.set_cons_zero, List.set_cons_succ]
      refine held_v 8 (some 46) rfl (by kernel_rfl) (by kernel_rfl) (by kernel_rfl) (by kernel_rfl) (fun c a v w h => HQ2.out c a _ v w h) (by kernel_rfl) (.int .i64 (nm : Int)) (fun W h => by have p := HNM.out; have p2 := HNW.out; go_simp) trivial ?_
      try simp only [Act.put, List.setIfInBounds_toArray, List.set_cons_zero, List.set_cons_succ]
      refine held_v 9 (some 8) rfl (by kernel_rfl) (by kernel_rfl) (by kernel_rfl) (by kernel_rfl) (fun c a v w h => HQ2.out c a _ v w h) (by kernel_rfl) (.int .i64 (nm : Int)) (fun W h => by kernel_rfl) trivial ?_
      try simp only [Act.put, List.setIfInBounds_toArray, List.set_cons_zero, List.set_cons_succ]
      refine wpAnyH_done (by kernel_rfl) ?_ _
      refine HQ1.out _ _ ?_
      clear HQ1 HQ2
      go_wp2
      go_roundw
      case rel => exact ⟨nm, HN1.out.1, HN1.out.2.2, rfl, HB2.out, HL2.out⟩
      case measure => have := HN1.out; simp [intOf]; omega
    · obtain rfl : n = k := by omega
      have HB2 : Hid (Blk wr g 49 (List.replicate n v).toArray) := Lib.hid (by rw [← rowK_full]; exact hb)
      have HL2 := Lib.hid hbl
      clear hb hbl hn0 hn
      go_wp2
      go_ret
      exact ⟨g, rfl, HB2.out, HG.out, HL2.out⟩
theorem rdNs_rep {w : World} {g k : Nat} {A : Option Addr} {n c : Nat} {zs : List Int} (h : Blk w g 49 (List.replicate k (Value.slice A n c)).toArray) (hr : Rd .u32 w w.heap.size A n zs) (hnc : n ≤ c) (hcm : c ≤ maxLen) (hz : Lim zs) : RdNs w w.heap.size (some ⟨g, 0, none⟩) k (List.replicate k ⟨A, n, c, zs⟩) :=
  ⟨List.length_replicate, fun _ => ⟨g, 0, rfl, h.lt, fun j r hj => by
    have hjl : j < k := by
      rcases Nat.lt_or_ge j k with h5 | h5
      · exact h5
      · rw [List.getElem?_eq_none (by simpa using h5)] at hj; cases hj
    rw [List.getElem?_replicate, if_pos hjl] at hj
    injection hj with hj
    subst hj
    rw [Nat.zero_add, h.cell]
    simp [hjl]
    rfl⟩, fun r hr' => by
    rw [List.eq_of_mem_replicate hr']
    exact ⟨hr, hnc, hcm, hz⟩⟩
set_option maxHeartbeats 4000000 in
theorem q10pow_c (zs : List Int) (hz : Lim zs) (A : Option Addr) (n c : Nat) (hnc : n ≤ c) (hcm : c ≤ maxLen) (k : Int) (k0 : -9223372036854775808 ≤ k) (k1 : k < 9223372036854775808) (w : World) (hrd : Rd .u32 w w.heap.size A n zs) : Calls Tryz.prog 88 #[.slice A n c, .int .i64 k] w (RetNE w (powR zs k)) := by
  have hrt := fun W h => q10right_c zs A n c (by omega) W h
  have HR := Lib.hid hrd
  by_cases hok : rightN zs = true ∧ 0 ≤ k ∧ k ≤ 64
  · obtain ⟨hr, h0, h1⟩ := hok
    obtain ⟨m, rfl⟩ := Int.eq_ofNat_of_zero_le h0
    rw [hr] at hrt
    have HRT := Lib.hid hrt
    have hm64 : m ≤ 64 := by omega
    have hrep := repeat_c (.slice A n c) rfl w.heap.size 0 1 m hm64 (w.alloc (.cells #[.slice A n c] 49)) (by simp) (by rw [(Blk.new w 49 #[Value.slice A n c]).cell]; rfl)
    have HREP := Lib.hid hrep
    have hmul := fun g W (h : RdNs W W.heap.size (some ⟨g, 0, none⟩) m (List.replicate m ⟨A, n, c, zs⟩)) => q10mul_c (List.replicate m ⟨A, n, c, zs⟩) (some ⟨g, 0, none⟩) m m (by omega) W h
    rw [powR_zs (zs := zs) (k := m) (rs := List.replicate m ⟨A, n, c, zs⟩) hr (by omega) (by rw [List.map_replicate])] at hmul
    have HMUL := Lib.hid hmul
    have HN := Lib.hid (fun (g : Nat) (W : World) (hb : Below w.heap.size w W) h => rdNs_rep (w := W) (g := g) (k := m) h ((HR.out.below hb).mono hb.size) hnc hcm hz)
    have HB0 := Lib.hid ((Below.refl w.heap.size w).alloc (Nat.le_refl _) (.cells #[.slice A n c] 49))
    have hmI : (m : Int) ≤ 64 := h1
    have hm0 : ¬ (m : Int) < 0 := by omega
    obtain ⟨⟨re, rz⟩, hR⟩ : ∃ R, powR zs (m : Int) = R := ⟨_, rfl⟩
    rw [hR] at HMUL ⊢
    clear hrd hrt hr hz hnc hcm h0 k0 k1 hrep hmul hR h1
    go_enter Tryz.func88, Tryz.ntmps88
    go_wp2_with (first
      | (go_at_call 102; (with_reducible refine (HRT.out _ HR.out).mono ?_); rintro e _ ⟨rfl, rfl⟩)
      | (go_at_call 103; (with_reducible refine HREP.out.mono ?_); rintro e w4 ⟨g4, rfl, hb4, _, hl4⟩; have HB4 := Lib.hid (HB0.out.trans (hl4.mono HB0.out.size)); have HN4 := Lib.hid (HN.out g4 w4 HB4.out hb4); clear hb4 hl4)
      | (go_at_call 68; (with_reducible refine (HMUL.out _ _ HN4.out).mono ?_); rintro e w5 ⟨A5, c5, rfl, hl5, hm5, hr5, hb5⟩; have HB5 := Lib.hid (HB4.out.trans (hb5.mono HB4.out.size)); have HL5 := Lib.hid hl5; have HM5 := Lib.hid hm5; have HR5 := Lib.hid hr5; clear hl5 hm5 hr5 hb5))
    go_ret2
    exact ⟨_, _, rfl, HL5.out, HM5.out, HR5.out, HB5.out⟩
  · have e1 : powR zs k = (1, []) := if_neg hok
    rw [e1]
    have h2 : rightN zs = false ∨ (rightN zs = true ∧ k < 0) ∨ (rightN zs = true ∧ ¬ k < 0 ∧ 64 < k) := by
      cases h : rightN zs
      · exact .inl rfl
      · rw [h] at hok
        by_cases h3 : k < 0
        · exact .inr (.inl ⟨rfl, h3⟩)
        · exact .inr (.inr ⟨rfl, h3, by
            by_cases h4 : 64 < k
            · exact h4
            · exact absurd ⟨rfl, by omega, by omega⟩ hok⟩)
    clear hok e1 hrd
    rcases h2 with h | ⟨h, h'⟩ | ⟨h, h', h''⟩
    all_goals
      rw [h] at hrt
      have HRT := Lib.hid hrt
      clear hrt h
      go_enter Tryz.func88, Tryz.ntmps88
      go_wp2_with (first
        | (go_at_call 102; (with_reducible refine (HRT.out _ HR.out).mono ?_); rintro e _ ⟨rfl, rfl⟩))
      go_ret2
      exact RetNE.nil 1 (Below.refl _ _)
end
section
open Go.ChangeShapes Go.WideShapes Go.ChangeAt Go.RowKit
theorem qpow_n {x k : Nat} (hx : (natL x).length ≤ 256) (hk : k ≤ 64) (k1 : 1 ≤ k) (h : (natL (x ^ k)).length ≤ 256) (A : Option Addr) (c : Nat) (hc : (natL x).length ≤ c) (hm : c ≤ maxLen) (W : World) (h1 : Rd .u32 W W.heap.size A (natL x).length (natL x)) : Calls Tryz.prog 88 #[.slice A (natL x).length c, .int .i64 (k : Int)] W (RetNE W (0, natL (x ^ k))) := by
  have h := q10pow_c (natL x) (natL_lim x) A (natL x).length c hc hm (k : Int) (by omega) (by omega) W h1
  rwa [powR_any hx hk k1 (by assumption)] at h
theorem qtwo_n {k : Nat} (hk : k ≤ 8191) (W : World) : Calls Tryz.prog 67 #[.int .i64 (k : Int)] W (RetNE W (0, natL (2 ^ k))) := by
  have h := q10two_c (k : Int) (by omega) (by omega) W
  unfold twoR at h
  rwa [if_pos ⟨by omega, by omega⟩, Int.toNat_natCast] at h
theorem qmul_n {x y : Nat} (hx : (natL x).length ≤ 256) (hy : (natL y).length ≤ 256) (hxy : (natL (x * y)).length ≤ 256) (A B : Option Addr) (c1 c2 : Nat) (Q : Option Addr) (c : Nat) (W : World) (h : RdNs W W.heap.size Q 2 [rowN A (natL x) c1, rowN B (natL y) c2]) : Calls Tryz.prog 68 #[.slice Q 2 c] W (RetNE W (0, natL (x * y))) := by
  have h2 := q10mul_c _ Q 2 c (by omega) W h
  rwa [mulR_two (rightN_natL hx) (rightN_natL hy) (by rw [natL_val]; exact hx) (by rw [natL_val, natL_val]; exact hxy), natL_val, natL_val] at h2
theorem q16bnd_c (n : Int) (n0 : 0 ≤ n) (n1 : n < 18446744073709551616) (w : World) : Calls Tryz.prog 86 #[.int .u64 n] w fun e w' => e = .returned (.bool (decide (1 ≤ n ∧ n < 9223372036854775808))) ∧ w = w' := by
  have hf := fun W => q9fits_c n n0 n1 W
  by_cases h1 : 1 ≤ n
  · by_cases h2 : n < 9223372036854775808
    · rw [decide_eq_true ⟨h1, h2⟩]
      rw [decide_eq_true h2] at hf
      have HF := Lib.hid hf
      clear hf
      go_enter Tryz.func86, Tryz.ntmps86
      go_wp2_with (first
        | (go_at_call 99; (with_reducible refine (HF.out _).mono ?_); rintro e _ ⟨rfl, rfl⟩))
      go_ret
      exact ⟨rfl, rfl⟩
    · rw [decide_eq_false (fun h => h2 h.2)]
      rw [decide_eq_false h2] at hf
      have HF := Lib.hid hf
      clear hf
      go_enter Tryz.func86, Tryz.ntmps86
      go_wp2_with (first
        | (go_at_call 99; (with_reducible refine (HF.out _).mono ?_); rintro e _ ⟨rfl, rfl⟩))
      go_ret
      exact ⟨rfl, rfl⟩
  · rw [decide_eq_false (fun h => h1 h.1)]
    clear hf
    go_enter Tryz.func86, Tryz.ntmps86
    go_wp2
    go_ret
    exact ⟨rfl, rfl⟩
theorem q16lst_c (m : Int) (m0 : -9223372036854775808 ≤ m) (m1 : m < 9223372036854775808) (w : World) : Calls Tryz.prog 87 #[.int .i64 m] w fun e w' => e = .returned (.bool (decide (1 ≤ m ∧ m ≤ 64))) ∧ w = w' := by
  by_cases h1 : 1 ≤ m
  · by_cases h2 : m ≤ 64
    · rw [decide_eq_true ⟨h1, h2⟩]
      go_enter Tryz.func87, Tryz.ntmps87
      go_wp2
      go_ret
      exact ⟨rfl, rfl⟩
    · rw [decide_eq_false (fun h => h2 h.2)]
      go_enter Tryz.func87, Tryz.ntmps87
      go_wp2
      go_ret
      exact ⟨rfl, rfl⟩
  · rw [decide_eq_false (fun h => h1 h.1)]
    go_enter Tryz.func87, Tryz.ntmps87
    go_wp2
    go_ret
    exact ⟨rfl, rfl⟩
theorem q16bits0_c (n m : Int) (n0 : 0 ≤ n) (n1 : n < 18446744073709551616) (m0 : -9223372036854775808 ≤ m) (m1 : m < 9223372036854775808) (w : World) : Calls Tryz.prog 64 #[.int .u64 n, .int .i64 m] w fun e w' => e = .returned (.tuple #[.int .i64 (bitR n m).1, .int .i64 (bitR n m).2]) ∧ w = w' := by
  have hb := fun W => q16bnd_c n n0 n1 W
  have hl := fun W => q16lst_c m m0 m1 W
  by_cases h1 : 1 ≤ n ∧ n < 9223372036854775808
  · rw [decide_eq_true h1] at hb
    have HB := Lib.hid hb
    by_cases h2 : 1 ≤ m ∧ m ≤ 64
    · rw [show bitR n m = ((needN n : Int) * m, 0) from if_pos (mayB_iff.2 ⟨h1.1, h1.2, h2.1, h2.2⟩)]
      rw [decide_eq_true h2] at hl
      have HL := Lib.hid hl
      have hk := (need_in h1.1 h1.2).1
      have hnd := fun W => q8need_c n n0 n1 W
      obtain ⟨M, rfl⟩ := Int.eq_ofNat_of_zero_le (show 0 ≤ m by omega)
      obtain ⟨k, hkk⟩ : ∃ k, needN n = k := ⟨_, rfl⟩
      rw [hkk] at hk hnd ⊢
      have HND := Lib.hid hnd
      have hx := exp_in hk (show M ≤ 64 by omega)
      obtain ⟨p, hp⟩ : ∃ p, k * M = p := ⟨_, rfl⟩
      have hkM : (k : Int) * (M : Int) = (p : Int) := by rw [← hp]; push_cast; rfl
      have e2 : wrap64 (p : Int) = (p : Int) := by simp only [wrap64]; omega
      have E2 := Lib.hid e2
      rw [hkM]
      clear hb hl hnd h1 h2 n0 n1 m0 m1 hkk hk hx hp e2
      go_enter Tryz.func64, Tryz.ntmps64
      go_wp2_with (first
        | (go_at_call 86; (with_reducible refine (HB.out _).mono ?_); rintro e _ ⟨rfl, rfl⟩)
        | (go_at_call 87; (with_reducible refine (HL.out _).mono ?_); rintro e _ ⟨rfl, rfl⟩)
        | (go_at_call 78; (with_reducible refine (HND.out _).mono ?_); rintro e _ ⟨rfl, rfl⟩))
      go_ret2
      exact ⟨by first | rfl | (show Ending.returned (.tuple #[.int .i64 (wrap64 (p : Int)), .int .i64 0]) = _; rw [E2.out]), rfl⟩
    · rw [show bitR n m = (0, 1) from if_neg (by rw [mayB_no (by omega)]; decide)]
      rw [decide_eq_false h2] at hl
      have HL := Lib.hid hl
      clear hb hl h1 h2 n0 n1 m0 m1
      go_enter Tryz.func64, Tryz.ntmps64
      go_wp2_with (first
        | (go_at_call 86; (with_reducible refine (HB.out _).mono ?_); rintro e _ ⟨rfl, rfl⟩)
        | (go_at_call 87; (with_reducible refine (HL.out _).mono ?_); rintro e _ ⟨rfl, rfl⟩))
      go_ret2
      exact ⟨rfl, rfl⟩
  · rw [show bitR n m = (0, 1) from if_neg (by rw [mayB_no (by omega)]; decide)]
    rw [decide_eq_false h1] at hb
    have HB := Lib.hid hb
    clear hb hl h1 n0 n1 m0 m1
    go_enter Tryz.func64, Tryz.ntmps64
    go_wp2_with (first
      | (go_at_call 86; (with_reducible refine (HB.out _).mono ?_); rintro e _ ⟨rfl, rfl⟩))
    go_ret2
    exact ⟨rfl, rfl⟩
theorem q16bits_c (n m : Int) (n0 : 0 ≤ n) (n1 : n < 18446744073709551616) (m0 : -9223372036854775808 ≤ m) (m1 : m < 9223372036854775808) (w : World) : Calls Tryz.prog 64 #[.int .u64 n, .int .i64 m] w fun e w' => e = .returned (.tuple #[.int .i64 (bitR n m).1, .int .i64 (bitR n m).2]) ∧ Below w.heap.size w w' := (q16bits0_c n m n0 n1 m0 m1 w).mono fun _ _ ⟨h1, h2⟩ => ⟨h1, by rw [← h2]; exact Below.refl _ _⟩
theorem q16lost_c (n m : Int) (n0 : 0 ≤ n) (n1 : n < 18446744073709551616) (m0 : -9223372036854775808 ≤ m) (m1 : m < 9223372036854775808) (w : World) : Calls Tryz.prog 65 #[.int .u64 n, .int .i64 m] w (RetNE w (lostR n m)) := by
  have hb := fun W => q16bnd_c n n0 n1 W
  have hl := fun W => q16lst_c m m0 m1 W
  by_cases h1 : 1 ≤ n ∧ n < 9223372036854775808
  · rw [decide_eq_true h1] at hb
    have HB := Lib.hid hb
    by_cases h2 : 1 ≤ m ∧ m ≤ 64
    · have h : mayB n m = true := mayB_iff.2 ⟨h1.1, h1.2, h2.1, h2.2⟩
      rw [show lostR n m = (0, natL (lostV n m)) from if_pos h]
      rw [decide_eq_true h2] at hl
      have HL := Lib.hid hl
      have hll := odd_len h (lostV_le h)
      obtain ⟨hk, hk2⟩ := need_in h1.1 h1.2
      obtain ⟨M, rfl⟩ := Int.eq_ofNat_of_zero_le (show 0 ≤ m by omega)
      unfold lostV at hll ⊢
      rw [Int.toNat_natCast] at hll ⊢
      have hp63 : 2 ^ needN n ≤ 2 ^ 63 := Nat.pow_le_pow_right (by omega) hk
      have hnd := fun W => q8need_c n n0 n1 W
      have hr : oddR n + n.toNat = 2 ^ needN n := by unfold oddR oddP; omega
      have h7 : (natL (oddR n)).length ≤ 256 := small_len (by omega)
      have hpw := fun A c W h1 h2 h3 => qpow_n (x := oddR n) (k := M) h7 (by omega) (by omega) (by omega) A c h1 h2 W h3
      have hof := fun W => q10of_c (oddR n : Int) (by omega) (by omega) W
      rw [Int.toNat_natCast] at hof
      have es : IntKind.u64.wrap ((2 : Int) ^ needN n) = ((2 ^ needN n : Nat) : Int) := by
        have e : ((2 : Int) ^ needN n) = ((2 ^ needN n : Nat) : Int) := by simp
        rw [e, IntKind.wrap_u64]
        omega
      have ed : IntKind.u64.wrap (((2 ^ needN n : Nat) : Int) - n) = (oddR n : Int) := by
        rw [IntKind.wrap_u64]
        omega
      rw [← es] at ed
      obtain ⟨k, hkk⟩ : ∃ k, needN n = k := ⟨_, rfl⟩
      rw [hkk] at hnd hk ed
      obtain ⟨R, hR⟩ : ∃ R : Int, ((oddR n : Nat) : Int) = R := ⟨_, rfl⟩
      rw [hR] at hof ed
      obtain ⟨Z, hZ⟩ : ∃ Z, natL (oddR n ^ M) = Z := ⟨_, rfl⟩
      obtain ⟨Y, hY⟩ : ∃ Z, natL (oddR n) = Z := ⟨_, rfl⟩
      unfold RetNE at hpw ⊢
      unfold RetN at hof
      rw [hZ] at hpw ⊢
      rw [hY] at hpw hof
      dsimp only at hpw ⊢
      have k0 : (0 : Int) ≤ (k : Int) := by omega
      have k1 : (k : Int) < 64 := by omega
      have HND := Lib.hid hnd
      have HOF := Lib.hid hof
      have HPW := Lib.hid hpw
      have G0 := Lib.hid (NFx.start w)
      clear hb hl hnd hof hpw h h1 h2 h7 hkk hk hk2 m0 m1 hZ hY hll hr hp63 es hR n0 n1
      go_enter Tryz.func65, Tryz.ntmps65
      go_wp2_with (first
        | (go_at_call 86; (with_reducible refine (HB.out _).mono ?_); rintro e _ ⟨rfl, rfl⟩)
        | (go_at_call 87; (with_reducible refine (HL.out _).mono ?_); rintro e _ ⟨rfl, rfl⟩)
        | (go_at_call 78; (with_reducible refine (HND.out _).mono ?_); rintro e _ ⟨rfl, rfl⟩)
        | (go_at_call 66; (with_reducible refine (HOF.out _).mono ?_); rintro e w1 ⟨Ay, cy, rfl, hlw1, hmw1, hrw1, hbw1⟩; have Ly := Lib.hid hlw1; have My := Lib.hid hmw1; have G2 := Lib.hid (NFx.add G0.out hbw1 hrw1); clear G0; clear hrw1 hbw1 hlw1 hmw1)
        | (go_at_call 88; (with_reducible refine (HPW.out _ _ _ Ly.out My.out (NFx.r0 G2.out)).mono ?_); rintro e w3 ⟨Az, cz, rfl, hlw3, hmw3, hrw3, hbw3⟩; have Lz := Lib.hid hlw3; have Mz := Lib.hid hmw3; have G4 := Lib.hid (NFx.add G2.out hbw3 hrw3); clear G2; clear hrw3 hbw3 hlw3 hmw3))
      go_ret2
      exact ⟨Az, cz, rfl, Lz.out, Mz.out, (NFx.r0 G4.out), (NFx.bel G4.out)⟩
    · rw [show lostR n m = (1, []) from if_neg (by rw [mayB_no (by omega)]; decide)]
      rw [decide_eq_false h2] at hl
      have HL := Lib.hid hl
      clear hb hl h1 h2 n0 n1 m0 m1
      go_enter Tryz.func65, Tryz.ntmps65
      go_wp2_with (first
        | (go_at_call 86; (with_reducible refine (HB.out _).mono ?_); rintro e _ ⟨rfl, rfl⟩)
        | (go_at_call 87; (with_reducible refine (HL.out _).mono ?_); rintro e _ ⟨rfl, rfl⟩))
      go_ret2
      exact RetNE.nil _ (Below.refl _ _)
  · rw [show lostR n m = (1, []) from if_neg (by rw [mayB_no (by omega)]; decide)]
    rw [decide_eq_false h1] at hb
    have HB := Lib.hid hb
    clear hb hl h1 n0 n1 m0 m1
    go_enter Tryz.func65, Tryz.ntmps65
    go_wp2_with (first
      | (go_at_call 86; (with_reducible refine (HB.out _).mono ?_); rintro e _ ⟨rfl, rfl⟩))
    go_ret2
    exact RetNE.nil _ (Below.refl _ _)
end
end Go.Proofs.YtgnclifmfefbcaaGreatDoor

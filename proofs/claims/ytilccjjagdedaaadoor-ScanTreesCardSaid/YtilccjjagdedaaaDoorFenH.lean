/-
  What the landed Build returns: the tree of the stakes, each number pushed to its parent.
  Conditions: those that each theorem names; the library's table of trailing zeros is as the program's text lays it.
-/
import Derived.Test.YtilccjjagdedaaaDoorFenG
import Derived.Test.YtilccjjagdedaaaDoorSafA
set_option maxRecDepth 100000
set_option linter.unusedVariables false
set_option linter.unusedSimpArgs false
namespace Go.Proofs.YtilccjjagdedaaaDoor
open Go.ChangeShapes Go.WideShapes Go.ChangeAt Go.RowKit
set_option maxHeartbeats 8000000 in
theorem q11build_c (l : List Int) (hz : ∀ z ∈ l, 0 ≤ z ∧ z < 18446744073709551616) (A : Option Addr) (n c : Nat) (hn : n ≤ maxLen) (w : World) (hT : TzT w) (hrd : Rd .u64 w w.heap.size A n l) : Calls Tryd.prog 5 #[.slice A n c] w (RetFen w (bldL l) (bldE l)) := by
  have HR := Lib.hid hrd
  have HTT := Lib.hid hT
  have hlen := hrd.len
  have hnm : (n : Int) ≤ 9223372036854775807 := by unfold maxLen at hn; omega
  have HTO := Lib.hid (fun W h => q9total_c l hz A n c hn W h)
  have HEMP : Hid (∀ er w', bldE l = er ∧ bldL l = [] → Below w.heap.size w w' → RetFen w (bldL l) (bldE l) (.returned (.tuple #[.agg #[.slice none 0 0], .int .i64 er])) w') := Lib.hid (fun er w' h hb => by rw [h.1, h.2]; exact ⟨none, 0, rfl, rd_nil _ _ _ _, Nat.le_refl _, by simp [maxLen], hb⟩)
  clear hT
  by_cases hm : 1048576 < n
  · have hm2 : (1048576 : Int) < (n : Int) := by omega
    have HE := Lib.hid (bldE_many (l := l) (by omega))
    clear hrd hz hm HTO hlen
    go_enter Tryd.func5, Tryd.ntmps5
    go_wp2_with (first
        | (with_reducible refine at_any ?_; refine at_dst 2 rfl ?_; refine wpList_alloc_any rfl 26 rfl #[.slice none 0 0] zero_fen ?_; intro w1 hk1 hs1 hb1; have HK1 := Lib.hid hk1.out; have HB1 := Lib.hid hb1; clear hk1 hs1 hb1)
        | (with_reducible refine at_any ?_; refine at_dst 12 rfl ?_; refine wpList_val rfl (.agg #[.slice none 0 0]) (build_fen0 _ rfl) ?_)
        | (with_reducible refine at_any ?_; refine at_store 2 rfl ?_; refine wpList_store_any rfl 26 (.tmp 2) (.tmp 12) rfl w.heap.size rfl 26 #[.slice none 0 0] #[.slice none 0 0] HK1.out rfl (size1 _ _) (sizedF _) (fen_ones _ _ _) ?_; intro w9 hk9 hs9 hb9 ho9; have HB9 := Lib.hid (HB1.out.trans (hb9 _ (Nat.le_refl _))); have HK9 := Lib.hid hk9.out; clear hb9)
        | (refine bodyPost_any2 2 3 26 rfl w.heap.size rfl (.int .i64 14) rfl 26 #[.slice none 0 0] HK9.out _ Tryd.underlying26 rfl (sizedF _) rfl ?_))
    exact HEMP.out _ _ HE.out HB9.out
  have hm2 : (n : Int) ≤ 1048576 := by omega
  have HN8 : Hid (n ≤ 100000000) := Lib.hid (by omega)
  by_cases hs : sumL l < 9223372036854775808
  · obtain ⟨e1, e2⟩ := sumV_ok hs
    have HE := Lib.hid (bldE_ok (l := l) (by omega) hs)
    rw [e1, e2] at HTO
    obtain ⟨x, hx⟩ : ∃ x, sumL l = x := ⟨_, rfl⟩
    rw [hx] at HTO
    have HEND : Hid (∀ A' c' w', Rd .u64 w' w'.heap.size A' n (treeL l) → n ≤ c' → c' ≤ maxLen → Below w.heap.size w w' → RetFen w (bldL l) (bldE l) (.returned (.tuple #[.agg #[.slice A' n c'], .int .i64 0])) w') := Lib.hid (fun A' c' w' h1 h2 h3 h4 => by rw [HE.out.1, HE.out.2]; refine ⟨A', c', by rw [treeL_len, hlen], ?_⟩; rw [treeL_len, hlen]; exact ⟨h1, h2, h3, h4⟩)
    have hz0 : ∀ z ∈ l, 0 ≤ z := fun z h => (hz z h).1
    by_cases h0 : n = 0
    · subst h0
      obtain rfl : l = [] := List.length_eq_zero_iff.1 hlen
      clear hrd hz hz0 hm hs e1 e2 HE hx
      go_enter Tryd.func5, Tryd.ntmps5
      go_wp2_with (first
        | (with_reducible refine at_any ?_; refine at_dst 2 rfl ?_; refine wpList_alloc_any rfl 26 rfl #[.slice none 0 0] zero_fen ?_; intro w1 hk1 hs1 hb1; have HK1 := Lib.hid hk1.out; have HB1 := Lib.hid hb1; clear hk1 hs1 hb1)
        | (go_at_call 12; (with_reducible refine (HTO.out _ (HR1 HR.out HB1.out)).mono ?_); rintro e _ ⟨rfl, rfl⟩)
        | (go_at_call 13; (with_reducible refine (clone64_c [] A 0 c HN8.out _ (HR1 HR.out HB1.out)).mono ?_); rintro e w2 ⟨v6, rfl, ho2, hb2⟩; obtain ⟨A7, c7, rfl, hc7, hm7⟩ := ho2.form; have HK2 := Lib.hid (HK1.out.below hb2 HK1.out.lt); have HB2 := Lib.hid (HB1.out.trans (hb2.mono HB1.out.size)); have hl0 : ([] : List Int).length = 0 := rfl; rw [hl0]; clear hl0 hb2 ho2))
      go_loopw [7] (fun nn wr => nn = .int .i64 1 ∧ w2 = wr) (fun _ _ => 0)
      case atStart => exact ⟨rfl, by first | rfl | trivial⟩
      case round =>
        obtain ⟨rfl, rfl⟩ := hrel
        go_wp2_with (first
          | (with_reducible refine at_any ?_; refine at_store 2 rfl ?_; refine wpList_store_any rfl 26 (.tmp 2) (.tmp 50) rfl w.heap.size rfl 26 #[.slice none 0 0] #[.slice A7 0 c7] HK2.out rfl (size1 _ _) (sizedF _) (fen_ones _ _ _) ?_; intro w9 hk9 hs9 hb9 ho9; have HB9 := Lib.hid (HB2.out.trans (hb9 _ (Nat.le_refl _))); have HK9 := Lib.hid hk9.out; clear hb9)
          | (refine bodyPost_any2 2 3 26 rfl w.heap.size rfl (.int .i64 0) rfl 26 #[.slice A7 0 c7] HK9.out _ Tryd.underlying26 rfl (sizedF _) rfl ?_))
        exact HEND.out _ _ _ (rd_nil _ _ _ _) hc7 hm7 HB9.out
    · have HPOS : Hid (0 < n) := Lib.hid (by omega)
      have HLN := Lib.hid hlen
      have HNEXT := Lib.hid (fun M (h1 : 1 ≤ M) (h2 : M + lowN M ≤ n) => bldF_next (l := l) (k := M - 1) (by omega) (by rw [show M - 1 + 1 = M by omega]; omega))
      have HOUT := Lib.hid (fun M (h1 : 1 ≤ M) (h2 : n < M + lowN M) => bldF_out (l := l) (k := M - 1) (by rw [show M - 1 + 1 = M by omega]; omega))
      have HBD := Lib.hid (fun k m (hm : m < n) => bldF_bd hz0 k m (by omega))
      have HALL : Hid (bldF l n = treeL l) := Lib.hid (by rw [← hlen]; exact bldF_all l)
      have HZ : Hid (bldF l 0 = l) := Lib.hid (bldF_zero l)
      have HKEEP := Lib.hid (fun M (h1 : 1 ≤ M) (h2 : M ≤ n) => bldF_keep (l := l) (k := M - 1) (j := M - 1) (by omega) (by have := lowN_pos (n := M - 1 + 1) (by omega); omega))
      rw [hx] at hs HBD
      have HSX := Lib.hid hs
      have HLOW := Lib.hid (fun M (h1 : 1 ≤ M) (h2 : M ≤ n) W hW => q11low_c M (by omega) (by omega) W hW)
      clear hrd hz hz0 hm hs e1 e2 HE hx hlen h0
      go_enter Tryd.func5, Tryd.ntmps5
      go_wp2_with (first
        | (with_reducible refine at_any ?_; refine at_dst 2 rfl ?_; refine wpList_alloc_any rfl 26 rfl #[.slice none 0 0] zero_fen ?_; intro w1 hk1 hs1 hb1; have HK1 := Lib.hid hk1.out; have HB1 := Lib.hid hb1; clear hk1 hs1 hb1)
        | (go_at_call 12; (with_reducible refine (HTO.out _ (HR1 HR.out HB1.out)).mono ?_); rintro e _ ⟨rfl, rfl⟩)
        | (go_at_call 13; (with_reducible refine (clone64_c l A n c HN8.out _ (HR1 HR.out HB1.out)).mono ?_); rintro e w2 ⟨v6, rfl, ho2, hb2⟩; obtain ⟨g7, c7, rfl, HS2, HC7, HM7⟩ := bld_start HK1.out HB1.out ho2 hb2 HLN.out HPOS.out; clear ho2 hb2))
      obtain ⟨g2, hg2⟩ : ∃ g, w.heap.size = g := ⟨_, rfl⟩
      have HS3 : Hid (BldS w g2 (.slice none 0 0) g7 c7 n l w2) := Lib.hid (by rw [← hg2]; exact HS2.out)
      have HG2 : Hid (w.heap.size ≤ g2) := Lib.hid (Nat.le_of_eq hg2)
      rw [hg2]
      clear HS2 hg2 HK1 HB1
      go_loopw [7] (fun nn wr => ∃ M : Nat, 1 ≤ M ∧ M ≤ n + 1 ∧ nn = .int .i64 (M : Int) ∧ BldS w g2 (.slice none 0 0) g7 c7 n (bldF l (M - 1)) wr) (fun nn _ => n + 1 - (intOf nn).toNat)
      case atStart => exact ⟨1, Nat.le_refl _, by omega, rfl, by rw [Nat.sub_self, HZ.out]; exact HS3.out⟩
      case round =>
        clear HS3
        obtain ⟨M, hM1, hM2, rfl, hS⟩ := hrel
        have HS := Lib.hid hS
        clear hS
        by_cases hMn : M ≤ n
        · have hlow := fun W hW => HLOW.out M hM1 hMn W hW
          have hlp := lowN_pos (n := M) (by omega)
          have hll := lowN_le M
          have hmi : (M : Int) ≤ 1048576 := by omega
          have hm1 : (1 : Int) ≤ (M : Int) := by omega
          have HMN := Lib.hid hMn
          have hMnI : (M : Int) ≤ (n : Int) := by omega
          by_cases ha : M + lowN M ≤ n
          · have hnx := HNEXT.out M hM1 ha
            have hbq := HBD.out (M - 1) (M + lowN M - 1) (by omega)
            have hbk := HBD.out (M - 1) (M - 1) (by omega)
            have hbs := HBD.out M (M + lowN M - 1) (by omega)
            obtain ⟨k, hk⟩ : ∃ k, M - 1 = k := ⟨_, rfl⟩
            have hk1 : k + 1 = M := by omega
            rw [hk] at HS hnx hbq hbk
            rw [hk1] at hnx
            obtain ⟨lo, hlo⟩ : ∃ x, lowN M = x := ⟨_, rfl⟩
            rw [hlo] at hnx hbq hbs hlp hll ha hlow
            obtain ⟨q, hq⟩ : ∃ q, M + lo - 1 = q := ⟨_, rfl⟩
            have hkq : k + lo = q := by omega
            rw [hkq] at hnx
            rw [hq] at hbq hbs
            obtain ⟨B, hB⟩ : ∃ B, bldF l k = B := ⟨_, rfl⟩
            rw [hB] at HS hnx hbq hbk
            obtain ⟨x2, hx2⟩ : ∃ z, B.getD q 0 = z := ⟨_, rfl⟩
            obtain ⟨y, hy⟩ : ∃ z, B.getD k 0 = z := ⟨_, rfl⟩
            have hlB := HS.out.len
            have hsv : (bldF l M).getD q 0 = x2 + y := by
              rw [← hnx, List.getD_eq_getElem?_getD, List.getElem?_set_self (by omega), hx2, hy]
              rfl
            rw [hsv] at hbs
            rw [hx2, hy] at hnx
            rw [hx2] at hbq
            rw [hy] at hbk
            have hsx := HSX.out
            have HX := Lib.hid hx2
            have HY := Lib.hid hy
            have HLOWW := Lib.hid hlow
            obtain ⟨s, hs⟩ : ∃ s, x2 + y = s := ⟨_, rfl⟩
            rw [hs] at hnx hbs
            have HNX := Lib.hid hnx
            have HSW : Hid (IntKind.u64.wrap (x2 + y) = s) := Lib.hid (by rw [hs, IntKind.wrap_u64]; omega)
            obtain ⟨a, hae⟩ : ∃ a, M + lo = a := ⟨_, rfl⟩
            have haI : (M : Int) + (lo : Int) = (a : Int) := by omega
            have han : (a : Int) ≤ (n : Int) := by omega
            have ha1 : (1 : Int) ≤ (a : Int) := by omega
            have HQW : Hid (IntKind.i64.wrap ((a : Int) - 1) = (q : Int)) := Lib.hid (by rw [IntKind.wrap_i64]; omega)
            have HQN : Hid ((q : Int) < (n : Int)) := Lib.hid (by omega)
            have HQL : Hid (q < n) := Lib.hid (by omega)
            have HKW : Hid (IntKind.i64.wrap ((M : Int) - 1) = (k : Int)) := Lib.hid (by rw [IntKind.wrap_i64]; omega)
            have HKN : Hid ((k : Int) < (n : Int)) := Lib.hid (by omega)
            have HKL : Hid (k < n) := Lib.hid (by omega)
            obtain ⟨x, hxx⟩ : ∃ z, x2 = z := ⟨_, rfl⟩
            rw [hxx] at HX HSW
            clear hnx hbq hbk hbs hk hk1 hlo hq hkq hB hx2 hy hlB hsv hsx hs hlp hll ha hlow hMn hae hxx hM2
            go_wp2_with (first
              | (go_at_call 14; (with_reducible refine (HLOWW.out _ (HTT.out.below HS.out.bel)).mono ?_); rintro e _ ⟨rfl, rfl⟩))
            have HS8 := Lib.hid HS.out.drew
            obtain ⟨cur, HKC, HSC⟩ := HS8.out.blk HPOS.out
            have HXC := Lib.hid (HS8.out.cell HQL.out HX.out)
            have HYC := Lib.hid (HS8.out.cell HKL.out HY.out)
            clear HS
            refine wp_region_held_drew (S := PAnyT) (by kernel_rfl) trivial (fun hH => ?_)
            refine wpAnyH_letter #[false, false, false, false, false, false, false, false, false, false, false, false, false] (by kernel_rfl) (fun _ _ d _ _ h => by cases d <;> exact h) (fun QL HQ1 HQ2 => ?_)
            refine held_v 0 (some 37) rfl (by kernel_rfl) (by kernel_rfl) (by kernel_rfl) (by kernel_rfl) (fun c a v w h => HQ2.out c a _ v w h) (by kernel_rfl) (.slice (some ⟨g7, 0, none⟩) n c7) (fun W h => by kernel_rfl) trivial ?_
            try simp only [Act.put, List.setIfInBounds_toArray, List.set_cons_zero, List.set_cons_succ]
            refine held_v 1 (some 38) rfl (by kernel_rfl) (by kernel_rfl) (by kernel_rfl) (by kernel_rfl) (fun c a v w h => HQ2.out c a _ v w h) (by kernel_rfl) (.int .i64 (a : Int)) (fun W h => by kernel_rfl) trivial ?_
            try simp only [Act.put, List.setIfInBounds_toArray, List.set_cons_zero, List.set_cons_succ]
            refine held_v 2 (some 39) rfl (by kernel_rfl) (by kernel_rfl) (by kernel_rfl) (by kernel_rfl) (fun c a v w h => HQ2.out c a _ v w h) (by kernel_rfl) (.int .i64 (q : Int)) (fun W h => by have p := HQW.out; go_simp) trivial ?_
            try simp only [Act.put, List.setIfInBounds_toArray, List.set_cons_zero, List.set_cons_succ]
            refine held_v 3 (some 40) rfl (by kernel_rfl) (by kernel_rfl) (by kernel_rfl) (by kernel_rfl) (fun c a v w h => HQ2.out c a _ v w h) (by kernel_rfl) (.pointer (some ⟨g7, q, none⟩)) (fun W h => by have p := HQN.out; go_simp) trivial ?_
            try simp only [Act.put, List.setIfInBounds_toArray, List.set_cons_zero, List.set_cons_succ]
            refine held_v 5 (some 42) rfl (by kernel_rfl) (by kernel_rfl) (by kernel_rfl) (by kernel_rfl) (fun c a v w h => HQ2.out c a _ v w h) (by kernel_rfl) (.slice (some ⟨g7, 0, none⟩) n c7) (fun W h => by kernel_rfl) trivial ?_
            try simp only [Act.put, List.setIfInBounds_toArray, List.set_cons_zero, List.set_cons_succ]
            refine held_v 6 (some 43) rfl (by kernel_rfl) (by kernel_rfl) (by kernel_rfl) (by kernel_rfl) (fun c a v w h => HQ2.out c a _ v w h) (by kernel_rfl) (.int .i64 (M : Int)) (fun W h => by kernel_rfl) trivial ?_
            try simp only [Act.put, List.setIfInBounds_toArray, List.set_cons_zero, List.set_cons_succ]
            refine held_v 7 (some 44) rfl (by kernel_rfl) (by kernel_rfl) (by kernel_rfl) (by kernel_rfl) (fun c a v w h => HQ2.out c a _ v w h) (by kernel_rfl) (.int .i64 (k : Int)) (fun W h => by have p := HKW.out; go_simp) trivial ?_
            try simp only [Act.put, List.setIfInBounds_toArray, List.set_cons_zero, List.set_cons_succ]
            refine held_v 8 (some 45) rfl (by kernel_rfl) (by kernel_rfl) (by kernel_rfl) (by kernel_rfl) (fun c a v w h => HQ2.out c a _ v w h) (by kernel_rfl) (.pointer (some ⟨g7, k, none⟩)) (fun W h => by have p := HKN.out; go_simp) trivial ?_
            try simp only [Act.put, List.setIfInBounds_toArray, List.set_cons_zero, List.set_cons_succ]
            refine wpAnyH_ready (rs := [4, 9]) (by kernel_rfl) (by decide) ?_
            refine AllReadyH.cons rfl (fun K hK => ?_) (AllReadyH.cons rfl (fun K hK => ?_) AllReadyH.nil)
            · refine step_v (some 41) (by kernel_rfl) (by kernel_rfl) (.int .u64 x) (by have p := HXC.out; go_simp) ?_
              refine hK.out _ _ trivial (fun _ => ?_)
              clear hK K
              try simp only [Act.put, List.setIfInBounds_toArray, List.set_cons_zero, List.set_cons_succ]
              refine wpAnyH_ready (rs := [9]) (by kernel_rfl) (by decide) ?_
              refine AllReadyH.cons rfl (fun K hK => ?_) AllReadyH.nil
              refine step_v (some 46) (by kernel_rfl) (by kernel_rfl) (.int .u64 y) (by have p := HYC.out; go_simp) ?_
              refine hK.out _ _ trivial (fun _ => ?_)
              clear hK K
              try simp only [Act.put, List.setIfInBounds_toArray, List.set_cons_zero, List.set_cons_succ]
              refine held_v 10 (some 47) rfl (by kernel_rfl) (by kernel_rfl) (by kernel_rfl) (by kernel_rfl) (fun c a v w h => HQ2.out c a _ v w h) (by kernel_rfl) (.int .u64 s) (fun W h => by have p := HSW.out; go_simp) trivial ?_
              try simp only [Act.put, List.setIfInBounds_toArray, List.set_cons_zero, List.set_cons_succ]
              refine held_v 11 (some 48) rfl (by kernel_rfl) (by kernel_rfl) (by kernel_rfl) (by kernel_rfl) (fun c a v w h => HQ2.out c a _ v w h) (by kernel_rfl) (.pointer (some ⟨g7, q, none⟩)) (fun W h => by have p := HQN.out; go_simp) trivial ?_
              try simp only [Act.put, List.setIfInBounds_toArray, List.set_cons_zero, List.set_cons_succ]
              refine wpAnyH_ready (rs := [12]) (by kernel_rfl) (by decide) ?_
              refine AllReadyH.cons rfl (fun K hK => ?_) AllReadyH.nil
              refine step_store_cell none (by kernel_rfl) (by kernel_rfl) 22 (.tmp 48) (.tmp 47) rfl g7 q (by kernel_rfl) 22 cur HKC.out (.int .u64 s) (by kernel_rfl) (HSC.out _ HQL.out) size_u64f rfl rfl ?_
              intro w41 hkw41 how41
              have HNEW := Lib.hid (BldS.put HS8.out HKC.out HQL.out hkw41.out how41)
              clear hkw41 how41
              refine hK.out _ _ trivial (fun _ => ?_)
              clear hK K
              try simp only [Act.put, List.setIfInBounds_toArray, List.set_cons_zero, List.set_cons_succ]
              refine wpAnyH_done (by kernel_rfl) ?_ _
              refine HQ1.out _ _ ?_
              clear HQ1 HQ2
              clear HS8 HKC HSC HX HY HXC HYC
              go_wp2
              go_roundw
              case rel => exact ⟨M + 1, by omega, by have := HMN.out; omega, by go_num, by rw [Nat.add_sub_cancel, ← HNX.out]; exact HNEW.out⟩
              case measure => have := HMN.out; simp [intOf]; omega
            · refine step_v (some 46) (by kernel_rfl) (by kernel_rfl) (.int .u64 y) (by have p := HYC.out; go_simp) ?_
              refine hK.out _ _ trivial (fun _ => ?_)
              clear hK K
              try simp only [Act.put, List.setIfInBounds_toArray, List.set_cons_zero, List.set_cons_succ]
              refine wpAnyH_ready (rs := [4]) (by kernel_rfl) (by decide) ?_
              refine AllReadyH.cons rfl (fun K hK => ?_) AllReadyH.nil
              refine step_v (some 41) (by kernel_rfl) (by kernel_rfl) (.int .u64 x) (by have p := HXC.out; go_simp) ?_
              refine hK.out _ _ trivial (fun _ => ?_)
              clear hK K
              try simp only [Act.put, List.setIfInBounds_toArray, List.set_cons_zero, List.set_cons_succ]
              refine held_v 10 (some 47) rfl (by kernel_rfl) (by kernel_rfl) (by kernel_rfl) (by kernel_rfl) (fun c a v w h => HQ2.out c a _ v w h) (by kernel_rfl) (.int .u64 s) (fun W h => by have p := HSW.out; go_simp) trivial ?_
              try simp only [Act.put, List.setIfInBounds_toArray, List.set_cons_zero, List.set_cons_succ]
              refine held_v 11 (some 48) rfl (by kernel_rfl) (by kernel_rfl) (by kernel_rfl) (by kernel_rfl) (fun c a v w h => HQ2.out c a _ v w h) (by kernel_rfl) (.pointer (some ⟨g7, q, none⟩)) (fun W h => by have p := HQN.out; go_simp) trivial ?_
              try simp only [Act.put, List.setIfInBounds_toArray, List.set_cons_zero, List.set_cons_succ]
              refine wpAnyH_ready (rs := [12]) (by kernel_rfl) (by decide) ?_
              refine AllReadyH.cons rfl (fun K hK => ?_) AllReadyH.nil
              refine step_store_cell none (by kernel_rfl) (by kernel_rfl) 22 (.tmp 48) (.tmp 47) rfl g7 q (by kernel_rfl) 22 cur HKC.out (.int .u64 s) (by kernel_rfl) (HSC.out _ HQL.out) size_u64f rfl rfl ?_
              intro w42 hkw42 how42
              have HNEW := Lib.hid (BldS.put HS8.out HKC.out HQL.out hkw42.out how42)
              clear hkw42 how42
              refine hK.out _ _ trivial (fun _ => ?_)
              clear hK K
              try simp only [Act.put, List.setIfInBounds_toArray, List.set_cons_zero, List.set_cons_succ]
              refine wpAnyH_done (by kernel_rfl) ?_ _
              refine HQ1.out _ _ ?_
              clear HQ1 HQ2
              clear HS8 HKC HSC HX HY HXC HYC
              go_wp2
              go_roundw
              case rel => exact ⟨M + 1, by omega, by have := HMN.out; omega, by go_num, by rw [Nat.add_sub_cancel, ← HNX.out]; exact HNEW.out⟩
              case measure => have := HMN.out; simp [intOf]; omega
          · have hout := HOUT.out M hM1 (by omega)
            rw [show M - 1 + 1 = M by omega] at hout
            have HO := Lib.hid hout
            obtain ⟨lo, hlo⟩ : ∃ x, lowN M = x := ⟨_, rfl⟩
            rw [hlo] at hlp hll ha hlow
            have HLOWW := Lib.hid hlow
            obtain ⟨a, hae⟩ : ∃ a, M + lo = a := ⟨_, rfl⟩
            have haI : (M : Int) + (lo : Int) = (a : Int) := by omega
            have han : ¬ (a : Int) ≤ (n : Int) := by omega
            have ha1 : (a : Int) ≤ 2097152 := by omega
            clear hout hlo hlp hll ha hlow hMn hae hM2
            go_wp2_with (first
              | (go_at_call 14; (with_reducible refine (HLOWW.out _ (HTT.out.below HS.out.bel)).mono ?_); rintro e _ ⟨rfl, rfl⟩))
            go_roundw
            case rel => exact ⟨M + 1, by omega, by have := HMN.out; omega, by go_num, by rw [Nat.add_sub_cancel, HO.out]; exact HS.out⟩
            case measure => have := HMN.out; simp [intOf]; omega
        · obtain rfl : M = n + 1 := by omega
          rw [Nat.add_sub_cancel, HALL.out] at HS
          have hgt : ¬ ((n + 1 : Nat) : Int) ≤ (n : Int) := by omega
          have HK2 := Lib.hid HS.out.b2
          have HB2 := Lib.hid HS.out.bel
          have HRX := Lib.hid HS.out.rd
          clear hMn hM1 hM2
          go_wp2_with (first
            | (with_reducible refine at_any ?_; refine at_store 2 rfl ?_; refine wpList_store_any rfl 26 (.tmp 2) (.tmp 50) rfl g2 rfl 26 #[.slice none 0 0] #[.slice (some ⟨g7, 0, none⟩) n c7] HK2.out rfl (size1 _ _) (sizedF _) (fen_ones _ _ _) ?_; intro w9 hk9 hs9 hb9 ho9; have HB9 := Lib.hid (HB2.out.trans (hb9 _ (HG2.out))); have HK9 := Lib.hid hk9.out; have HR9 := Lib.hid (rd_past HRX.out HK2.out hs9.out ho9); clear hb9)
            | (refine bodyPost_any2 2 3 26 rfl g2 rfl (.int .i64 0) rfl 26 #[.slice (some ⟨g7, 0, none⟩) n c7] HK9.out _ Tryd.underlying26 rfl (sizedF _) rfl ?_))
          exact HEND.out _ _ _ HR9.out HC7.out HM7.out HB9.out
  · obtain ⟨e1, e2⟩ := sumV_no hs
    have HE := Lib.hid (bldE_big (l := l) (by omega) hs)
    rw [e1, e2] at HTO
    clear hrd hz hm hs e1 e2 hlen
    go_enter Tryd.func5, Tryd.ntmps5
    go_wp2_with (first
      | (with_reducible refine at_any ?_; refine at_dst 2 rfl ?_; refine wpList_alloc_any rfl 26 rfl #[.slice none 0 0] zero_fen ?_; intro w1 hk1 hs1 hb1; have HK1 := Lib.hid hk1.out; have HB1 := Lib.hid hb1; clear hk1 hs1 hb1)
      | (go_at_call 12; (with_reducible refine (HTO.out _ (HR1 HR.out HB1.out)).mono ?_); rintro e _ ⟨rfl, rfl⟩)
      | (with_reducible refine at_any ?_; refine at_dst 20 rfl ?_; refine wpList_val rfl (.agg #[.slice none 0 0]) (build_fen0 _ rfl) ?_)
      | (with_reducible refine at_any ?_; refine at_store 2 rfl ?_; refine wpList_store_any rfl 26 (.tmp 2) (.tmp 20) rfl w.heap.size rfl 26 #[.slice none 0 0] #[.slice none 0 0] HK1.out rfl (size1 _ _) (sizedF _) (fen_ones _ _ _) ?_; intro w9 hk9 hs9 hb9 ho9; have HB9 := Lib.hid (HB1.out.trans (hb9 _ (Nat.le_refl _))); have HK9 := Lib.hid hk9.out; clear hb9)
      | (refine bodyPost_any2 2 3 26 rfl w.heap.size rfl (.int .i64 11) rfl 26 #[.slice none 0 0] HK9.out _ Tryd.underlying26 rfl (sizedF _) rfl ?_))
    exact HEMP.out _ _ HE.out HB9.out
end Go.Proofs.YtilccjjagdedaaaDoor

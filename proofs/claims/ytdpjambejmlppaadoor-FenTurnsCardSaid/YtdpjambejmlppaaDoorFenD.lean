/-
  What a tree's calls that read it return: its length, the sums of its first stakes, their total, a stake.
  Conditions: the tree is that of a list of stakes; the library's table of trailing zeros is as the program's text lays it.
-/
import Derived.Test.YtdpjambejmlppaaDoorFenC
set_option maxRecDepth 100000
set_option linter.unusedVariables false
set_option linter.unusedSimpArgs false
set_option linter.unusedSectionVars false
namespace Go.Proofs.YtdpjambejmlppaaDoor
open Go.ChangeShapes Go.WideShapes Go.ChangeAt Go.RowKit
theorem q11has_c (A : Option Addr) (n c : Nat) (i : Int) (b : Bool) (hb : b = decide (0 ≤ i ∧ i < (n : Int))) (w : World) : Calls Tryd.prog 31 #[.agg #[.slice A n c], .int .i64 i] w fun e w' => e = .returned (.bool b) ∧ Below w.heap.size w w' := by
  by_cases h0 : 0 ≤ i
  · have hbv : decide (i < (n : Int)) = b := by rw [hb]; simp [h0]
    clear hb
    go_enter Tryd.func31, Tryd.ntmps31
    go_wp2_with (first
      | (with_reducible refine at_any ?_; refine at_dst 2 rfl ?_; refine wpList_box_any rfl 25 (.tmp 0) rfl #[.slice A n c] rfl ?_; intro w1 hk1 hs1 hb1; have HK1 := Lib.hid hk1.out; have HB1 := Lib.hid hb1; have cz := Blk.cell0 HK1.out; clear hk1 hs1 hb1)
      | (with_reducible refine at_any ?_; refine at_dst 9 rfl ?_; refine wpList_load_fen (by kernel_rfl) (.tmp 2) rfl w.heap.size rfl 25 (.slice A n c) HK1.out ?_)
      | (go_at_call 15; (with_reducible refine (q11len_c _ _ _ _).mono ?_); rintro e w2 ⟨rfl, hb2⟩; have HB2 := Lib.hid (HB1.out.trans (hb2.mono HB1.out.size)); have HK2 := Lib.hid (HK1.out.below hb2 HK1.out.lt); have cz2 := Blk.cell0 HK2.out; clear hb2))
    go_ret
    exact ⟨by first | (rw [hbv]; rfl) | rfl | (subst hbv; rfl), by first | exact HB2.out | exact HB1.out⟩
  · obtain rfl : b = false := by rw [hb]; simp [h0]
    clear hb
    go_enter Tryd.func31, Tryd.ntmps31
    go_wp2_with (first
      | (with_reducible refine at_any ?_; refine at_dst 2 rfl ?_; refine wpList_box_any rfl 25 (.tmp 0) rfl #[.slice A n c] rfl ?_; intro w1 hk1 hs1 hb1; have HK1 := Lib.hid hk1.out; have HB1 := Lib.hid hb1; have cz := Blk.cell0 HK1.out; clear hk1 hs1 hb1)
      | (with_reducible refine at_any ?_; refine at_dst 9 rfl ?_; refine wpList_load_fen (by kernel_rfl) (.tmp 2) rfl w.heap.size rfl 25 (.slice A n c) HK1.out ?_)
      | (go_at_call 15; (with_reducible refine (q11len_c _ _ _ _).mono ?_); rintro e w2 ⟨rfl, hb2⟩; have HB2 := Lib.hid (HB1.out.trans (hb2.mono HB1.out.size)); have HK2 := Lib.hid (HK1.out.below hb2 HK1.out.lt); have cz2 := Blk.cell0 HK2.out; clear hb2))
    go_ret
    exact ⟨rfl, by first | exact HB2.out | exact HB1.out⟩
section
variable (l : List Int) (hz : ∀ z ∈ l, 0 ≤ z) (hs : sumL l < 9223372036854775808) (hl : l.length ≤ 1048576) (A : Option Addr) (n c : Nat) (hn : l.length = n) (hc : n ≤ c) (hcm : c ≤ maxLen)
include hz hs hl hn hc hcm
set_option maxHeartbeats 2000000 in
theorem q11prefix_c (i : Int) (i0 : -9223372036854775808 ≤ i) (i1 : i < 9223372036854775808) (w : World) (hT : TzT w) (hrd : Rd .u64 w w.heap.size A n (treeL l)) : Calls Tryd.prog 17 #[.agg #[.slice A n c], .int .i64 i] w fun e w' => e = .returned (.tuple #[.int .u64 (preV l i), .int .i64 (preE l i)]) ∧ Below w.heap.size w w' := by
  have HR := Lib.hid hrd
  have HTT := Lib.hid hT
  have hnI : (n : Int) ≤ 1048576 := by omega
  by_cases hin : 0 ≤ i ∧ i ≤ (l.length : Int)
  · obtain ⟨e1, e2⟩ := pre_ok hin
    rw [e1, e2]
    obtain ⟨k, rfl⟩ := Int.eq_ofNat_of_zero_le hin.1
    rw [Int.toNat_natCast]
    have hkn : k ≤ n := by omega
    have HF := Lib.hid (fun W hW h => q11first_c l hz hs A n c hn (by omega) k hkn W hW h)
    obtain ⟨x, hx⟩ : ∃ x, preL l k = x := ⟨_, rfl⟩
    rw [hx] at HF ⊢
    have hk0 : ¬ (k : Int) < 0 := by omega
    have hkn2 : ¬ (n : Int) < (k : Int) := by omega
    clear hz hs hl hn hc hcm i0 i1 hrd hT e1 e2 hx hin hkn
    go_enter Tryd.func17, Tryd.ntmps17
    go_wp2_with (first
      | (with_reducible refine at_any ?_; refine at_dst 2 rfl ?_; refine wpList_box_any rfl 25 (.tmp 0) rfl #[.slice A n c] rfl ?_; intro w1 hk1 hs1 hb1; have HK1 := Lib.hid hk1.out; have HB1 := Lib.hid hb1; have cz := Blk.cell0 HK1.out; clear hk1 hs1 hb1)
      | (with_reducible refine at_any ?_; refine at_dst 10 rfl ?_; refine wpList_load_fen (by kernel_rfl) (.tmp 2) rfl w.heap.size rfl 25 (.slice A n c) HK1.out ?_)
      | (go_at_call 15; (with_reducible refine (q11len_c _ _ _ _).mono ?_); rintro e w2 ⟨rfl, hb2⟩; have HB2 := Lib.hid (HB1.out.trans (hb2.mono HB1.out.size)); have HK2 := Lib.hid (HK1.out.below hb2 HK1.out.lt); have cz2 := Blk.cell0 HK2.out; clear hb2)
      | (with_reducible refine at_any ?_; refine at_dst 14 rfl ?_; refine wpList_load_fen (by kernel_rfl) (.tmp 2) rfl w.heap.size rfl 25 (.slice A n c) HK2.out ?_)
      | (go_at_call 30; (with_reducible refine (HF.out _ (HTT.out.below HB2.out) (HR1 HR.out HB2.out)).mono ?_); rintro e w3 ⟨rfl, hb3⟩; have HB3 := Lib.hid (HB2.out.trans (hb3.mono HB2.out.size)); have HK3 := Lib.hid (HK2.out.below hb3 HK2.out.lt); have cz3 := Blk.cell0 HK3.out; clear hb3))
    go_ret2
    exact ⟨rfl, HB3.out⟩
  · obtain ⟨e1, e2⟩ := pre_no hin
    rw [e1, e2]
    rw [hn] at hin
    clear hz hs hl hn hc hcm hrd hT e1 e2
    by_cases hi0 : i < 0
    · go_enter Tryd.func17, Tryd.ntmps17
      go_wp2_with (first
        | (with_reducible refine at_any ?_; refine at_dst 2 rfl ?_; refine wpList_box_any rfl 25 (.tmp 0) rfl #[.slice A n c] rfl ?_; intro w1 hk1 hs1 hb1; have HK1 := Lib.hid hk1.out; have HB1 := Lib.hid hb1; have cz := Blk.cell0 HK1.out; clear hk1 hs1 hb1)
        | (with_reducible refine at_any ?_; refine at_dst 10 rfl ?_; refine wpList_load_fen (by kernel_rfl) (.tmp 2) rfl w.heap.size rfl 25 (.slice A n c) HK1.out ?_)
        | (go_at_call 15; (with_reducible refine (q11len_c _ _ _ _).mono ?_); rintro e w2 ⟨rfl, hb2⟩; have HB2 := Lib.hid (HB1.out.trans (hb2.mono HB1.out.size)); have HK2 := Lib.hid (HK1.out.below hb2 HK1.out.lt); have cz2 := Blk.cell0 HK2.out; clear hb2))
      go_ret2
      exact ⟨rfl, by first | exact HB2.out | exact HB1.out⟩
    · have hi2 : (n : Int) < i := by omega
      clear hin
      go_enter Tryd.func17, Tryd.ntmps17
      go_wp2_with (first
        | (with_reducible refine at_any ?_; refine at_dst 2 rfl ?_; refine wpList_box_any rfl 25 (.tmp 0) rfl #[.slice A n c] rfl ?_; intro w1 hk1 hs1 hb1; have HK1 := Lib.hid hk1.out; have HB1 := Lib.hid hb1; have cz := Blk.cell0 HK1.out; clear hk1 hs1 hb1)
        | (with_reducible refine at_any ?_; refine at_dst 10 rfl ?_; refine wpList_load_fen (by kernel_rfl) (.tmp 2) rfl w.heap.size rfl 25 (.slice A n c) HK1.out ?_)
        | (go_at_call 15; (with_reducible refine (q11len_c _ _ _ _).mono ?_); rintro e w2 ⟨rfl, hb2⟩; have HB2 := Lib.hid (HB1.out.trans (hb2.mono HB1.out.size)); have HK2 := Lib.hid (HK1.out.below hb2 HK1.out.lt); have cz2 := Blk.cell0 HK2.out; clear hb2))
      go_ret2
      exact ⟨rfl, by first | exact HB2.out | exact HB1.out⟩
set_option maxHeartbeats 2000000 in
theorem q11total_c (w : World) (hT : TzT w) (hrd : Rd .u64 w w.heap.size A n (treeL l)) : Calls Tryd.prog 14 #[.agg #[.slice A n c]] w fun e w' => e = .returned (.int .u64 (sumL l)) ∧ Below w.heap.size w w' := by
  have HR := Lib.hid hrd
  have HTT := Lib.hid hT
  have hf := fun W hW h => q11first_c l hz hs A n c hn (by omega) n (Nat.le_refl _) W hW h
  rw [← hn, preL_all, hn] at hf
  obtain ⟨x, hx⟩ : ∃ x, sumL l = x := ⟨_, rfl⟩
  obtain ⟨ts, hts⟩ : ∃ x, treeL l = x := ⟨_, rfl⟩
  rw [hts] at hf HR
  rw [hx] at hf ⊢
  have HF := Lib.hid hf
  have hnI : (n : Int) ≤ 1048576 := by omega
  clear hrd hz hs hl hn hc hcm hf hx hT hts
  go_enter Tryd.func14, Tryd.ntmps14
  go_wp2_with (first
    | (with_reducible refine at_any ?_; refine at_dst 1 rfl ?_; refine wpList_box_any rfl 25 (.tmp 0) rfl #[.slice A n c] rfl ?_; intro w1 hk1 hs1 hb1; have HK1 := Lib.hid hk1.out; have HB1 := Lib.hid hb1; clear hk1 hs1 hb1))
  obtain ⟨gB, hgB⟩ : ∃ g, w.heap.size = g := ⟨_, rfl⟩
  have G1 : Hid (Fx [.blk gB 25 #[.slice A n c], .rdb .u64 w.heap.size A n ts, .bel w] w1) := Lib.hid ⟨by rw [← hgB]; exact HK1.out, ⟨HR.out.below HB1.out, HB1.out.size⟩, HB1.out, trivial⟩
  have cG := Blk.cell0 (Fx.b0 G1.out)
  rw [hgB]
  clear hgB HK1
  refine wp_region_held_drew (S := (Fx [.blk gB 25 #[.slice A n c], .rdb .u64 w.heap.size A n ts, .bel w])) (by kernel_rfl) (Fx.drew G1.out) (fun hH => ?_)
  refine wpAnyH_letter #[false, false, false, false, false] (by kernel_rfl) (fun _ _ d _ _ h => by cases d <;> exact h) (fun QL HQ1 HQ2 => ?_)
  refine held_row 0 (some 3) rfl (by kernel_rfl) (by kernel_rfl) (by kernel_rfl) (by kernel_rfl) (fun c a v w h => HQ2.out c a _ v w h) (by kernel_rfl) 25 (.tmp 1) rfl gB (by kernel_rfl) 25 #[.slice A n c] (fun _ h => (Fx.b0 h)) _ Tryd.underlying25 rfl (sizedF _) hH ?_
  try simp only [Act.put, List.setIfInBounds_toArray, List.set_cons_zero, List.set_cons_succ]
  refine held_row 1 (some 4) rfl (by kernel_rfl) (by kernel_rfl) (by kernel_rfl) (by kernel_rfl) (fun c a v w h => HQ2.out c a _ v w h) (by kernel_rfl) 25 (.tmp 1) rfl gB (by kernel_rfl) 25 #[.slice A n c] (fun _ h => (Fx.b0 h)) _ Tryd.underlying25 rfl (sizedF _) hH ?_
  try simp only [Act.put, List.setIfInBounds_toArray, List.set_cons_zero, List.set_cons_succ]
  refine wpAnyH_ready (rs := [2]) (by kernel_rfl) (by decide) ?_
  refine AllReadyH.cons rfl (fun K hK => ?_) AllReadyH.nil
  refine step_call (some 5) (by kernel_rfl) (by kernel_rfl) _ _ (by kernel_rfl) _ (q11len_c A n c _) ?_
  rintro e w41 ⟨rfl, hbw41⟩
  refine ⟨_, rfl, ?_⟩
  refine hK.out _ _ (hH.below hbw41) (fun hw41 => ?_)
  clear hK K
  try simp only [Act.put, List.setIfInBounds_toArray, List.set_cons_zero, List.set_cons_succ]
  refine wpAnyH_ready (rs := [3]) (by kernel_rfl) (by decide) ?_
  refine AllReadyH.cons rfl (fun K hK => ?_) AllReadyH.nil
  refine step_call (some 6) (by kernel_rfl) (by kernel_rfl) _ _ (by kernel_rfl) _ (HF.out _ (HTT.out.below (Fx.e2 hw41)) (Fx.r1 hw41)) ?_
  rintro e w42 ⟨rfl, hbw42⟩
  refine ⟨_, rfl, ?_⟩
  refine hK.out _ _ (hw41.below hbw42) (fun hw42 => ?_)
  clear hK K
  try simp only [Act.put, List.setIfInBounds_toArray, List.set_cons_zero, List.set_cons_succ]
  refine held_v 4 (some 2) rfl (by kernel_rfl) (by kernel_rfl) (by kernel_rfl) (by kernel_rfl) (fun c a v w h => HQ2.out c a _ v w h) (by kernel_rfl) (.int .u64 x) (fun W h => by kernel_rfl) hw42 ?_
  try simp only [Act.put, List.setIfInBounds_toArray, List.set_cons_zero, List.set_cons_succ]
  refine wpAnyH_done (by kernel_rfl) ?_ _
  refine HQ1.out _ _ ?_
  clear HQ1 HQ2
  go_wp2
  go_ret
  exact ⟨rfl, Fx.e2 hw42⟩
set_option maxHeartbeats 2000000 in
theorem q11at_c (i : Int) (i0 : -9223372036854775808 ≤ i) (i1 : i < 9223372036854775808) (w : World) (hT : TzT w) (hrd : Rd .u64 w w.heap.size A n (treeL l)) : Calls Tryd.prog 18 #[.agg #[.slice A n c], .int .i64 i] w fun e w' => e = .returned (.tuple #[.int .u64 (atV l i), .int .i64 (atE l i)]) ∧ Below w.heap.size w w' := by
  have HR := Lib.hid hrd
  have HTT := Lib.hid hT
  have hnI : (n : Int) ≤ 1048576 := by omega
  by_cases hin : 0 ≤ i ∧ i < (l.length : Int)
  · obtain ⟨e1, e2⟩ := at_ok hin
    rw [e1, e2]
    obtain ⟨k, rfl⟩ := Int.eq_ofNat_of_zero_le hin.1
    rw [Int.toNat_natCast]
    have hkn : k < n := by omega
    have hf1 := fun W hW h => q11first_c l hz hs A n c hn (by omega) (k + 1) hkn W hW h
    have hf0 := fun W hW h => q11first_c l hz hs A n c hn (by omega) k (by omega) W hW h
    have hnx := preL_next (l := l) (n := k) (by omega)
    have hp0 := preL_nn hz k
    have hpm := preL_mono hz (show k ≤ k + 1 by omega)
    have hple := Int.lt_of_le_of_lt (preL_le hz (k + 1)) hs
    obtain ⟨x, hx⟩ : ∃ x, l.getD k 0 = x := ⟨_, rfl⟩
    obtain ⟨p0, hp0e⟩ : ∃ x, preL l k = x := ⟨_, rfl⟩
    obtain ⟨p1, hp1e⟩ : ∃ x, preL l (k + 1) = x := ⟨_, rfl⟩
    obtain ⟨ts, hts⟩ : ∃ x, treeL l = x := ⟨_, rfl⟩
    rw [hts] at hf1 hf0 HR
    rw [hp1e] at hf1 hnx hpm hple
    rw [hp0e] at hf0 hnx hpm hp0
    rw [hx] at hnx ⊢
    have hk1 : ((k + 1 : Nat) : Int) = (k : Int) + 1 := by omega
    rw [hk1] at hf1
    have HF1 := Lib.hid hf1
    have HF0 := Lib.hid hf0
    have HXX : Hid (IntKind.u64.wrap (p1 - p0) = x) := Lib.hid (by rw [IntKind.wrap_u64]; omega)
    have HKW : Hid (IntKind.i64.wrap ((k : Int) + 1) = (k : Int) + 1) := Lib.hid (by rw [IntKind.wrap_i64]; omega)
    have HAS := Lib.hid (fun W => q11has_c A n c (k : Int) true (by rw [decide_eq_true ⟨by omega, by omega⟩]) W)
    clear hz hs hl hn hc hcm i0 i1 hrd hT e1 e2 hx hin hkn hf0 hf1 hnx hpm hp0 hple hp0e hp1e hts hk1
    go_enter Tryd.func18, Tryd.ntmps18
    go_wp2_with (first
      | (with_reducible refine at_any ?_; refine at_dst 2 rfl ?_; refine wpList_box_any rfl 25 (.tmp 0) rfl #[.slice A n c] rfl ?_; intro w1 hk1 hs1 hb1; have HK1 := Lib.hid hk1.out; have HB1 := Lib.hid hb1; clear hk1 hs1 hb1)
      | (with_reducible refine at_any ?_; refine at_dst 6 rfl ?_; refine wpList_load_fen (by kernel_rfl) (.tmp 2) rfl w.heap.size rfl 25 (.slice A n c) HK1.out ?_)
      | (go_at_call 31; (with_reducible refine (HAS.out _).mono ?_); rintro e w2 ⟨rfl, hb2⟩; have HB2 := Lib.hid (HB1.out.trans (hb2.mono HB1.out.size)); have HK2 := Lib.hid (HK1.out.below hb2 HK1.out.lt); clear hb2))
    obtain ⟨gB, hgB⟩ : ∃ g, w.heap.size = g := ⟨_, rfl⟩
    have G1 : Hid (Fx [.blk gB 25 #[.slice A n c], .rdb .u64 w.heap.size A n ts, .bel w] w2) := Lib.hid ⟨by rw [← hgB]; exact HK2.out, ⟨HR.out.below HB2.out, HB2.out.size⟩, HB2.out, trivial⟩
    have cG := Blk.cell0 (Fx.b0 G1.out)
    rw [hgB]
    clear hgB HK1
    refine wp_region_held_drew (S := (Fx [.blk gB 25 #[.slice A n c], .rdb .u64 w.heap.size A n ts, .bel w])) (by kernel_rfl) (Fx.drew G1.out) (fun hH => ?_)
    refine wpAnyH_letter #[false, false, false, false, false, false, false, false, false, false] (by kernel_rfl) (fun _ _ d _ _ h => by cases d <;> exact h) (fun QL HQ1 HQ2 => ?_)
    refine held_row 0 (some 10) rfl (by kernel_rfl) (by kernel_rfl) (by kernel_rfl) (by kernel_rfl) (fun c a v w h => HQ2.out c a _ v w h) (by kernel_rfl) 25 (.tmp 2) rfl gB (by kernel_rfl) 25 #[.slice A n c] (fun _ h => (Fx.b0 h)) _ Tryd.underlying25 rfl (sizedF _) hH ?_
    try simp only [Act.put, List.setIfInBounds_toArray, List.set_cons_zero, List.set_cons_succ]
    refine held_v 1 (some 11) rfl (by kernel_rfl) (by kernel_rfl) (by kernel_rfl) (by kernel_rfl) (fun c a v w h => HQ2.out c a _ v w h) (by kernel_rfl) (.int .i64 (k : Int)) (fun W h => by kernel_rfl) hH ?_
    try simp only [Act.put, List.setIfInBounds_toArray, List.set_cons_zero, List.set_cons_succ]
    refine held_v 2 (some 12) rfl (by kernel_rfl) (by kernel_rfl) (by kernel_rfl) (by kernel_rfl) (fun c a v w h => HQ2.out c a _ v w h) (by kernel_rfl) (.int .i64 ((k : Int) + 1)) (fun W h => by have p := HKW.out; go_simp) hH ?_
    try simp only [Act.put, List.setIfInBounds_toArray, List.set_cons_zero, List.set_cons_succ]
    refine held_row 4 (some 14) rfl (by kernel_rfl) (by kernel_rfl) (by kernel_rfl) (by kernel_rfl) (fun c a v w h => HQ2.out c a _ v w h) (by kernel_rfl) 25 (.tmp 2) rfl gB (by kernel_rfl) 25 #[.slice A n c] (fun _ h => (Fx.b0 h)) _ Tryd.underlying25 rfl (sizedF _) hH ?_
    try simp only [Act.put, List.setIfInBounds_toArray, List.set_cons_zero, List.set_cons_succ]
    refine held_v 5 (some 15) rfl (by kernel_rfl) (by kernel_rfl) (by kernel_rfl) (by kernel_rfl) (fun c a v w h => HQ2.out c a _ v w h) (by kernel_rfl) (.int .i64 (k : Int)) (fun W h => by kernel_rfl) hH ?_
    try simp only [Act.put, List.setIfInBounds_toArray, List.set_cons_zero, List.set_cons_succ]
    refine wpAnyH_ready (rs := [3]) (by kernel_rfl) (by decide) ?_
    refine AllReadyH.cons rfl (fun K hK => ?_) AllReadyH.nil
    refine step_call (some 13) (by kernel_rfl) (by kernel_rfl) _ _ (by kernel_rfl) _ (HF1.out _ (HTT.out.below (Fx.e2 hH)) (Fx.r1 hH)) ?_
    rintro e w41 ⟨rfl, hbw41⟩
    refine ⟨_, rfl, ?_⟩
    refine hK.out _ _ (hH.below hbw41) (fun hw41 => ?_)
    clear hK K
    try simp only [Act.put, List.setIfInBounds_toArray, List.set_cons_zero, List.set_cons_succ]
    refine wpAnyH_ready (rs := [6]) (by kernel_rfl) (by decide) ?_
    refine AllReadyH.cons rfl (fun K hK => ?_) AllReadyH.nil
    refine step_call (some 16) (by kernel_rfl) (by kernel_rfl) _ _ (by kernel_rfl) _ (HF0.out _ (HTT.out.below (Fx.e2 hw41)) (Fx.r1 hw41)) ?_
    rintro e w42 ⟨rfl, hbw42⟩
    refine ⟨_, rfl, ?_⟩
    refine hK.out _ _ (hw41.below hbw42) (fun hw42 => ?_)
    clear hK K
    try simp only [Act.put, List.setIfInBounds_toArray, List.set_cons_zero, List.set_cons_succ]
    refine held_v 7 (some 17) rfl (by kernel_rfl) (by kernel_rfl) (by kernel_rfl) (by kernel_rfl) (fun c a v w h => HQ2.out c a _ v w h) (by kernel_rfl) (.int .u64 x) (fun W h => by have p := HXX.out; go_simp) hw42 ?_
    try simp only [Act.put, List.setIfInBounds_toArray, List.set_cons_zero, List.set_cons_succ]
    refine held_v 8 (some 4) rfl (by kernel_rfl) (by kernel_rfl) (by kernel_rfl) (by kernel_rfl) (fun c a v w h => HQ2.out c a _ v w h) (by kernel_rfl) (.int .u64 x) (fun W h => by kernel_rfl) hw42 ?_
    try simp only [Act.put, List.setIfInBounds_toArray, List.set_cons_zero, List.set_cons_succ]
    refine held_v 9 (some 5) rfl (by kernel_rfl) (by kernel_rfl) (by kernel_rfl) (by kernel_rfl) (fun c a v w h => HQ2.out c a _ v w h) (by kernel_rfl) (.int .i64 0) (fun W h => by kernel_rfl) hw42 ?_
    try simp only [Act.put, List.setIfInBounds_toArray, List.set_cons_zero, List.set_cons_succ]
    refine wpAnyH_done (by kernel_rfl) ?_ _
    refine HQ1.out _ _ ?_
    clear HQ1 HQ2
    go_wp2
    go_ret2
    exact ⟨rfl, Fx.e2 hw42⟩
  · obtain ⟨e1, e2⟩ := at_no hin
    rw [e1, e2]
    rw [hn] at hin
    have HAS := Lib.hid (fun W => q11has_c A n c i false (by rw [decide_eq_false hin]) W)
    clear hz hs hl hn hc hcm hrd hT e1 e2 hin
    go_enter Tryd.func18, Tryd.ntmps18
    go_wp2_with (first
      | (with_reducible refine at_any ?_; refine at_dst 2 rfl ?_; refine wpList_box_any rfl 25 (.tmp 0) rfl #[.slice A n c] rfl ?_; intro w1 hk1 hs1 hb1; have HK1 := Lib.hid hk1.out; have HB1 := Lib.hid hb1; clear hk1 hs1 hb1)
      | (with_reducible refine at_any ?_; refine at_dst 6 rfl ?_; refine wpList_load_fen (by kernel_rfl) (.tmp 2) rfl w.heap.size rfl 25 (.slice A n c) HK1.out ?_)
      | (go_at_call 31; (with_reducible refine (HAS.out _).mono ?_); rintro e w2 ⟨rfl, hb2⟩; have HB2 := Lib.hid (HB1.out.trans (hb2.mono HB1.out.size)); have HK2 := Lib.hid (HK1.out.below hb2 HK1.out.lt); clear hb2))
    go_ret2
    exact ⟨rfl, HB2.out⟩
end
end Go.Proofs.YtdpjambejmlppaaDoor

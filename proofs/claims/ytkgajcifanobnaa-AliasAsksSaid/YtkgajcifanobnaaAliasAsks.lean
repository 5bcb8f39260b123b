/-
  What any table tells is the document's, or refused, for its reason; of up to 300 cells.
  Conditions: none.
-/
import Derived.Test.YtkgajcifanobnaaLawS
import Derived.Test.YtkgajcifanobnaaOpenS
import Derived.ShutString
import Derived.ChangeOld
namespace Go.Proofs.Ytkgajcifanobnaa.aliasAsks
open Go.ChangeShapes Go.WideShapes Go.ChangeAt Go.RowKit
set_option linter.unusedVariables false
set_option linter.unusedSimpArgs false
set_option maxRecDepth 100000

theorem own : ownKnob Try.prog.godebug = none := by kernel_rfl
theorem laidOut : laidOutB Try.prog = true := by kernel_rfl

set_option maxHeartbeats 8000000 in
theorem walk (T : Int) (a0 : Option Addr) (n c : Nat) (ts : List (Int × Int)) (i u : Int) (w : World) (hrd : RdPr .u64 .i64 w w.heap.size a0 n ts) (lc : n ≤ c) (cm : c ≤ maxLen) (wt : (Lit.int .u64 T).wf = true) (hw : ∀ q ∈ ts, (Lit.int .u64 q.1).wf = true ∧ (Lit.int .i64 q.2).wf = true) (wi : (Lit.int .i64 i).wf = true) (wu : (Lit.int .u64 u).wf = true) :
    Calls Try.prog 4 #[.agg #[.int .u64 T, .slice a0 n c], .int .i64 i, .int .u64 u] w fun e w' => e = .returned (.bool true) ∧ Below w.heap.size w w' := by
  have G0 : Hid (Fx [.kept w.heap.size (fun W => RdPr .u64 .i64 W W.heap.size a0 n ts), .bel w] w) := Lib.hid ⟨RdPr.kept hrd, Below.refl _ _, trivial⟩
  have hts := prOk_wf hw
  have hT := bounds_u64 wt
  have hi := bounds_i64 wi
  have hu := bounds_u64 wu
  by_cases hg : 300 < n
  · have hg2 : (300 : Int) < (n : Int) := by omega
    clear hrd hw hts hT hi hu hg
    go_enter Try.func4, Try.ntmps4
    go_wp2_with (first
      | (with_reducible refine at_any ?_; refine at_dst 3 rfl ?_; refine wpList_box_any rfl 27 (.tmp 0) rfl #[.int .u64 T, .slice a0 n c] rfl ?_; intro w1 hkw1 hsw1 hbw1; have G2 := Lib.hid (Fx.newB G0.out hkw1.out hbw1); clear G0; clear hkw1 hsw1 hbw1)
      | (go_at_call 8; (with_reducible refine (alive14_c _).mono ?_); rintro e w3 ⟨rfl, hbw3⟩; have G4 := Lib.hid (Fx.below G2.out hbw3); clear G2; clear hbw3; have cz5a := tab_c0 (Fx.b0 G4.out); have cz5b := tab_c1 (Fx.b0 G4.out)))
    go_ret
    exact ⟨rfl, (Fx.e2 G4.out)⟩
  · have hg2 : (n : Int) ≤ 300 := by omega
    have hnm : n ≤ maxLen := by simp only [maxLen]; omega
    have h1 := fun W h => q14lookup_c T (by omega) (by omega) ts hts a0 n c (by omega) lc cm W h i u (by omega) (by omega) (by omega) (by omega)
    have h2 := fun W h => r14lookup_c T (by omega) (by omega) ts hts a0 n c hnm W h i u (by omega) (by omega) (by omega) (by omega)
    have h3 := fun W h => q14owner_c T (by omega) (by omega) ts hts a0 n c (by omega) lc cm W h u (by omega) (by omega)
    have h4 := fun W h => r14owner_c T (by omega) (by omega) ts hts a0 n c hnm W h u (by omega) (by omega)
    have h5 := fun W h => q14owns_c T (by omega) (by omega) ts hts a0 n c (by omega) lc cm W h i (by omega) (by omega)
    have h6 := fun W h => r14owns_c T (by omega) (by omega) ts hts a0 n c hnm W h i (by omega) (by omega)
    have h7 := fun W h => q14right_c T (by omega) (by omega) ts hts a0 n c (by omega) lc cm W h
    have h8 := fun W h => r14right_c T (by omega) (by omega) ts hts a0 n c hnm W h
    have h9 := fun W h => q14size_c T (by omega) (by omega) ts hts a0 n c (by omega) lc cm W h
    have h10 := fun W h => r14size_c T (by omega) (by omega) ts hts a0 n c hnm W h
    obtain ⟨lv, e1⟩ : ∃ x, lkV T ts i u = x := ⟨_, rfl⟩
    obtain ⟨le, e2⟩ : ∃ x, lkE T ts i u = x := ⟨_, rfl⟩
    obtain ⟨ov, e3⟩ : ∃ x, owV T ts u = x := ⟨_, rfl⟩
    obtain ⟨oe, e4⟩ : ∃ x, owE T ts u = x := ⟨_, rfl⟩
    obtain ⟨sv, e5⟩ : ∃ x, osV T ts i = x := ⟨_, rfl⟩
    obtain ⟨se, e6⟩ : ∃ x, osE T ts i = x := ⟨_, rfl⟩
    obtain ⟨rt, e7⟩ : ∃ x, tabR T ts = x := ⟨_, rfl⟩
    obtain ⟨sz, e8⟩ : ∃ x, tabZ T ts = x := ⟨_, rfl⟩
    rw [e1, e2] at h1 h2
    rw [e3, e4] at h3 h4
    rw [e5, e6] at h5 h6
    rw [e7] at h7 h8
    rw [e8] at h9 h10
    have H1 := Lib.hid h1
    have H2 := Lib.hid h2
    have H3 := Lib.hid h3
    have H4 := Lib.hid h4
    have H5 := Lib.hid h5
    have H6 := Lib.hid h6
    have H7 := Lib.hid h7
    have H8 := Lib.hid h8
    have H9 := Lib.hid h9
    have H10 := Lib.hid h10
    clear h1 h2 h3 h4 h5 h6 h7 h8 h9 h10 e1 e2 e3 e4 e5 e6 e7 e8 hrd hw hts hT hi hu hg hnm wt wi wu lc cm
    go_enter Try.func4, Try.ntmps4
    go_wp2_with (first
      | (with_reducible refine at_any ?_; refine at_dst 3 rfl ?_; refine wpList_box_any rfl 27 (.tmp 0) rfl #[.int .u64 T, .slice a0 n c] rfl ?_; intro w1 hkw1 hsw1 hbw1; have G2 := Lib.hid (Fx.newB G0.out hkw1.out hbw1); clear G0; clear hkw1 hsw1 hbw1)
      | (go_at_call 8; (with_reducible refine (alive14_c _).mono ?_); rintro e w3 ⟨rfl, hbw3⟩; have G4 := Lib.hid (Fx.below G2.out hbw3); clear G2; clear hbw3; have cz5a := tab_c0 (Fx.b0 G4.out); have cz5b := tab_c1 (Fx.b0 G4.out))
      | (with_reducible refine at_any ?_; refine at_dst 26 rfl ?_; refine wpList_load_tab (by kernel_rfl) (.tmp 3) rfl w.heap.size rfl 27 (.int .u64 T) (.slice a0 n c) (Fx.b0 G4.out) ?_)
      | (go_at_call 13; (with_reducible refine (H1.out _ (Fx.k1 G4.out)).mono ?_); rintro e w6 ⟨rfl, hbw6⟩; have G7 := Lib.hid (Fx.below G4.out hbw6); clear G4; clear hbw6)
      | (with_reducible refine at_any ?_; refine at_dst 33 rfl ?_; refine wpList_load_tab (by kernel_rfl) (.tmp 3) rfl w.heap.size rfl 27 (.int .u64 T) (.slice a0 n c) (Fx.b0 G7.out) ?_)
      | (go_at_call 14; (with_reducible refine (H2.out _ (Fx.k1 G7.out)).mono ?_); rintro e w8 ⟨rfl, hbw8⟩; have G9 := Lib.hid (Fx.below G7.out hbw8); clear G7; clear hbw8)
      | (with_reducible refine at_any ?_; refine at_dst 40 rfl ?_; refine wpList_load_tab (by kernel_rfl) (.tmp 3) rfl w.heap.size rfl 27 (.int .u64 T) (.slice a0 n c) (Fx.b0 G9.out) ?_)
      | (go_at_call 15; (with_reducible refine (H3.out _ (Fx.k1 G9.out)).mono ?_); rintro e w10 ⟨rfl, hbw10⟩; have G11 := Lib.hid (Fx.below G9.out hbw10); clear G9; clear hbw10)
      | (with_reducible refine at_any ?_; refine at_dst 46 rfl ?_; refine wpList_load_tab (by kernel_rfl) (.tmp 3) rfl w.heap.size rfl 27 (.int .u64 T) (.slice a0 n c) (Fx.b0 G11.out) ?_)
      | (go_at_call 16; (with_reducible refine (H4.out _ (Fx.k1 G11.out)).mono ?_); rintro e w12 ⟨rfl, hbw12⟩; have G13 := Lib.hid (Fx.below G11.out hbw12); clear G11; clear hbw12)
      | (with_reducible refine at_any ?_; refine at_dst 52 rfl ?_; refine wpList_load_tab (by kernel_rfl) (.tmp 3) rfl w.heap.size rfl 27 (.int .u64 T) (.slice a0 n c) (Fx.b0 G13.out) ?_)
      | (go_at_call 17; (with_reducible refine (H5.out _ (Fx.k1 G13.out)).mono ?_); rintro e w14 ⟨rfl, hbw14⟩; have G15 := Lib.hid (Fx.below G13.out hbw14); clear G13; clear hbw14)
      | (with_reducible refine at_any ?_; refine at_dst 58 rfl ?_; refine wpList_load_tab (by kernel_rfl) (.tmp 3) rfl w.heap.size rfl 27 (.int .u64 T) (.slice a0 n c) (Fx.b0 G15.out) ?_)
      | (go_at_call 18; (with_reducible refine (H6.out _ (Fx.k1 G15.out)).mono ?_); rintro e w16 ⟨rfl, hbw16⟩; have G17 := Lib.hid (Fx.below G15.out hbw16); clear G15; clear hbw16))
    have hD := Fx.below G17.out (Below.refl _ _).drew
    refine wp_region_held_drew (S := (Fx [.blk w.heap.size 27 (#[.int .u64 T, .slice a0 n c]), .kept w.heap.size (fun W => RdPr .u64 .i64 W W.heap.size a0 n ts), .bel w])) (by kernel_rfl) hD (fun hH => ?_)
    refine wpAnyH_letter #[false, false, false, false, false, false, false, false, false, false, false, false, false, false, false, false, false, false, false, false, false, false, false, false, false, false, false, false, false, false, false, false, false, false, false, false, false, false, false, false, false, false, false] (by kernel_rfl) (fun _ _ d _ _ h => by cases d <;> exact h) (fun QL HQ1 HQ2 => ?_)
    refine held_v 0 (some 63) rfl (by kernel_rfl) (by kernel_rfl) (by kernel_rfl) (by kernel_rfl) (fun c a v w h => HQ2.out c a _ v w h) (by kernel_rfl) (.int .i64 lv) (fun W h => by kernel_rfl) hD ?_
    try simp only [Act.put, List.setIfInBounds_toArray, List.set_cons_zero, List.set_cons_succ]
    refine held_v 1 (some 64) rfl (by kernel_rfl) (by kernel_rfl) (by kernel_rfl) (by kernel_rfl) (fun c a v w h => HQ2.out c a _ v w h) (by kernel_rfl) (.int .i64 lv) (fun W h => by kernel_rfl) hD ?_
    try simp only [Act.put, List.setIfInBounds_toArray, List.set_cons_zero, List.set_cons_succ]
    refine held_v 2 (some 65) rfl (by kernel_rfl) (by kernel_rfl) (by kernel_rfl) (by kernel_rfl) (fun c a v w h => HQ2.out c a _ v w h) (by kernel_rfl) (.bool true) (fun W h => by go_simp) hD ?_
    try simp only [Act.put, List.setIfInBounds_toArray, List.set_cons_zero, List.set_cons_succ]
    refine held_v 3 (some 66) rfl (by kernel_rfl) (by kernel_rfl) (by kernel_rfl) (by kernel_rfl) (fun c a v w h => HQ2.out c a _ v w h) (by kernel_rfl) (.bool true) (fun W h => by kernel_rfl) hD ?_
    try simp only [Act.put, List.setIfInBounds_toArray, List.set_cons_zero, List.set_cons_succ]
    refine held_v 4 (some 67) rfl (by kernel_rfl) (by kernel_rfl) (by kernel_rfl) (by kernel_rfl) (fun c a v w h => HQ2.out c a _ v w h) (by kernel_rfl) (.int .i64 le) (fun W h => by kernel_rfl) hD ?_
    try simp only [Act.put, List.setIfInBounds_toArray, List.set_cons_zero, List.set_cons_succ]
    refine held_v 5 (some 68) rfl (by kernel_rfl) (by kernel_rfl) (by kernel_rfl) (by kernel_rfl) (fun c a v w h => HQ2.out c a _ v w h) (by kernel_rfl) (.int .i64 le) (fun W h => by kernel_rfl) hD ?_
    try simp only [Act.put, List.setIfInBounds_toArray, List.set_cons_zero, List.set_cons_succ]
    refine held_v 6 (some 69) rfl (by kernel_rfl) (by kernel_rfl) (by kernel_rfl) (by kernel_rfl) (fun c a v w h => HQ2.out c a _ v w h) (by kernel_rfl) (.bool true) (fun W h => by go_simp) hD ?_
    try simp only [Act.put, List.setIfInBounds_toArray, List.set_cons_zero, List.set_cons_succ]
    refine held_v 7 (some 70) rfl (by kernel_rfl) (by kernel_rfl) (by kernel_rfl) (by kernel_rfl) (fun c a v w h => HQ2.out c a _ v w h) (by kernel_rfl) (.bool true) (fun W h => by kernel_rfl) hD ?_
    try simp only [Act.put, List.setIfInBounds_toArray, List.set_cons_zero, List.set_cons_succ]
    refine held_v 8 (some 71) rfl (by kernel_rfl) (by kernel_rfl) (by kernel_rfl) (by kernel_rfl) (fun c a v w h => HQ2.out c a _ v w h) (by kernel_rfl) (.bool true) (fun W h => by kernel_rfl) hD ?_
    try simp only [Act.put, List.setIfInBounds_toArray, List.set_cons_zero, List.set_cons_succ]
    refine held_v 9 (some 72) rfl (by kernel_rfl) (by kernel_rfl) (by kernel_rfl) (by kernel_rfl) (fun c a v w h => HQ2.out c a _ v w h) (by kernel_rfl) (.int .i64 ov) (fun W h => by kernel_rfl) hD ?_
    try simp only [Act.put, List.setIfInBounds_toArray, List.set_cons_zero, List.set_cons_succ]
    refine held_v 10 (some 73) rfl (by kernel_rfl) (by kernel_rfl) (by kernel_rfl) (by kernel_rfl) (fun c a v w h => HQ2.out c a _ v w h) (by kernel_rfl) (.int .i64 ov) (fun W h => by kernel_rfl) hD ?_
    try simp only [Act.put, List.setIfInBounds_toArray, List.set_cons_zero, List.set_cons_succ]
    refine held_v 11 (some 74) rfl (by kernel_rfl) (by kernel_rfl) (by kernel_rfl) (by kernel_rfl) (fun c a v w h => HQ2.out c a _ v w h) (by kernel_rfl) (.bool true) (fun W h => by go_simp) hD ?_
    try simp only [Act.put, List.setIfInBounds_toArray, List.set_cons_zero, List.set_cons_succ]
    refine held_v 12 (some 75) rfl (by kernel_rfl) (by kernel_rfl) (by kernel_rfl) (by kernel_rfl) (fun c a v w h => HQ2.out c a _ v w h) (by kernel_rfl) (.bool true) (fun W h => by kernel_rfl) hD ?_
    try simp only [Act.put, List.setIfInBounds_toArray, List.set_cons_zero, List.set_cons_succ]
    refine held_v 13 (some 76) rfl (by kernel_rfl) (by kernel_rfl) (by kernel_rfl) (by kernel_rfl) (fun c a v w h => HQ2.out c a _ v w h) (by kernel_rfl) (.bool true) (fun W h => by kernel_rfl) hD ?_
    try simp only [Act.put, List.setIfInBounds_toArray, List.set_cons_zero, List.set_cons_succ]
    refine held_v 14 (some 77) rfl (by kernel_rfl) (by kernel_rfl) (by kernel_rfl) (by kernel_rfl) (fun c a v w h => HQ2.out c a _ v w h) (by kernel_rfl) (.int .i64 oe) (fun W h => by kernel_rfl) hD ?_
    try simp only [Act.put, List.setIfInBounds_toArray, List.set_cons_zero, List.set_cons_succ]
    refine held_v 15 (some 78) rfl (by kernel_rfl) (by kernel_rfl) (by kernel_rfl) (by kernel_rfl) (fun c a v w h => HQ2.out c a _ v w h) (by kernel_rfl) (.int .i64 oe) (fun W h => by kernel_rfl) hD ?_
    try simp only [Act.put, List.setIfInBounds_toArray, List.set_cons_zero, List.set_cons_succ]
    refine held_v 16 (some 79) rfl (by kernel_rfl) (by kernel_rfl) (by kernel_rfl) (by kernel_rfl) (fun c a v w h => HQ2.out c a _ v w h) (by kernel_rfl) (.bool true) (fun W h => by go_simp) hD ?_
    try simp only [Act.put, List.setIfInBounds_toArray, List.set_cons_zero, List.set_cons_succ]
    refine held_v 17 (some 80) rfl (by kernel_rfl) (by kernel_rfl) (by kernel_rfl) (by kernel_rfl) (fun c a v w h => HQ2.out c a _ v w h) (by kernel_rfl) (.bool true) (fun W h => by kernel_rfl) hD ?_
    try simp only [Act.put, List.setIfInBounds_toArray, List.set_cons_zero, List.set_cons_succ]
    refine held_v 18 (some 81) rfl (by kernel_rfl) (by kernel_rfl) (by kernel_rfl) (by kernel_rfl) (fun c a v w h => HQ2.out c a _ v w h) (by kernel_rfl) (.bool true) (fun W h => by kernel_rfl) hD ?_
    try simp only [Act.put, List.setIfInBounds_toArray, List.set_cons_zero, List.set_cons_succ]
    refine held_v 19 (some 82) rfl (by kernel_rfl) (by kernel_rfl) (by kernel_rfl) (by kernel_rfl) (fun c a v w h => HQ2.out c a _ v w h) (by kernel_rfl) (.int .u64 sv) (fun W h => by kernel_rfl) hD ?_
    try simp only [Act.put, List.setIfInBounds_toArray, List.set_cons_zero, List.set_cons_succ]
    refine held_v 20 (some 83) rfl (by kernel_rfl) (by kernel_rfl) (by kernel_rfl) (by kernel_rfl) (fun c a v w h => HQ2.out c a _ v w h) (by kernel_rfl) (.int .u64 sv) (fun W h => by kernel_rfl) hD ?_
    try simp only [Act.put, List.setIfInBounds_toArray, List.set_cons_zero, List.set_cons_succ]
    refine held_v 21 (some 84) rfl (by kernel_rfl) (by kernel_rfl) (by kernel_rfl) (by kernel_rfl) (fun c a v w h => HQ2.out c a _ v w h) (by kernel_rfl) (.bool true) (fun W h => by go_simp) hD ?_
    try simp only [Act.put, List.setIfInBounds_toArray, List.set_cons_zero, List.set_cons_succ]
    refine held_v 22 (some 85) rfl (by kernel_rfl) (by kernel_rfl) (by kernel_rfl) (by kernel_rfl) (fun c a v w h => HQ2.out c a _ v w h) (by kernel_rfl) (.bool true) (fun W h => by kernel_rfl) hD ?_
    try simp only [Act.put, List.setIfInBounds_toArray, List.set_cons_zero, List.set_cons_succ]
    refine held_v 23 (some 86) rfl (by kernel_rfl) (by kernel_rfl) (by kernel_rfl) (by kernel_rfl) (fun c a v w h => HQ2.out c a _ v w h) (by kernel_rfl) (.bool true) (fun W h => by kernel_rfl) hD ?_
    try simp only [Act.put, List.setIfInBounds_toArray, List.set_cons_zero, List.set_cons_succ]
    refine held_v 24 (some 87) rfl (by kernel_rfl) (by kernel_rfl) (by kernel_rfl) (by kernel_rfl) (fun c a v w h => HQ2.out c a _ v w h) (by kernel_rfl) (.int .i64 se) (fun W h => by kernel_rfl) hD ?_
    try simp only [Act.put, List.setIfInBounds_toArray, List.set_cons_zero, List.set_cons_succ]
    refine held_v 25 (some 88) rfl (by kernel_rfl) (by kernel_rfl) (by kernel_rfl) (by kernel_rfl) (fun c a v w h => HQ2.out c a _ v w h) (by kernel_rfl) (.int .i64 se) (fun W h => by kernel_rfl) hD ?_
    try simp only [Act.put, List.setIfInBounds_toArray, List.set_cons_zero, List.set_cons_succ]
    refine held_v 26 (some 89) rfl (by kernel_rfl) (by kernel_rfl) (by kernel_rfl) (by kernel_rfl) (fun c a v w h => HQ2.out c a _ v w h) (by kernel_rfl) (.bool true) (fun W h => by go_simp) hD ?_
    try simp only [Act.put, List.setIfInBounds_toArray, List.set_cons_zero, List.set_cons_succ]
    refine held_v 27 (some 90) rfl (by kernel_rfl) (by kernel_rfl) (by kernel_rfl) (by kernel_rfl) (fun c a v w h => HQ2.out c a _ v w h) (by kernel_rfl) (.bool true) (fun W h => by kernel_rfl) hD ?_
    try simp only [Act.put, List.setIfInBounds_toArray, List.set_cons_zero, List.set_cons_succ]
    refine held_v 28 (some 91) rfl (by kernel_rfl) (by kernel_rfl) (by kernel_rfl) (by kernel_rfl) (fun c a v w h => HQ2.out c a _ v w h) (by kernel_rfl) (.bool true) (fun W h => by kernel_rfl) hD ?_
    try simp only [Act.put, List.setIfInBounds_toArray, List.set_cons_zero, List.set_cons_succ]
    refine held_row 29 (some 92) rfl (by kernel_rfl) (by kernel_rfl) (by kernel_rfl) (by kernel_rfl) (fun c a v w h => HQ2.out c a _ v w h) (by kernel_rfl) 27 (.tmp 3) rfl w.heap.size (by kernel_rfl) 27 #[.int .u64 T, .slice a0 n c] (fun _ h => Fx.b0 h) _ Try.underlying27 rfl (sizedT _ _) hD ?_
    try simp only [Act.put, List.setIfInBounds_toArray, List.set_cons_zero, List.set_cons_succ]
    refine held_row 31 (some 94) rfl (by kernel_rfl) (by kernel_rfl) (by kernel_rfl) (by kernel_rfl) (fun c a v w h => HQ2.out c a _ v w h) (by kernel_rfl) 27 (.tmp 3) rfl w.heap.size (by kernel_rfl) 27 #[.int .u64 T, .slice a0 n c] (fun _ h => Fx.b0 h) _ Try.underlying27 rfl (sizedT _ _) hD ?_
    try simp only [Act.put, List.setIfInBounds_toArray, List.set_cons_zero, List.set_cons_succ]
    refine wpAnyH_ready (rs := [30]) (by kernel_rfl) (by decide) ?_
    refine AllReadyH.cons rfl (fun K hK => ?_) AllReadyH.nil
    refine step_call (some 93) (by kernel_rfl) (by kernel_rfl) _ _ (by kernel_rfl) _ (H7.out _ (Fx.k1 hD)) ?_
    rintro e w41 ⟨rfl, hbw41⟩
    refine ⟨_, rfl, ?_⟩
    refine hK.out _ _ (hD.below hbw41) (fun hw41 => ?_)
    clear hK K
    try simp only [Act.put, List.setIfInBounds_toArray, List.set_cons_zero, List.set_cons_succ]
    refine wpAnyH_ready (rs := [32]) (by kernel_rfl) (by decide) ?_
    refine AllReadyH.cons rfl (fun K hK => ?_) AllReadyH.nil
    refine step_call (some 95) (by kernel_rfl) (by kernel_rfl) _ _ (by kernel_rfl) _ (H8.out _ (Fx.k1 hw41)) ?_
    rintro e w42 ⟨rfl, hbw42⟩
    refine ⟨_, rfl, ?_⟩
    refine hK.out _ _ (hw41.below hbw42) (fun hw42 => ?_)
    clear hK K
    try simp only [Act.put, List.setIfInBounds_toArray, List.set_cons_zero, List.set_cons_succ]
    refine held_v 33 (some 96) rfl (by kernel_rfl) (by kernel_rfl) (by kernel_rfl) (by kernel_rfl) (fun c a v w h => HQ2.out c a _ v w h) (by kernel_rfl) (.bool true) (fun W h => by go_simp) hw42 ?_
    try simp only [Act.put, List.setIfInBounds_toArray, List.set_cons_zero, List.set_cons_succ]
    refine held_v 34 (some 97) rfl (by kernel_rfl) (by kernel_rfl) (by kernel_rfl) (by kernel_rfl) (fun c a v w h => HQ2.out c a _ v w h) (by kernel_rfl) (.bool true) (fun W h => by kernel_rfl) hw42 ?_
    try simp only [Act.put, List.setIfInBounds_toArray, List.set_cons_zero, List.set_cons_succ]
    refine held_v 35 (some 98) rfl (by kernel_rfl) (by kernel_rfl) (by kernel_rfl) (by kernel_rfl) (fun c a v w h => HQ2.out c a _ v w h) (by kernel_rfl) (.bool true) (fun W h => by kernel_rfl) hw42 ?_
    try simp only [Act.put, List.setIfInBounds_toArray, List.set_cons_zero, List.set_cons_succ]
    refine held_row 36 (some 99) rfl (by kernel_rfl) (by kernel_rfl) (by kernel_rfl) (by kernel_rfl) (fun c a v w h => HQ2.out c a _ v w h) (by kernel_rfl) 27 (.tmp 3) rfl w.heap.size (by kernel_rfl) 27 #[.int .u64 T, .slice a0 n c] (fun _ h => Fx.b0 h) _ Try.underlying27 rfl (sizedT _ _) hw42 ?_
    try simp only [Act.put, List.setIfInBounds_toArray, List.set_cons_zero, List.set_cons_succ]
    refine held_row 38 (some 101) rfl (by kernel_rfl) (by kernel_rfl) (by kernel_rfl) (by kernel_rfl) (fun c a v w h => HQ2.out c a _ v w h) (by kernel_rfl) 27 (.tmp 3) rfl w.heap.size (by kernel_rfl) 27 #[.int .u64 T, .slice a0 n c] (fun _ h => Fx.b0 h) _ Try.underlying27 rfl (sizedT _ _) hw42 ?_
    try simp only [Act.put, List.setIfInBounds_toArray, List.set_cons_zero, List.set_cons_succ]
    refine wpAnyH_ready (rs := [37]) (by kernel_rfl) (by decide) ?_
    refine AllReadyH.cons rfl (fun K hK => ?_) AllReadyH.nil
    refine step_call (some 100) (by kernel_rfl) (by kernel_rfl) _ _ (by kernel_rfl) _ (H9.out _ (Fx.k1 hw42)) ?_
    rintro e w43 ⟨rfl, hbw43⟩
    refine ⟨_, rfl, ?_⟩
    refine hK.out _ _ (hw42.below hbw43) (fun hw43 => ?_)
    clear hK K
    try simp only [Act.put, List.setIfInBounds_toArray, List.set_cons_zero, List.set_cons_succ]
    refine wpAnyH_ready (rs := [39]) (by kernel_rfl) (by decide) ?_
    refine AllReadyH.cons rfl (fun K hK => ?_) AllReadyH.nil
    refine step_call (some 102) (by kernel_rfl) (by kernel_rfl) _ _ (by kernel_rfl) _ (H10.out _ (Fx.k1 hw43)) ?_
    rintro e w44 ⟨rfl, hbw44⟩
    refine ⟨_, rfl, ?_⟩
    refine hK.out _ _ (hw43.below hbw44) (fun hw44 => ?_)
    clear hK K
    try simp only [Act.put, List.setIfInBounds_toArray, List.set_cons_zero, List.set_cons_succ]
    refine held_v 40 (some 103) rfl (by kernel_rfl) (by kernel_rfl) (by kernel_rfl) (by kernel_rfl) (fun c a v w h => HQ2.out c a _ v w h) (by kernel_rfl) (.bool true) (fun W h => by go_simp) hw44 ?_
    try simp only [Act.put, List.setIfInBounds_toArray, List.set_cons_zero, List.set_cons_succ]
    refine held_v 41 (some 104) rfl (by kernel_rfl) (by kernel_rfl) (by kernel_rfl) (by kernel_rfl) (fun c a v w h => HQ2.out c a _ v w h) (by kernel_rfl) (.bool true) (fun W h => by kernel_rfl) hw44 ?_
    try simp only [Act.put, List.setIfInBounds_toArray, List.set_cons_zero, List.set_cons_succ]
    refine held_v 42 (some 6) rfl (by kernel_rfl) (by kernel_rfl) (by kernel_rfl) (by kernel_rfl) (fun c a v w h => HQ2.out c a _ v w h) (by kernel_rfl) (.bool true) (fun W h => by kernel_rfl) hw44 ?_
    try simp only [Act.put, List.setIfInBounds_toArray, List.set_cons_zero, List.set_cons_succ]
    refine wpAnyH_done (by kernel_rfl) ?_ _
    refine HQ1.out _ _ ?_
    clear HQ1 HQ2
    go_wp2_with fail
    go_ret
    exact ⟨rfl, Fx.e2 hw44⟩


set_option maxRecDepth 100000 in
theorem lifted (os : Os) (started : os.Started) (H : Type) (enc : TypeId × Value → H) :
    ReturnsInHanded {} Try.checked os 4 .any (Rows.aliasAsksSpec.pre6 enc Try.prog Try.f4 Rows.aliasAsksRow.domain false) (Rows.aliasAsksSpec.post enc Try.prog Try.f4 false true false false) := by
  refine returnsInHanded_of_change (C := Try.checked) own started (by kernel_rfl) Try.func4
    (ChangeSpec.witness6 (enc := enc) (C := Try.checked) false ⟨#[], #[.agg #[.int .u64 0, .slice none 0 0], .int .i64 0, .int .u64 0], []⟩ 8 (by kernel_rfl) (by kernel_rfl) (by kernel_rfl) (by kernel_rfl)) ?_
  intro W base args ds gs before hval0 hW hcnd _
  have hval : ∀ (j : Nat) t v, Try.f4.params[j]? = some t → args[j]? = some v → Value.okWide Try.prog W .any base t v := hval0
  have hW' := hW
  obtain ⟨p, q, hA0, hV, rfl, hfz, hnd⟩ := hW
  have hA : DataW.TrodAll enc Try.prog W 0 (fun _ => true) true Try.f4.params.toList args.toList ds p := hA0
  rw [Try.params4] at hA hval
  obtain ⟨v0, vs0, d0, ds0, p0, q0, hargs, rfl, rfl, h0, r0⟩ := trodAll_cons hA
  obtain ⟨v1, vs1, d1, ds1, p1, q1, rfl, rfl, rfl, h1, r1⟩ := trodAll_cons r0
  obtain ⟨v2, vs2, d2, ds2, p2, q2, rfl, rfl, rfl, h2, r2⟩ := trodAll_cons r1
  obtain ⟨rfl, rfl, rfl⟩ := trodAll_nil r2
  obtain rfl : args = #[v0, v1, v2] := by cases args; simp_all
  obtain ⟨rfl, rfl⟩ := trodVars_none hV
  have k0 := h0
  have lt0 : ∀ x ∈ p0, x.block < W.heap.size := by obtain ⟨m, hm⟩ := k0; exact DataW.trod_lt m _ _ _ hm
  obtain ⟨t0, a0, n0, c0, z0, rfl, rd0, lc0, cm0, wt0, w0⟩ := open_tab (hval 0 27 v0 rfl rfl) h0
  obtain ⟨a1, rfl, rfl, rfl, w1⟩ := open_int Try.underlying3 (hval 1 3 v1 rfl rfl) h1
  obtain ⟨a2, rfl, rfl, rfl, w2⟩ := open_int Try.underlying24 (hval 2 24 v2 rfl rfl) h2
  clear hA0 hval0
  refine (walk t0 a0 n0 c0 z0 a1 a2 W rd0 lc0 cm0 wt0 w0 w1 w2).mono fun e W' ⟨he, bel⟩ => ?_
  subst he
  exact ⟨_, rfl, _, _, _, [], _, [], hW', trodAll_mk1 (shut_bool Try.underlying4 _), (trodAll_cons_mk (Below.trod laidOut (by kernel_rfl) (of_decide_eq_true (by kernel_rfl)) k0 bel lt0) (trodAll_cons_mk (shut_int Try.underlying3 w1) (trodAll_cons_mk (shut_int Try.underlying24 w2) trodAll_mk0))), rfl, bel.frame _, fun h => by cases h⟩

theorem over : Rows.aliasAsksRow.holds Try.pinned (OpenSpec.ofChange Rows.aliasAsksSpec) :=
  OpenClaim.holds_of_wide 4 Try.f4 rfl rfl rfl rfl rfl rfl rfl ⟨rfl, rfl, rfl, rfl, rfl⟩ rfl rfl rfl rfl rfl (by kernel_rfl) Try.func4 (by kernel_rfl)
    (of_decide_eq_true (by kernel_rfl)) (by unfold Func.isWrapper; first | (rw [if_pos (by decide +kernel)]; kernel_rfl) | (rw [if_neg (by decide +kernel)]; exact ⟨rfl, rfl⟩))
    (fun os started H enc _ => lifted os started H enc)

end Go.Proofs.Ytkgajcifanobnaa.aliasAsks
namespace Go.Proofs.Ytkgajcifanobnaa
theorem aliasAsks_holds : Rows.AliasAsksSaid := aliasAsks.over
#print axioms aliasAsks_holds
end Go.Proofs.Ytkgajcifanobnaa

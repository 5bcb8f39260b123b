/-
  The tree of any stakes draws the committee that repeated draws by lists draw; of up to 200 stakes.
  Conditions: the program's tables read, when the call begins, as its text lays them (the card ties that).
-/
import Derived.Test.YtgnclifmfefbcaaGreatDoorJGf
import Derived.ShutString
import Derived.Test.YtgnclifmfefbcaaGreatDoorTie
import Derived.Test.YtgnclifmfefbcaaGreatDoorCards
import Derived.SevenTiedAt
import Derived.ChangeOld
namespace Go.Proofs.YtgnclifmfefbcaaGreatDoor.commTrees
open Go.ChangeShapes Go.WideShapes Go.ChangeAt Go.RowKit
set_option linter.unusedVariables false
set_option linter.unusedSimpArgs false
set_option maxRecDepth 100000

theorem own : ownKnob Tryz.prog.godebug = none := by kernel_rfl
theorem laidOut : laidOutB Tryz.prog = true := by kernel_rfl

set_option maxHeartbeats 16000000 in
theorem walk (a0 : Option Addr) (n c : Nat) (zs : List Int) (C : Int) (s : Src) (A : Option Addr) (d : Nat) (w : World) (hrz : Rd .u64 w w.heap.size a0 n zs) (lc : n ≤ c) (cm : c ≤ maxLen) (hw : ∀ z ∈ zs, (Lit.int .u64 z).wf = true) (w2 : (Lit.int .i64 C).wf = true) (ok0 : s.tape.length ≤ 140737488355328 → s.Ok) (hrs : Rd .u8 w w.heap.size A s.tape.length s.tape) (ld : s.tape.length ≤ d) (dm : d ≤ maxLen) (sl : s.seed.length = 32) (hkst : Kst w) :
    Calls Tryz.prog 4 #[.slice a0 n c, .int .i64 C, .agg (srcV s A d)] w fun e w' => e = .returned (.bool true) ∧ Below w.heap.size w w' := by
  have HZ0 := Lib.hid zero_src
  have HZL := Lib.hid (show Src.zero.seed.length = 32 from rfl)
  have HKS := Lib.hid hkst
  have HLs := Lib.hid sl
  have G0 : Hid (Fx [.rdb .u64 w.heap.size a0 n zs, .rdb .u8 w.heap.size A s.tape.length s.tape, .bel w] w) := Lib.hid ⟨⟨hrz, Nat.le_refl _⟩, ⟨hrs, Nat.le_refl _⟩, Below.refl _ _, trivial⟩
  have hlen := hrz.len
  have hz : ∀ z ∈ zs, 0 ≤ z ∧ z < 18446744073709551616 := fun z h => by
    obtain ⟨h1, h2⟩ := bounds_u64 (hw z h)
    omega
  have hnm : n ≤ maxLen := Nat.le_trans lc cm
  have hgr := fun W => r13great_c s (by have h1 := Nat.le_trans ld dm; unfold maxLen at h1; omega) a0 n c hnm A d W
  have b0 : -9223372036854775808 ≤ C := by have := (bounds_i64 w2).1; omega
  have b1 : C < 9223372036854775808 := by have := (bounds_i64 w2).2; omega
  by_cases hg : 200 < n ∨ 500 < s.tape.length
  · rw [decide_eq_true hg] at hgr
    have HGR := Lib.hid hgr
    clear hgr hrz hw hrs hz hg hkst ok0 sl
    go_enter Tryz.func4, Tryz.ntmps4
    go_wp2_with (first
      | (with_reducible refine at_any ?_; refine at_dst 5 rfl ?_; refine wpList_box_any rfl 28 (.tmp 2) rfl (srcV s A d) rfl ?_; intro w1 hkw1 hsw1 hbw1; have G2 := Lib.hid (Fx.newB G0.out hkw1.out hbw1); clear G0; clear hkw1 hsw1 hbw1)
      | (go_at_call 8; (with_reducible refine (alive17_c _ (HKS.out.below (Fx.e3 G2.out))).mono ?_); rintro e w3 ⟨rfl, hbw3⟩; have G4 := Lib.hid (Fx.below G2.out hbw3); clear G2; clear hbw3)
      | (with_reducible refine at_any ?_; refine at_dst 18 rfl ?_; refine wpList_load_blk rfl 28 (.tmp 5) rfl w.heap.size rfl 28 (srcV s A d) (Fx.b0 G4.out) _ Tryz.underlying28 rfl (sizedS s HLs.out _ _) ?_)
      | (go_at_call 9; (with_reducible refine (HGR.out _).mono ?_); rintro e w5 ⟨rfl, hbw5⟩; have G6 := Lib.hid (Fx.below G4.out hbw5); clear G4; clear hbw5))
    go_ret
    exact ⟨rfl, (Fx.e3 G6.out)⟩
  rw [decide_eq_false hg] at hgr
  have HGR := Lib.hid hgr
  have hg1 : n ≤ 200 := Nat.le_of_not_lt fun h => hg (.inl h)
  have hg2 : s.tape.length ≤ 500 := Nat.le_of_not_lt fun h => hg (.inr h)
  have oks : s.Ok := ok0 (by omega)
  have hz0 : ∀ z ∈ zs, 0 ≤ z := fun z h => (hz z h).1
  by_cases hs : sumL zs < 9223372036854775808
  · have be := bldE_ok (l := zs) (by omega) hs
    obtain ⟨okX, hXt⟩ := comL_src (l := zs) (c := C) (a := 64) oks
    rw [show comL zs C s 64 = comR zs C s 64 from if_pos hs] at okX hXt
    have h1 := fun A c W h => calls_fen (r11build_c zs hz A n c hnm W h) be.2 be.1 ((treeL_len zs).trans hlen)
    have hq := fun AF c (hc : n ≤ c) (hm : c ≤ maxLen) W h1 h2 k => q17draw_c zs hz0 hs (by omega) AF n c hlen hc hm C b0 b1 s oks 64 (by omega) (by omega) A d ld dm W h1 h2 k
    have hr := fun AL c W h1 h2 => r17draw_c zs hz C b0 b1 s oks 64 (by omega) (by omega) AL n c (by omega) A d ld dm W h1 h2
    have htr := fun A c W h => calls_tree (r11tree_c zs hz0 hs A n c (by omega) W h) hlen
    have hsf := fun A B c d W h h' => calls_val (v' := .bool true) (r11same_c (treeL zs) (treeL zs) A B n n c d hnm hnm W h h') (congrArg Value.bool (decide_eq_true rfl))
    obtain ⟨rr, hrr⟩ : ∃ r, comR zs C s 64 = r := ⟨_, rfl⟩
    rw [hrr] at okX hXt hq hr
    obtain ⟨ts, hts⟩ : ∃ x, treeL zs = x := ⟨_, rfl⟩
    rw [hts] at h1 hq htr hsf
    obtain ⟨M, X, e⟩ := rr
    dsimp only at okX hXt hq hr
    obtain ⟨N, hN⟩ : ∃ N, M.length = N := ⟨_, rfl⟩
    have HQ := Lib.hid (fun AF c hc hm W h1 h2 k => (hq AF c hc hm W h1 h2 k).mono fun _ _ h => com_uP hN h)
    have HR := Lib.hid (fun AL c W h1 h2 => (hr AL c W h1 h2).mono fun _ _ h => com_uP hN h)
    have HLX := Lib.hid okX.sl
    have HSX := Lib.hid (fun A B c d W h h' => calls_val (v' := .bool true) (rssame_c X X okX okX A B c d W (by rw [hXt]; exact h) (by rw [hXt]; exact h')) (congrArg Value.bool (sameS_refl X)))
    have HSM := Lib.hid (fun A B c d (hN : N ≤ maxLen) (W : World) (h1 : Rd .i64 W W.heap.size A N M) (h2 : Rd .i64 W W.heap.size B N M) => calls_val (v' := .bool true) (r17same_c M M A B N N c d hN hN W h1 h2) (congrArg Value.bool (decide_eq_true rfl)))
    have H1 := Lib.hid h1
    have HTR := Lib.hid htr
    have HSF := Lib.hid hsf
    have ee : Hid ((e == e) = true) := Lib.hid (beq_self_eq_true e)
    clear h1 hq hr htr hsf hrr hts okX hXt be hs hgr hrz hw hrs hz hz0 hg hkst ok0 sl oks hg1 hg2 hlen b0 b1 w2 lc cm ld dm hnm hN
    go_enter Tryz.func4, Tryz.ntmps4
    go_wp2_with (first
      | (with_reducible refine at_any ?_; refine at_dst 5 rfl ?_; refine wpList_box_any rfl 28 (.tmp 2) rfl (srcV s A d) rfl ?_; intro w1 hkw1 hsw1 hbw1; have G2 := Lib.hid (Fx.newB G0.out hkw1.out hbw1); clear G0; clear hkw1 hsw1 hbw1)
      | (go_at_call 8; (with_reducible refine (alive17_c _ (HKS.out.below (Fx.e3 G2.out))).mono ?_); rintro e w3 ⟨rfl, hbw3⟩; have G4 := Lib.hid (Fx.below G2.out hbw3); clear G2; clear hbw3)
      | (with_reducible refine at_any ?_; refine at_dst 18 rfl ?_; refine wpList_load_blk rfl 28 (.tmp 5) rfl w.heap.size rfl 28 (srcV s A d) (Fx.b0 G4.out) _ Tryz.underlying28 rfl (sizedS s HLs.out _ _) ?_)
      | (go_at_call 9; (with_reducible refine (HGR.out _).mono ?_); rintro e w5 ⟨rfl, hbw5⟩; have G6 := Lib.hid (Fx.below G4.out hbw5); clear G4; clear hbw5)
      | (go_at_call 14; (with_reducible refine (H1.out _ _ _ (Fx.r1 G6.out)).mono ?_); rintro e w7 ⟨A8, c9, rfl, hrw7, hlw7, hmw7, hbw7⟩; have lc9 := Lib.hid hlw7; have mc9 := Lib.hid hmw7; have G10 := Lib.hid (Fx.addR G6.out hbw7 hrw7); clear G6; clear hrw7 hbw7 hlw7 hmw7)
      | (with_reducible refine at_any ?_; refine at_dst 7 rfl ?_; refine wpList_alloc_any rfl 40 rfl #[.slice none 0 0] zero_fen ?_; intro w11 hkw11 hsw11 hbw11; have U12 := Lib.hid (Fx.under_new G10.out rfl); have G13 := Lib.hid (Fx.newB G10.out hkw11.out hbw11); clear G10; clear hkw11 hsw11 hbw11)
      | (with_reducible refine at_any ?_; refine at_store 7 rfl ?_; refine wpList_store_any rfl 40 (.tmp 7) (.tmp 23) rfl w7.heap.size rfl 40 #[.slice none 0 0] (#[.slice A8 n c9]) (Fx.b0 G13.out) rfl (size1 _ _) (sizedF _) (fen_ones _ _ _) ?_; intro w14 hkw14 hsw14 hbw14 how14; have G15 := Lib.hid (Fx.put1B G13.out U12.out hkw14.out hsw14.out hbw14 how14); clear G13; clear hkw14 hsw14 hbw14 how14)
      | (with_reducible refine at_any ?_; refine at_dst 28 rfl ?_; refine wpList_load_fen (by kernel_rfl) (.tmp 7) rfl w7.heap.size rfl 40 (.slice A8 n c9) (Fx.b0 G15.out) ?_)
      | (with_reducible refine at_any ?_; refine at_dst 30 rfl ?_; refine wpList_load_blk rfl 28 (.tmp 5) rfl w.heap.size rfl 28 (srcV s A d) (Fx.b2 G15.out) _ Tryz.underlying28 rfl (sizedS s HLs.out _ _) ?_)
      | (go_at_call 15; (with_reducible refine (HQ.out _ _ lc9.out mc9.out _ (Fx.r1 G15.out) (Fx.r4 G15.out) (HKS.out.below (Fx.e5 G15.out))).mono ?_); rintro e w16 ⟨A17, c18, M19, d20, rfl, hnw16, hcw16, hdw16, _, hrw16, hlw16, hmw16, _, hbw16⟩; have lc18 := Lib.hid hlw16; have mc18 := Lib.hid hmw16; have ld20 := Lib.hid hcw16; have md20 := Lib.hid hdw16; have G21 := Lib.hid (Fx.addR (Fx.addR G15.out hbw16 hrw16) (Below.refl _ _) hnw16); clear G15; clear hrw16 hbw16 hlw16 hmw16 hnw16 hcw16 hdw16)
      | (with_reducible refine at_any ?_; refine at_dst 10 rfl ?_; refine wpList_alloc_any rfl 28 rfl (srcV Src.zero none 0) HZ0.out ?_; intro w22 hkw22 hsw22 hbw22; have U23 := Lib.hid (Fx.under_new G21.out rfl); have G24 := Lib.hid (Fx.newB G21.out hkw22.out hbw22); clear G21; clear hkw22 hsw22 hbw22)
      | (with_reducible refine at_any ?_; refine at_store 10 rfl ?_; refine wpList_store_any rfl 28 (.tmp 10) (.tmp 33) rfl w16.heap.size rfl 28 (srcV Src.zero none 0) (srcV X A17 c18) (Fx.b0 G24.out) rfl (srcV_same _ X HZL.out HLX.out _ _ _ _) (sizedS X HLX.out _ _) (srcV_ones _ _ _) ?_; intro w25 hkw25 hsw25 hbw25 how25; have G26 := Lib.hid (Fx.put1B G24.out U23.out hkw25.out hsw25.out hbw25 how25); clear G24; clear hkw25 hsw25 hbw25 how25)
      | (with_reducible refine at_any ?_; refine at_dst 38 rfl ?_; refine wpList_load_blk rfl 28 (.tmp 5) rfl w.heap.size rfl 28 (srcV s A d) (Fx.b5 G26.out) _ Tryz.underlying28 rfl (sizedS s HLs.out _ _) ?_)
      | (go_at_call 16; (with_reducible refine (HR.out _ _ _ (Fx.r6 G26.out) (Fx.r7 G26.out)).mono ?_); rintro e w27 ⟨A28, c29, M30, d31, rfl, hnw27, hcw27, hdw27, _, hrw27, hlw27, hmw27, _, hbw27⟩; have lc29 := Lib.hid hlw27; have mc29 := Lib.hid hmw27; have ld31 := Lib.hid hcw27; have md31 := Lib.hid hdw27; have G32 := Lib.hid (Fx.addR (Fx.addR G26.out hbw27 hrw27) (Below.refl _ _) hnw27); clear G26; clear hrw27 hbw27 hlw27 hmw27 hnw27 hcw27 hdw27)
      | (with_reducible refine at_any ?_; refine at_dst 13 rfl ?_; refine wpList_alloc_any rfl 28 rfl (srcV Src.zero none 0) HZ0.out ?_; intro w33 hkw33 hsw33 hbw33; have U34 := Lib.hid (Fx.under_new G32.out rfl); have G35 := Lib.hid (Fx.newB G32.out hkw33.out hbw33); clear G32; clear hkw33 hsw33 hbw33)
      | (with_reducible refine at_any ?_; refine at_store 13 rfl ?_; refine wpList_store_any rfl 28 (.tmp 13) (.tmp 41) rfl w27.heap.size rfl 28 (srcV Src.zero none 0) (srcV X A28 c29) (Fx.b0 G35.out) rfl (srcV_same _ X HZL.out HLX.out _ _ _ _) (sizedS X HLX.out _ _) (srcV_ones _ _ _) ?_; intro w36 hkw36 hsw36 hbw36 how36; have G37 := Lib.hid (Fx.put1B G35.out U34.out hkw36.out hsw36.out hbw36 how36); clear G35; clear hkw36 hsw36 hbw36 how36))
    refine wp_region_held_drew (S := (Fx [.blk w27.heap.size 28 (srcV X A28 c29), .rdb .i64 w27.heap.size M30 N M, .rdb .u8 w27.heap.size A28 s.tape.length s.tape, .blk w16.heap.size 28 (srcV X A17 c18), .rdb .i64 w16.heap.size M19 N M, .rdb .u8 w16.heap.size A17 s.tape.length s.tape, .blk w7.heap.size 40 #[.slice A8 n c9], .rdb .u64 w7.heap.size A8 n ts, .blk w.heap.size 28 (srcV s A d), .rdb .u64 w.heap.size a0 n zs, .rdb .u8 w.heap.size A s.tape.length s.tape, .bel w])) (by kernel_rfl) (Fx.drew G37.out) (fun hH => ?_)
    refine wpAnyH_letter #[false, false, false, false, false, false, false, false, false, false, false, false, false, false, false, false, false, false, false, false] (by kernel_rfl) (fun _ _ d _ _ h => by cases d <;> exact h) (fun QL HQ1 HQ2 => ?_)
    refine held_v 0 (some 43) rfl (by kernel_rfl) (by kernel_rfl) (by kernel_rfl) (by kernel_rfl) (fun c a v w h => HQ2.out c a _ v w h) (by kernel_rfl) (.slice M19 N d20) (fun W h => by kernel_rfl) hH ?_
    try simp only [Act.put, List.setIfInBounds_toArray, List.set_cons_zero, List.set_cons_succ]
    refine held_v 1 (some 44) rfl (by kernel_rfl) (by kernel_rfl) (by kernel_rfl) (by kernel_rfl) (fun c a v w h => HQ2.out c a _ v w h) (by kernel_rfl) (.slice M30 N d31) (fun W h => by kernel_rfl) hH ?_
    try simp only [Act.put, List.setIfInBounds_toArray, List.set_cons_zero, List.set_cons_succ]
    refine wpAnyH_ready (rs := [2]) (by kernel_rfl) (by decide) ?_
    refine AllReadyH.cons rfl (fun K hK => ?_) AllReadyH.nil
    refine step_call (some 45) (by kernel_rfl) (by kernel_rfl) _ _ (by kernel_rfl) _ (HSM.out _ _ d20 d31 (Nat.le_trans ld20.out md20.out) _ (Fx.r4 hH) (Fx.r1 hH)) ?_
    rintro e w41 ⟨rfl, hbw41⟩
    refine ⟨_, rfl, ?_⟩
    refine hK.out _ _ (hH.below hbw41) (fun hw41 => ?_)
    clear hK K
    try simp only [Act.put, List.setIfInBounds_toArray, List.set_cons_zero, List.set_cons_succ]
    refine held_v 3 (some 46) rfl (by kernel_rfl) (by kernel_rfl) (by kernel_rfl) (by kernel_rfl) (fun c a v w h => HQ2.out c a _ v w h) (by kernel_rfl) (.bool true) (fun W h => by kernel_rfl) hw41 ?_
    try simp only [Act.put, List.setIfInBounds_toArray, List.set_cons_zero, List.set_cons_succ]
    refine held_row 4 (some 47) rfl (by kernel_rfl) (by kernel_rfl) (by kernel_rfl) (by kernel_rfl) (fun c a v w h => HQ2.out c a _ v w h) (by kernel_rfl) 28 (.tmp 10) rfl w16.heap.size (by kernel_rfl) 28 (srcV X A17 c18) (fun _ h => h.2.2.2.1) _ Tryz.underlying28 rfl (sizedS X HLX.out _ _) hw41 ?_
    try simp only [Act.put, List.setIfInBounds_toArray, List.set_cons_zero, List.set_cons_succ]
    refine held_row 5 (some 48) rfl (by kernel_rfl) (by kernel_rfl) (by kernel_rfl) (by kernel_rfl) (fun c a v w h => HQ2.out c a _ v w h) (by kernel_rfl) 28 (.tmp 13) rfl w27.heap.size (by kernel_rfl) 28 (srcV X A28 c29) (fun _ h => h.1) _ Tryz.underlying28 rfl (sizedS X HLX.out _ _) hw41 ?_
    try simp only [Act.put, List.setIfInBounds_toArray, List.set_cons_zero, List.set_cons_succ]
    refine wpAnyH_ready (rs := [6]) (by kernel_rfl) (by decide) ?_
    refine AllReadyH.cons rfl (fun K hK => ?_) AllReadyH.nil
    refine step_call (some 49) (by kernel_rfl) (by kernel_rfl) _ _ (by kernel_rfl) _ (HSX.out _ _ c18 c29 _ (Fx.r5 hw41) (Fx.r2 hw41)) ?_
    rintro e w42 ⟨rfl, hbw42⟩
    refine ⟨_, rfl, ?_⟩
    refine hK.out _ _ (hw41.below hbw42) (fun hw42 => ?_)
    clear hK K
    try simp only [Act.put, List.setIfInBounds_toArray, List.set_cons_zero, List.set_cons_succ]
    refine held_v 7 (some 50) rfl (by kernel_rfl) (by kernel_rfl) (by kernel_rfl) (by kernel_rfl) (fun c a v w h => HQ2.out c a _ v w h) (by kernel_rfl) (.bool true) (fun W h => by kernel_rfl) hw42 ?_
    try simp only [Act.put, List.setIfInBounds_toArray, List.set_cons_zero, List.set_cons_succ]
    refine held_v 8 (some 51) rfl (by kernel_rfl) (by kernel_rfl) (by kernel_rfl) (by kernel_rfl) (fun c a v w h => HQ2.out c a _ v w h) (by kernel_rfl) (.bool true) (fun W h => by kernel_rfl) hw42 ?_
    try simp only [Act.put, List.setIfInBounds_toArray, List.set_cons_zero, List.set_cons_succ]
    refine held_v 9 (some 52) rfl (by kernel_rfl) (by kernel_rfl) (by kernel_rfl) (by kernel_rfl) (fun c a v w h => HQ2.out c a _ v w h) (by kernel_rfl) (.int .i64 e) (fun W h => by kernel_rfl) hw42 ?_
    try simp only [Act.put, List.setIfInBounds_toArray, List.set_cons_zero, List.set_cons_succ]
    refine held_v 10 (some 53) rfl (by kernel_rfl) (by kernel_rfl) (by kernel_rfl) (by kernel_rfl) (fun c a v w h => HQ2.out c a _ v w h) (by kernel_rfl) (.int .i64 e) (fun W h => by kernel_rfl) hw42 ?_
    try simp only [Act.put, List.setIfInBounds_toArray, List.set_cons_zero, List.set_cons_succ]
    refine held_v 11 (some 54) rfl (by kernel_rfl) (by kernel_rfl) (by kernel_rfl) (by kernel_rfl) (fun c a v w h => HQ2.out c a _ v w h) (by kernel_rfl) (.bool true) (fun W h => by have p := ee.out; go_simp) hw42 ?_
    try simp only [Act.put, List.setIfInBounds_toArray, List.set_cons_zero, List.set_cons_succ]
    refine held_v 12 (some 55) rfl (by kernel_rfl) (by kernel_rfl) (by kernel_rfl) (by kernel_rfl) (fun c a v w h => HQ2.out c a _ v w h) (by kernel_rfl) (.bool true) (fun W h => by kernel_rfl) hw42 ?_
    try simp only [Act.put, List.setIfInBounds_toArray, List.set_cons_zero, List.set_cons_succ]
    refine held_v 13 (some 56) rfl (by kernel_rfl) (by kernel_rfl) (by kernel_rfl) (by kernel_rfl) (fun c a v w h => HQ2.out c a _ v w h) (by kernel_rfl) (.bool true) (fun W h => by kernel_rfl) hw42 ?_
    try simp only [Act.put, List.setIfInBounds_toArray, List.set_cons_zero, List.set_cons_succ]
    refine held_row 14 (some 57) rfl (by kernel_rfl) (by kernel_rfl) (by kernel_rfl) (by kernel_rfl) (fun c a v w h => HQ2.out c a _ v w h) (by kernel_rfl) 40 (.tmp 7) rfl w7.heap.size (by kernel_rfl) 40 #[.slice A8 n c9] (fun _ h => h.2.2.2.2.2.2.1) _ Tryz.underlying40 rfl (sizedF _) hw42 ?_
    try simp only [Act.put, List.setIfInBounds_toArray, List.set_cons_zero, List.set_cons_succ]
    refine held_v 15 (some 58) rfl (by kernel_rfl) (by kernel_rfl) (by kernel_rfl) (by kernel_rfl) (fun c a v w h => HQ2.out c a _ v w h) (by kernel_rfl) (.slice a0 n c) (fun W h => by kernel_rfl) hw42 ?_
    try simp only [Act.put, List.setIfInBounds_toArray, List.set_cons_zero, List.set_cons_succ]
    refine wpAnyH_ready (rs := [16]) (by kernel_rfl) (by decide) ?_
    refine AllReadyH.cons rfl (fun K hK => ?_) AllReadyH.nil
    refine step_call (some 59) (by kernel_rfl) (by kernel_rfl) _ _ (by kernel_rfl) _ (HTR.out _ c _ (Fx.r9 hw42)) ?_
    rintro e w43 ⟨A20, c20, rfl, hr20, hl20, hm20, hbw43⟩
    have ex44 : Rd .u64 w43 w43.heap.size A20 n ts := hr20
    refine ⟨_, rfl, ?_⟩
    refine hK.out _ _ (hw42.below hbw43) (fun hw43 => ?_)
    clear hK K
    try simp only [Act.put, List.setIfInBounds_toArray, List.set_cons_zero, List.set_cons_succ]
    refine wpAnyH_ready (rs := [17]) (by kernel_rfl) (by decide) ?_
    refine AllReadyH.cons rfl (fun K hK => ?_) AllReadyH.nil
    refine step_call (some 60) (by kernel_rfl) (by kernel_rfl) _ _ (by kernel_rfl) _ (HSF.out _ _ c9 c20 _ (Fx.r7 hw43) ex44) ?_
    rintro e w45 ⟨rfl, hbw45⟩
    refine ⟨_, rfl, ?_⟩
    refine hK.out _ _ (hw43.below hbw45) (fun hw45 => ?_)
    clear hK K
    try simp only [Act.put, List.setIfInBounds_toArray, List.set_cons_zero, List.set_cons_succ]
    refine held_v 18 (some 61) rfl (by kernel_rfl) (by kernel_rfl) (by kernel_rfl) (by kernel_rfl) (fun c a v w h => HQ2.out c a _ v w h) (by kernel_rfl) (.bool true) (fun W h => by kernel_rfl) hw45 ?_
    try simp only [Act.put, List.setIfInBounds_toArray, List.set_cons_zero, List.set_cons_succ]
    refine held_v 19 (some 6) rfl (by kernel_rfl) (by kernel_rfl) (by kernel_rfl) (by kernel_rfl) (fun c a v w h => HQ2.out c a _ v w h) (by kernel_rfl) (.bool true) (fun W h => by kernel_rfl) hw45 ?_
    try simp only [Act.put, List.setIfInBounds_toArray, List.set_cons_zero, List.set_cons_succ]
    refine wpAnyH_done (by kernel_rfl) ?_ _
    refine HQ1.out _ _ ?_
    clear HQ1 HQ2
    go_wp2_with fail
    go_ret
    exact ⟨rfl, (Fx.e11 hw45)⟩
  · have be := bldE_big (l := zs) (by omega) hs
    have H1 := Lib.hid (fun A c W h => calls_fen (r11build_c zs hz A n c hnm W h) be.2 be.1 (n := 0) rfl)
    clear be hs hgr hrz hw hrs hz hz0 hg hkst ok0 sl oks hg1 hg2 hlen b0 b1 w2 lc cm ld dm hnm
    go_enter Tryz.func4, Tryz.ntmps4
    go_wp2_with (first
      | (with_reducible refine at_any ?_; refine at_dst 5 rfl ?_; refine wpList_box_any rfl 28 (.tmp 2) rfl (srcV s A d) rfl ?_; intro w1 hkw1 hsw1 hbw1; have G2 := Lib.hid (Fx.newB G0.out hkw1.out hbw1); clear G0; clear hkw1 hsw1 hbw1)
      | (go_at_call 8; (with_reducible refine (alive17_c _ (HKS.out.below (Fx.e3 G2.out))).mono ?_); rintro e w3 ⟨rfl, hbw3⟩; have G4 := Lib.hid (Fx.below G2.out hbw3); clear G2; clear hbw3)
      | (with_reducible refine at_any ?_; refine at_dst 18 rfl ?_; refine wpList_load_blk rfl 28 (.tmp 5) rfl w.heap.size rfl 28 (srcV s A d) (Fx.b0 G4.out) _ Tryz.underlying28 rfl (sizedS s HLs.out _ _) ?_)
      | (go_at_call 9; (with_reducible refine (HGR.out _).mono ?_); rintro e w5 ⟨rfl, hbw5⟩; have G6 := Lib.hid (Fx.below G4.out hbw5); clear G4; clear hbw5)
      | (go_at_call 14; (with_reducible refine (H1.out _ _ _ (Fx.r1 G6.out)).mono ?_); rintro e w7 ⟨A8, c9, rfl, hrw7, hlw7, hmw7, hbw7⟩; have lc9 := Lib.hid hlw7; have mc9 := Lib.hid hmw7; have G10 := Lib.hid (Fx.addR G6.out hbw7 hrw7); clear G6; clear hrw7 hbw7 hlw7 hmw7)
      | (with_reducible refine at_any ?_; refine at_dst 7 rfl ?_; refine wpList_alloc_any rfl 40 rfl #[.slice none 0 0] zero_fen ?_; intro w11 hkw11 hsw11 hbw11; have U12 := Lib.hid (Fx.under_new G10.out rfl); have G13 := Lib.hid (Fx.newB G10.out hkw11.out hbw11); clear G10; clear hkw11 hsw11 hbw11)
      | (with_reducible refine at_any ?_; refine at_store 7 rfl ?_; refine wpList_store_any rfl 40 (.tmp 7) (.tmp 23) rfl w7.heap.size rfl 40 #[.slice none 0 0] (#[.slice A8 0 c9]) (Fx.b0 G13.out) rfl (size1 _ _) (sizedF _) (fen_ones _ _ _) ?_; intro w14 hkw14 hsw14 hbw14 how14; have G15 := Lib.hid (Fx.put1B G13.out U12.out hkw14.out hsw14.out hbw14 how14); clear G13; clear hkw14 hsw14 hbw14 how14))
    go_ret
    exact ⟨rfl, (Fx.e5 G15.out)⟩


set_option maxRecDepth 100000 in
theorem lifted (os : Os) (started : os.Started) (H : Type) (enc : TypeId × Value → H) :
    ReturnsInHanded {} Tryz.checked os 4 .any (fun w args => (Rows.commTreesSpec.pre enc Tryz.prog Tryz.f4 [] false w args ∧ laidMetH Tryz.prog laidK w) ∧ sizedMet enc Tryz.prog Tryz.f4 (OpenSpec.ofChange Rows.commTreesSpec) false w args) (Rows.commTreesSpec.post enc Tryz.prog Tryz.f4 false true false false) := by
  refine returnsInHanded_of_change_and (C := Tryz.checked) (X := fun w _ => laidMetH Tryz.prog laidK w) (fun _ _ _ hh h => h.of_heap hh) own started (by kernel_rfl) Tryz.func4
    (ChangeSpec.witness_shaped (enc := enc) (C := Tryz.checked) (os := os) (X := fun w _ => laidMetH Tryz.prog laidK w) false (World.doorLaid Tryz.prog 400 os) #[.slice none 0 0, .int .i64 0, .agg #[.int .i64 0, .slice none 0 0, .int .u64 0, .int .u8 0, .int .u8 0, .int .u8 0, .int .u8 0, .int .u8 0, .int .u8 0, .int .u8 0, .int .u8 0, .int .u8 0, .int .u8 0, .int .u8 0, .int .u8 0, .int .u8 0, .int .u8 0, .int .u8 0, .int .u8 0, .int .u8 0, .int .u8 0, .int .u8 0, .int .u8 0, .int .u8 0, .int .u8 0, .int .u8 0, .int .u8 0, .int .u8 0, .int .u8 0, .int .u8 0, .int .u8 0, .int .u8 0, .int .u8 0, .int .u8 0, .int .u8 0, .int .u64 0, .int .u64 0]] 8 rfl (World.shaped_of_RefB (by kernel_rfl) (by kernel_rfl)) (by kernel_rfl) (by kernel_rfl) (by kernel_rfl) (door_met os _)) ?_
  intro W base args ds gs before hval0 hW _ _ hL _
  have hval : ∀ (j : Nat) t v, Tryz.f4.params[j]? = some t → args[j]? = some v → Value.okWide Tryz.prog W .any base t v := hval0
  have hW' := hW
  obtain ⟨p, q, hA0, hV, rfl, hfz, hnd⟩ := hW
  have hA : DataW.TrodAll enc Tryz.prog W 0 (fun _ => true) true Tryz.f4.params.toList args.toList ds p := hA0
  rw [Tryz.params4] at hA hval
  obtain ⟨v0, vs0, d0, ds0, p0, q0, hargs, rfl, rfl, h0, r0⟩ := trodAll_cons hA
  obtain ⟨v1, vs1, d1, ds1, p1, q1, rfl, rfl, rfl, h1, r1⟩ := trodAll_cons r0
  obtain ⟨v2, vs2, d2, ds2, p2, q2, rfl, rfl, rfl, h2, r2⟩ := trodAll_cons r1
  obtain ⟨rfl, rfl, rfl⟩ := trodAll_nil r2
  obtain rfl : args = #[v0, v1, v2] := by cases args; simp_all
  obtain ⟨rfl, rfl⟩ := trodVars_none hV
  obtain ⟨a0, n0, c0, rfl⟩ := okWide_slice Tryz.underlying22 (hval 0 22 v0 rfl rfl)
  have k0 := h0
  have lt0 : ∀ x ∈ p0, x.block < W.heap.size := by obtain ⟨m, hm⟩ := k0; exact DataW.trod_lt m _ _ _ hm
  obtain ⟨z0, rd0, lc0, cm0, w0⟩ := open_rd Tryz.underlying22 Tryz.underlying24 (by kernel_rfl) h0
  obtain ⟨a1, rfl, rfl, rfl, w1⟩ := open_int Tryz.underlying3 (hval 1 3 v1 rfl rfl) h1
  have k2 := h2
  have lt2 : ∀ x ∈ p2, x.block < W.heap.size := by obtain ⟨m, hm⟩ := k2; exact DataW.trod_lt m _ _ _ hm
  obtain ⟨s2, a2, c2, rfl, ok2, rd2, lc2, cm2, sl2⟩ := open_src (hval 2 28 v2 rfl rfl) h2
  clear hA0 hval0
  refine (walk a0 n0 c0 z0 a1 s2 a2 c2 W rd0 lc0 cm0 w0 w1 ok2 rd2 lc2 cm2 sl2 (kst_of_laid hL)).mono fun e W' ⟨he, bel⟩ => ?_
  subst he
  exact ⟨_, rfl, _, _, _, [], _, [], hW', trodAll_mk1 (shut_bool Tryz.underlying4 _), (trodAll_cons_mk (Below.trod laidOut (by kernel_rfl) (of_decide_eq_true (by kernel_rfl)) k0 bel lt0) (trodAll_cons_mk (shut_int Tryz.underlying3 w1) (trodAll_cons_mk (Below.trod laidOut (by kernel_rfl) (of_decide_eq_true (by kernel_rfl)) k2 bel lt2) trodAll_mk0))), rfl, bel.frame _, fun h => by cases h⟩

theorem over : Rows.commTreesRow.holds Tryz.pinned (OpenSpec.ofChange Rows.commTreesSpec) :=
  OpenClaim.holds_of_wide 4 Tryz.f4 rfl rfl rfl rfl rfl rfl rfl ⟨rfl, rfl, rfl, rfl, rfl⟩ rfl rfl rfl rfl rfl (by kernel_rfl) Tryz.func4 (by kernel_rfl)
    (of_decide_eq_true (by kernel_rfl)) (by unfold Func.isWrapper; first | (rw [if_pos (by decide +kernel)]; kernel_rfl) | (rw [if_neg (by decide +kernel)]; exact ⟨rfl, rfl⟩))
    (fun os started H enc _ => lifted os started H enc)

end Go.Proofs.YtgnclifmfefbcaaGreatDoor.commTrees
namespace Go.Proofs.YtgnclifmfefbcaaGreatDoor
theorem commTrees_holds : Rows.CommTreesCardSaid :=
  Claim7.holds_tied_plain_at .later [] kindsK true _ false
    commTrees.over (fun _ h => by cases h) (by kernel_rfl) (fun _ h => by cases h) commTrees_row_tie rfl ⟨rfl, rfl⟩ (by kernel_rfl) rfl
    (fun f fn hf hfn => by
      obtain rfl : f = 4 := Option.some.inj ((show Tryz.prog.funcNamed "drawlot/drawlotlaw17.CommTrees" = some 4 by kernel_rfl).symm.trans hf) |>.symm
      obtain rfl : fn = Tryz.f4 := (Option.some.inj (Tryz.func4.symm.trans hfn)).symm
      exact ⟨by kernel_rfl, fun j t ht => by
        rw [Tryz.params4] at ht
        have hm : t ∈ [22, 3, 28] := by simpa using Array.mem_of_getElem? ht
        have hall : ([22, 3, 28].all fun u => !Tryz.prog.wantsStandIn u) = true := by kernel_rfl
        exact (show Tryz.prog.wantsStandIn t = false by simpa using List.all_eq_true.1 hall t hm)⟩)
    (by kernel_rfl)
#print axioms commTrees_holds
end Go.Proofs.YtgnclifmfefbcaaGreatDoor

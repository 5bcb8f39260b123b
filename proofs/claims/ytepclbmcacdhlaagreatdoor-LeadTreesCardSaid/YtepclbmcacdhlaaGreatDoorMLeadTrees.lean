/-
  The tree of any stakes draws who the list draws, by just the same bits; of up to 200 stakes.
  Conditions: the program's table of constants reads, when the call begins, as its text lays it (the card ties that).
-/
import Derived.Test.YtepclbmcacdhlaaGreatDoorGf
import Derived.ShutString
import Derived.Test.YtepclbmcacdhlaaGreatDoorTie
import Derived.Test.YtepclbmcacdhlaaGreatDoorCards
import Derived.SevenTiedAt
import Derived.ChangeOld
namespace Go.Proofs.YtepclbmcacdhlaaGreatDoor.leadTrees
open Go.ChangeShapes Go.WideShapes Go.ChangeAt Go.RowKit
set_option linter.unusedVariables false
set_option linter.unusedSimpArgs false
set_option maxRecDepth 100000

theorem own : ownKnob Tryz.prog.godebug = none := by kernel_rfl
theorem laidOut : laidOutB Tryz.prog = true := by kernel_rfl

theorem led_u {s : Src} {A : Option Addr} {r : Int × Src × Int} {x e : Int} {X : Src} (hx : r.1 = x) (hX : r.2.1 = X) (he : r.2.2 = e) {w w' : World} {en : Ending} (h : RetLead w s A r en w') :
    ∃ A' c', en = .returned (.tuple #[.int .i64 x, .agg (srcV X A' c'), .int .i64 e]) ∧ Rd .u8 w' w'.heap.size A' s.tape.length s.tape ∧ s.tape.length ≤ c' ∧ c' ≤ maxLen ∧ Sep w A A' ∧ Below w.heap.size w w' := by
  subst hx hX he
  exact h
theorem led_src (l : List Int) (s : Src) (a : Int) (ok : s.Ok) : (ledR l s a).2.1.Ok ∧ (ledR l s a).2.1.tape = s.tape := by
  unfold ledR ledT ledGo
  split
  · split
    · exact ⟨ok, rfl⟩
    · split
      · exact ⟨drawT_ok s _ a ok, drawT_tape s _ a⟩
      · exact ⟨drawT_ok s _ a ok, drawT_tape s _ a⟩
  · exact ⟨ok, rfl⟩
set_option maxHeartbeats 16000000 in
theorem walk (a0 : Option Addr) (n c : Nat) (zs : List Int) (s : Src) (A : Option Addr) (d : Nat) (a : Int) (w : World) (hrz : Rd .u64 w w.heap.size a0 n zs) (lc : n ≤ c) (cm : c ≤ maxLen) (hw : ∀ z ∈ zs, (Lit.int .u64 z).wf = true) (ok0 : s.tape.length ≤ 140737488355328 → s.Ok) (hrs : Rd .u8 w w.heap.size A s.tape.length s.tape) (ld : s.tape.length ≤ d) (dm : d ≤ maxLen) (sl : s.seed.length = 32) (w2 : (Lit.int .i64 a).wf = true) (hkst : Kst w) :
    Calls Tryz.prog 4 #[.slice a0 n c, .agg (srcV s A d), .int .i64 a] w fun e w' => e = .returned (.bool true) ∧ Below w.heap.size w w' := by
  have HZ0 := Lib.hid zero_src
  have HZL := Lib.hid (show Src.zero.seed.length = 32 from rfl)
  have HKS := Lib.hid hkst
  have HLs := Lib.hid sl
  have G0 : Hid (Fx [.rdb .u64 w.heap.size a0 n zs, .rdb .u8 w.heap.size A s.tape.length s.tape, .bel w] w) := Lib.hid ⟨⟨hrz, Nat.le_refl _⟩, ⟨hrs, Nat.le_refl _⟩, Below.refl _ _, trivial⟩
  have hlen := hrz.len
  have hz : ∀ z ∈ zs, 0 ≤ z ∧ z < 18446744073709551616 := fun z h => by
    obtain ⟨h1, h2⟩ := bounds_u64 (hw z h)
    omega
  have hnm : n ≤ maxLen := Nat.le_trans lc cm
  have hgr := fun W => r13great_c s (by have h1 := Nat.le_trans ld dm; unfold maxLen at h1; omega) a0 n c hnm A d W
  have b0 : -9223372036854775808 ≤ a := by have := (bounds_i64 w2).1; omega
  have b1 : a < 9223372036854775808 := by have := (bounds_i64 w2).2; omega
  by_cases hg : 200 < n ∨ 500 < s.tape.length
  · rw [decide_eq_true hg] at hgr
    have HGR := Lib.hid hgr
    clear hgr hrz hw hrs hz hg hkst ok0 sl
    go_enter Tryz.func4, Tryz.ntmps4
    go_wp2_with (first
      | (with_reducible refine at_any ?_; refine at_dst 4 rfl ?_; refine wpList_box_any rfl 28 (.tmp 1) rfl (srcV s A d) rfl ?_; intro w1 hkw1 hsw1 hbw1; have G2 := Lib.hid (Fx.newB G0.out hkw1.out hbw1); clear G0; clear hkw1 hsw1 hbw1)
      | (go_at_call 5; (with_reducible refine (alive13_c _ (HKS.out.below (Fx.e3 G2.out))).mono ?_); rintro e w3 ⟨rfl, hbw3⟩; have G4 := Lib.hid (Fx.below G2.out hbw3); clear G2; clear hbw3)
      | (with_reducible refine at_any ?_; refine at_dst 18 rfl ?_; refine wpList_load_blk rfl 28 (.tmp 4) rfl w.heap.size rfl 28 (srcV s A d) (Fx.b0 G4.out) _ Tryz.underlying28 rfl (sizedS s HLs.out _ _) ?_)
      | (go_at_call 6; (with_reducible refine (HGR.out _).mono ?_); rintro e w5 ⟨rfl, hbw5⟩; have G6 := Lib.hid (Fx.below G4.out hbw5); clear G4; clear hbw5))
    go_ret
    exact ⟨rfl, (Fx.e3 G6.out)⟩
  rw [decide_eq_false hg] at hgr
  have HGR := Lib.hid hgr
  have hg1 : n ≤ 200 := Nat.le_of_not_lt fun h => hg (.inl h)
  have hg2 : s.tape.length ≤ 500 := Nat.le_of_not_lt fun h => hg (.inr h)
  have hg3 : (n : Int) ≤ 200 := by omega
  have oks : s.Ok := ok0 (by omega)
  have hn5 : n ≤ 100000000 := by omega
  have hz0 : ∀ z ∈ zs, 0 ≤ z := fun z h => (hz z h).1
  by_cases hs : sumL zs < 9223372036854775808
  · have be := bldE_ok (l := zs) (by omega) hs
    obtain ⟨okX, hXt⟩ := led_src zs s a oks
    have h1 := fun A c W h => calls_fen (r11build_c zs hz A n c hnm W h) be.2 be.1 ((treeL_len zs).trans hlen)
    have hq := fun AF c (hc : n ≤ c) (hm : c ≤ maxLen) W h1 h2 k => q13draw_c zs hz0 hs (by omega) AF n c hlen hc hm s oks a b0 b1 A d ld dm W h1 h2 k
    have hr := fun AL c W h1 h2 => r13draw_c zs hz s oks a b0 b1 AL n c hnm A d ld dm W h1 h2
    have htr := fun A c W h => calls_tree (r11tree_c zs hz0 hs A n c (by omega) W h) hlen
    have hsf := fun A B c d W h h' => calls_val (v' := .bool true) (r11same_c (treeL zs) (treeL zs) A B n n c d hnm hnm W h h') (congrArg Value.bool (decide_eq_true rfl))
    rw [led_ok s a hs] at okX hXt hr
    obtain ⟨r, hrr⟩ : ∃ r, ledT zs s a = r := ⟨_, rfl⟩
    rw [hrr] at okX hXt hq hr
    obtain ⟨ts, hts⟩ : ∃ x, treeL zs = x := ⟨_, rfl⟩
    rw [hts] at h1 hq htr hsf
    obtain ⟨x, X, e⟩ := r
    have HQ := Lib.hid (fun AF c hc hm W h1 h2 k => (hq AF c hc hm W h1 h2 k).mono fun _ _ h => led_u rfl rfl rfl h)
    have HR := Lib.hid (fun AL c W h1 h2 => (hr AL c W h1 h2).mono fun _ _ h => led_u rfl rfl rfl h)
    dsimp only at okX hXt HQ HR
    have HLX := Lib.hid okX.sl
    have HSX := Lib.hid (fun A B c d W h h' => calls_val (v' := .bool true) (rssame_c X X okX okX A B c d W (by rw [hXt]; exact h) (by rw [hXt]; exact h')) (congrArg Value.bool (sameS_refl X)))
    have H1 := Lib.hid h1
    have HTR := Lib.hid htr
    have HSF := Lib.hid hsf
    have xx : Hid ((x == x) = true) := Lib.hid (beq_self_eq_true x)
    have ee : Hid ((e == e) = true) := Lib.hid (beq_self_eq_true e)
    clear h1 hq hr htr hsf hrr hts okX hXt be hs hgr hrz hw hrs hz hz0 hg hkst ok0 sl oks hg1 hg2 hn5 hlen b0 b1 w2 lc cm ld dm hnm
    go_enter Tryz.func4, Tryz.ntmps4
    go_wp2_with (first
      | (with_reducible refine at_any ?_; refine at_dst 4 rfl ?_; refine wpList_box_any rfl 28 (.tmp 1) rfl (srcV s A d) rfl ?_; intro w1 hkw1 hsw1 hbw1; have G2 := Lib.hid (Fx.newB G0.out hkw1.out hbw1); clear G0; clear hkw1 hsw1 hbw1)
      | (go_at_call 5; (with_reducible refine (alive13_c _ (HKS.out.below (Fx.e3 G2.out))).mono ?_); rintro e w3 ⟨rfl, hbw3⟩; have G4 := Lib.hid (Fx.below G2.out hbw3); clear G2; clear hbw3)
      | (with_reducible refine at_any ?_; refine at_dst 18 rfl ?_; refine wpList_load_blk rfl 28 (.tmp 4) rfl w.heap.size rfl 28 (srcV s A d) (Fx.b0 G4.out) _ Tryz.underlying28 rfl (sizedS s HLs.out _ _) ?_)
      | (go_at_call 6; (with_reducible refine (HGR.out _).mono ?_); rintro e w5 ⟨rfl, hbw5⟩; have G6 := Lib.hid (Fx.below G4.out hbw5); clear G4; clear hbw5)
      | (go_at_call 10; (with_reducible refine (H1.out _ _ _ (Fx.r1 G6.out)).mono ?_); rintro e w7 ⟨A8, c9, rfl, hrw7, hlw7, hmw7, hbw7⟩; have lc9 := Lib.hid hlw7; have mc9 := Lib.hid hmw7; have G10 := Lib.hid (Fx.addR G6.out hbw7 hrw7); clear G6; clear hrw7 hbw7 hlw7 hmw7)
      | (with_reducible refine at_any ?_; refine at_dst 7 rfl ?_; refine wpList_alloc_any rfl 38 rfl #[.slice none 0 0] zero_fen ?_; intro w11 hkw11 hsw11 hbw11; have U12 := Lib.hid (Fx.under_new G10.out rfl); have G13 := Lib.hid (Fx.newB G10.out hkw11.out hbw11); clear G10; clear hkw11 hsw11 hbw11)
      | (with_reducible refine at_any ?_; refine at_store 7 rfl ?_; refine wpList_store_any rfl 38 (.tmp 7) (.tmp 23) rfl w7.heap.size rfl 38 #[.slice none 0 0] (#[.slice A8 n c9]) (Fx.b0 G13.out) rfl (size1 _ _) (sizedF _) (fen_ones _ _ _) ?_; intro w14 hkw14 hsw14 hbw14 how14; have G15 := Lib.hid (Fx.put1B G13.out U12.out hkw14.out hsw14.out hbw14 how14); clear G13; clear hkw14 hsw14 hbw14 how14)
      | (with_reducible refine at_any ?_; refine at_dst 28 rfl ?_; refine wpList_load_fen (by kernel_rfl) (.tmp 7) rfl w7.heap.size rfl 38 (.slice A8 n c9) (Fx.b0 G15.out) ?_)
      | (with_reducible refine at_any ?_; refine at_dst 29 rfl ?_; refine wpList_load_blk rfl 28 (.tmp 4) rfl w.heap.size rfl 28 (srcV s A d) (Fx.b2 G15.out) _ Tryz.underlying28 rfl (sizedS s HLs.out _ _) ?_)
      | (go_at_call 11; (with_reducible refine (HQ.out _ _ lc9.out mc9.out _ (Fx.r1 G15.out) (Fx.r4 G15.out) (HKS.out.below (Fx.e5 G15.out))).mono ?_); rintro e w16 ⟨A17, c18, rfl, hrw16, hlw16, hmw16, _, hbw16⟩; have lc18 := Lib.hid hlw16; have mc18 := Lib.hid hmw16; have G19 := Lib.hid (Fx.addR G15.out hbw16 hrw16); clear G15; clear hrw16 hbw16 hlw16 hmw16)
      | (with_reducible refine at_any ?_; refine at_dst 10 rfl ?_; refine wpList_alloc_any rfl 28 rfl (srcV Src.zero none 0) HZ0.out ?_; intro w20 hkw20 hsw20 hbw20; have U21 := Lib.hid (Fx.under_new G19.out rfl); have G22 := Lib.hid (Fx.newB G19.out hkw20.out hbw20); clear G19; clear hkw20 hsw20 hbw20)
      | (with_reducible refine at_any ?_; refine at_store 10 rfl ?_; refine wpList_store_any rfl 28 (.tmp 10) (.tmp 33) rfl w16.heap.size rfl 28 (srcV Src.zero none 0) (srcV X A17 c18) (Fx.b0 G22.out) rfl (srcV_same _ X HZL.out HLX.out _ _ _ _) (sizedS X HLX.out _ _) (srcV_ones _ _ _) ?_; intro w23 hkw23 hsw23 hbw23 how23; have G24 := Lib.hid (Fx.put1B G22.out U21.out hkw23.out hsw23.out hbw23 how23); clear G22; clear hkw23 hsw23 hbw23 how23)
      | (with_reducible refine at_any ?_; refine at_dst 37 rfl ?_; refine wpList_load_blk rfl 28 (.tmp 4) rfl w.heap.size rfl 28 (srcV s A d) (Fx.b4 G24.out) _ Tryz.underlying28 rfl (sizedS s HLs.out _ _) ?_)
      | (go_at_call 8; (with_reducible refine (HR.out _ _ _ (Fx.r5 G24.out) (Fx.r6 G24.out)).mono ?_); rintro e w25 ⟨A26, c27, rfl, hrw25, hlw25, hmw25, _, hbw25⟩; have lc27 := Lib.hid hlw25; have mc27 := Lib.hid hmw25; have G28 := Lib.hid (Fx.addR G24.out hbw25 hrw25); clear G24; clear hrw25 hbw25 hlw25 hmw25)
      | (with_reducible refine at_any ?_; refine at_dst 13 rfl ?_; refine wpList_alloc_any rfl 28 rfl (srcV Src.zero none 0) HZ0.out ?_; intro w29 hkw29 hsw29 hbw29; have U30 := Lib.hid (Fx.under_new G28.out rfl); have G31 := Lib.hid (Fx.newB G28.out hkw29.out hbw29); clear G28; clear hkw29 hsw29 hbw29)
      | (with_reducible refine at_any ?_; refine at_store 13 rfl ?_; refine wpList_store_any rfl 28 (.tmp 13) (.tmp 41) rfl w25.heap.size rfl 28 (srcV Src.zero none 0) (srcV X A26 c27) (Fx.b0 G31.out) rfl (srcV_same _ X HZL.out HLX.out _ _ _ _) (sizedS X HLX.out _ _) (srcV_ones _ _ _) ?_; intro w32 hkw32 hsw32 hbw32 how32; have G33 := Lib.hid (Fx.put1B G31.out U30.out hkw32.out hsw32.out hbw32 how32); clear G31; clear hkw32 hsw32 hbw32 how32))
    refine wp_region_held_drew (S := (Fx [.blk w25.heap.size 28 (srcV X A26 c27), .rdb .u8 w25.heap.size A26 s.tape.length s.tape, .blk w16.heap.size 28 (srcV X A17 c18), .rdb .u8 w16.heap.size A17 s.tape.length s.tape, .blk w7.heap.size 38 #[.slice A8 n c9], .rdb .u64 w7.heap.size A8 n ts, .blk w.heap.size 28 (srcV s A d), .rdb .u64 w.heap.size a0 n zs, .rdb .u8 w.heap.size A s.tape.length s.tape, .bel w])) (by kernel_rfl) (Fx.drew G33.out) (fun hH => ?_)
    refine wpAnyH_letter #[false, false, false, false, false, false, false, false, false, false, false, false, false, false, false, false, false, false, false, false] (by kernel_rfl) (fun _ _ d _ _ h => by cases d <;> exact h) (fun QL HQ1 HQ2 => ?_)
    refine held_v 0 (some 43) rfl (by kernel_rfl) (by kernel_rfl) (by kernel_rfl) (by kernel_rfl) (fun c a v w h => HQ2.out c a _ v w h) (by kernel_rfl) (.int .i64 x) (fun W h => by kernel_rfl) hH ?_
    try simp only [Act.put, List.setIfInBounds_toArray, List.set_cons_zero, List.set_cons_succ]
    refine held_v 1 (some 44) rfl (by kernel_rfl) (by kernel_rfl) (by kernel_rfl) (by kernel_rfl) (fun c a v w h => HQ2.out c a _ v w h) (by kernel_rfl) (.int .i64 x) (fun W h => by kernel_rfl) hH ?_
    try simp only [Act.put, List.setIfInBounds_toArray, List.set_cons_zero, List.set_cons_succ]
    refine held_v 2 (some 45) rfl (by kernel_rfl) (by kernel_rfl) (by kernel_rfl) (by kernel_rfl) (fun c a v w h => HQ2.out c a _ v w h) (by kernel_rfl) (.bool true) (fun W h => by have p := xx.out; go_simp) hH ?_
    try simp only [Act.put, List.setIfInBounds_toArray, List.set_cons_zero, List.set_cons_succ]
    refine held_v 3 (some 46) rfl (by kernel_rfl) (by kernel_rfl) (by kernel_rfl) (by kernel_rfl) (fun c a v w h => HQ2.out c a _ v w h) (by kernel_rfl) (.bool true) (fun W h => by kernel_rfl) hH ?_
    try simp only [Act.put, List.setIfInBounds_toArray, List.set_cons_zero, List.set_cons_succ]
    refine held_row 4 (some 47) rfl (by kernel_rfl) (by kernel_rfl) (by kernel_rfl) (by kernel_rfl) (fun c a v w h => HQ2.out c a _ v w h) (by kernel_rfl) 28 (.tmp 10) rfl w16.heap.size (by kernel_rfl) 28 (srcV X A17 c18) (fun _ h => h.2.2.1) _ Tryz.underlying28 rfl (sizedS X HLX.out _ _) hH ?_
    try simp only [Act.put, List.setIfInBounds_toArray, List.set_cons_zero, List.set_cons_succ]
    refine held_row 5 (some 48) rfl (by kernel_rfl) (by kernel_rfl) (by kernel_rfl) (by kernel_rfl) (fun c a v w h => HQ2.out c a _ v w h) (by kernel_rfl) 28 (.tmp 13) rfl w25.heap.size (by kernel_rfl) 28 (srcV X A26 c27) (fun _ h => h.1) _ Tryz.underlying28 rfl (sizedS X HLX.out _ _) hH ?_
    try simp only [Act.put, List.setIfInBounds_toArray, List.set_cons_zero, List.set_cons_succ]
    refine wpAnyH_ready (rs := [6]) (by kernel_rfl) (by decide) ?_
    refine AllReadyH.cons rfl (fun K hK => ?_) AllReadyH.nil
    refine step_call (some 49) (by kernel_rfl) (by kernel_rfl) _ _ (by kernel_rfl) _ (HSX.out _ _ c18 c27 _ (Fx.r3 hH) (Fx.r1 hH)) ?_
    rintro e w41 ⟨rfl, hbw41⟩
    refine ⟨_, rfl, ?_⟩
    refine hK.out _ _ (hH.below hbw41) (fun hw41 => ?_)
    clear hK K
    try simp only [Act.put, List.setIfInBounds_toArray, List.set_cons_zero, List.set_cons_succ]
    refine held_v 7 (some 50) rfl (by kernel_rfl) (by kernel_rfl) (by kernel_rfl) (by kernel_rfl) (fun c a v w h => HQ2.out c a _ v w h) (by kernel_rfl) (.bool true) (fun W h => by kernel_rfl) hw41 ?_
    try simp only [Act.put, List.setIfInBounds_toArray, List.set_cons_zero, List.set_cons_succ]
    refine held_v 8 (some 51) rfl (by kernel_rfl) (by kernel_rfl) (by kernel_rfl) (by kernel_rfl) (fun c a v w h => HQ2.out c a _ v w h) (by kernel_rfl) (.bool true) (fun W h => by kernel_rfl) hw41 ?_
    try simp only [Act.put, List.setIfInBounds_toArray, List.set_cons_zero, List.set_cons_succ]
    refine held_v 9 (some 52) rfl (by kernel_rfl) (by kernel_rfl) (by kernel_rfl) (by kernel_rfl) (fun c a v w h => HQ2.out c a _ v w h) (by kernel_rfl) (.int .i64 e) (fun W h => by kernel_rfl) hw41 ?_
    try simp only [Act.put, List.setIfInBounds_toArray, List.set_cons_zero, List.set_cons_succ]
    refine held_v 10 (some 53) rfl (by kernel_rfl) (by kernel_rfl) (by kernel_rfl) (by kernel_rfl) (fun c a v w h => HQ2.out c a _ v w h) (by kernel_rfl) (.int .i64 e) (fun W h => by kernel_rfl) hw41 ?_
    try simp only [Act.put, List.setIfInBounds_toArray, List.set_cons_zero, List.set_cons_succ]
    refine held_v 11 (some 54) rfl (by kernel_rfl) (by kernel_rfl) (by kernel_rfl) (by kernel_rfl) (fun c a v w h => HQ2.out c a _ v w h) (by kernel_rfl) (.bool true) (fun W h => by have p := ee.out; go_simp) hw41 ?_
    try simp only [Act.put, List.setIfInBounds_toArray, List.set_cons_zero, List.set_cons_succ]
    refine held_v 12 (some 55) rfl (by kernel_rfl) (by kernel_rfl) (by kernel_rfl) (by kernel_rfl) (fun c a v w h => HQ2.out c a _ v w h) (by kernel_rfl) (.bool true) (fun W h => by kernel_rfl) hw41 ?_
    try simp only [Act.put, List.setIfInBounds_toArray, List.set_cons_zero, List.set_cons_succ]
    refine held_v 13 (some 56) rfl (by kernel_rfl) (by kernel_rfl) (by kernel_rfl) (by kernel_rfl) (fun c a v w h => HQ2.out c a _ v w h) (by kernel_rfl) (.bool true) (fun W h => by kernel_rfl) hw41 ?_
    try simp only [Act.put, List.setIfInBounds_toArray, List.set_cons_zero, List.set_cons_succ]
    refine held_row 14 (some 57) rfl (by kernel_rfl) (by kernel_rfl) (by kernel_rfl) (by kernel_rfl) (fun c a v w h => HQ2.out c a _ v w h) (by kernel_rfl) 38 (.tmp 7) rfl w7.heap.size (by kernel_rfl) 38 #[.slice A8 n c9] (fun _ h => h.2.2.2.2.1) _ Tryz.underlying38 rfl (sizedF _) hw41 ?_
    try simp only [Act.put, List.setIfInBounds_toArray, List.set_cons_zero, List.set_cons_succ]
    refine held_v 15 (some 58) rfl (by kernel_rfl) (by kernel_rfl) (by kernel_rfl) (by kernel_rfl) (fun c a v w h => HQ2.out c a _ v w h) (by kernel_rfl) (.slice a0 n c) (fun W h => by kernel_rfl) hw41 ?_
    try simp only [Act.put, List.setIfInBounds_toArray, List.set_cons_zero, List.set_cons_succ]
    refine wpAnyH_ready (rs := [16]) (by kernel_rfl) (by decide) ?_
    refine AllReadyH.cons rfl (fun K hK => ?_) AllReadyH.nil
    refine step_call (some 59) (by kernel_rfl) (by kernel_rfl) _ _ (by kernel_rfl) _ (HTR.out _ c _ (Fx.r7 hw41)) ?_
    rintro e w42 ⟨A20, c20, rfl, hr20, hl20, hm20, hbw42⟩
    have ex43 : Rd .u64 w42 w42.heap.size A20 n ts := hr20
    refine ⟨_, rfl, ?_⟩
    refine hK.out _ _ (hw41.below hbw42) (fun hw42 => ?_)
    clear hK K
    try simp only [Act.put, List.setIfInBounds_toArray, List.set_cons_zero, List.set_cons_succ]
    refine wpAnyH_ready (rs := [17]) (by kernel_rfl) (by decide) ?_
    refine AllReadyH.cons rfl (fun K hK => ?_) AllReadyH.nil
    refine step_call (some 60) (by kernel_rfl) (by kernel_rfl) _ _ (by kernel_rfl) _ (HSF.out _ _ c9 c20 _ (Fx.r5 hw42) ex43) ?_
    rintro e w44 ⟨rfl, hbw44⟩
    refine ⟨_, rfl, ?_⟩
    refine hK.out _ _ (hw42.below hbw44) (fun hw44 => ?_)
    clear hK K
    try simp only [Act.put, List.setIfInBounds_toArray, List.set_cons_zero, List.set_cons_succ]
    refine held_v 18 (some 61) rfl (by kernel_rfl) (by kernel_rfl) (by kernel_rfl) (by kernel_rfl) (fun c a v w h => HQ2.out c a _ v w h) (by kernel_rfl) (.bool true) (fun W h => by kernel_rfl) hw44 ?_
    try simp only [Act.put, List.setIfInBounds_toArray, List.set_cons_zero, List.set_cons_succ]
    refine held_v 19 (some 6) rfl (by kernel_rfl) (by kernel_rfl) (by kernel_rfl) (by kernel_rfl) (fun c a v w h => HQ2.out c a _ v w h) (by kernel_rfl) (.bool true) (fun W h => by kernel_rfl) hw44 ?_
    try simp only [Act.put, List.setIfInBounds_toArray, List.set_cons_zero, List.set_cons_succ]
    refine wpAnyH_done (by kernel_rfl) ?_ _
    refine HQ1.out _ _ ?_
    clear HQ1 HQ2
    go_wp2_with fail
    go_ret
    exact ⟨rfl, (Fx.e9 hw44)⟩
  · have be := bldE_big (l := zs) (by omega) hs
    have H1 := Lib.hid (fun A c W h => calls_fen (r11build_c zs hz A n c hnm W h) be.2 be.1 (n := 0) rfl)
    clear be hs hgr hrz hw hrs hz hz0 hg hkst ok0 sl oks hg1 hg2 hn5 hlen b0 b1 w2 lc cm ld dm hnm
    go_enter Tryz.func4, Tryz.ntmps4
    go_wp2_with (first
      | (with_reducible refine at_any ?_; refine at_dst 4 rfl ?_; refine wpList_box_any rfl 28 (.tmp 1) rfl (srcV s A d) rfl ?_; intro w1 hkw1 hsw1 hbw1; have G2 := Lib.hid (Fx.newB G0.out hkw1.out hbw1); clear G0; clear hkw1 hsw1 hbw1)
      | (go_at_call 5; (with_reducible refine (alive13_c _ (HKS.out.below (Fx.e3 G2.out))).mono ?_); rintro e w3 ⟨rfl, hbw3⟩; have G4 := Lib.hid (Fx.below G2.out hbw3); clear G2; clear hbw3)
      | (with_reducible refine at_any ?_; refine at_dst 18 rfl ?_; refine wpList_load_blk rfl 28 (.tmp 4) rfl w.heap.size rfl 28 (srcV s A d) (Fx.b0 G4.out) _ Tryz.underlying28 rfl (sizedS s HLs.out _ _) ?_)
      | (go_at_call 6; (with_reducible refine (HGR.out _).mono ?_); rintro e w5 ⟨rfl, hbw5⟩; have G6 := Lib.hid (Fx.below G4.out hbw5); clear G4; clear hbw5)
      | (go_at_call 10; (with_reducible refine (H1.out _ _ _ (Fx.r1 G6.out)).mono ?_); rintro e w7 ⟨A8, c9, rfl, hrw7, hlw7, hmw7, hbw7⟩; have lc9 := Lib.hid hlw7; have mc9 := Lib.hid hmw7; have G10 := Lib.hid (Fx.addR G6.out hbw7 hrw7); clear G6; clear hrw7 hbw7 hlw7 hmw7)
      | (with_reducible refine at_any ?_; refine at_dst 7 rfl ?_; refine wpList_alloc_any rfl 38 rfl #[.slice none 0 0] zero_fen ?_; intro w11 hkw11 hsw11 hbw11; have U12 := Lib.hid (Fx.under_new G10.out rfl); have G13 := Lib.hid (Fx.newB G10.out hkw11.out hbw11); clear G10; clear hkw11 hsw11 hbw11)
      | (with_reducible refine at_any ?_; refine at_store 7 rfl ?_; refine wpList_store_any rfl 38 (.tmp 7) (.tmp 23) rfl w7.heap.size rfl 38 #[.slice none 0 0] (#[.slice A8 0 c9]) (Fx.b0 G13.out) rfl (size1 _ _) (sizedF _) (fen_ones _ _ _) ?_; intro w14 hkw14 hsw14 hbw14 how14; have G15 := Lib.hid (Fx.put1B G13.out U12.out hkw14.out hsw14.out hbw14 how14); clear G13; clear hkw14 hsw14 hbw14 how14))
    go_ret
    exact ⟨rfl, (Fx.e5 G15.out)⟩


set_option maxRecDepth 100000 in
theorem lifted (os : Os) (started : os.Started) (H : Type) (enc : TypeId × Value → H) :
    ReturnsInHanded {} Tryz.checked os 4 .any (fun w args => (Rows.leadTreesSpec.pre enc Tryz.prog Tryz.f4 [] false w args ∧ laidMetH Tryz.prog laidK w) ∧ sizedMet enc Tryz.prog Tryz.f4 (OpenSpec.ofChange Rows.leadTreesSpec) false w args) (Rows.leadTreesSpec.post enc Tryz.prog Tryz.f4 false true false false) := by
  refine returnsInHanded_of_change_and (C := Tryz.checked) (X := fun w _ => laidMetH Tryz.prog laidK w) (fun _ _ _ hh h => h.of_heap hh) own started (by kernel_rfl) Tryz.func4
    (ChangeSpec.witness_shaped (enc := enc) (C := Tryz.checked) (os := os) (X := fun w _ => laidMetH Tryz.prog laidK w) false (World.doorLaid Tryz.prog 400 os) #[.slice none 0 0, .agg #[.int .i64 0, .slice none 0 0, .int .u64 0, .int .u8 0, .int .u8 0, .int .u8 0, .int .u8 0, .int .u8 0, .int .u8 0, .int .u8 0, .int .u8 0, .int .u8 0, .int .u8 0, .int .u8 0, .int .u8 0, .int .u8 0, .int .u8 0, .int .u8 0, .int .u8 0, .int .u8 0, .int .u8 0, .int .u8 0, .int .u8 0, .int .u8 0, .int .u8 0, .int .u8 0, .int .u8 0, .int .u8 0, .int .u8 0, .int .u8 0, .int .u8 0, .int .u8 0, .int .u8 0, .int .u8 0, .int .u8 0, .int .u64 0, .int .u64 0], .int .i64 0] 8 rfl (World.shaped_of_RefB (by kernel_rfl) (by kernel_rfl)) (by kernel_rfl) (by kernel_rfl) (by kernel_rfl) (door_met os _)) ?_
  intro W base args ds gs before hval0 hW _ _ hL _
  have hval : ∀ (j : Nat) t v, Tryz.f4.params[j]? = some t → args[j]? = some v → Value.okWide Tryz.prog W .any base t v := hval0
  have hW' := hW
  obtain ⟨p, q, hA0, hV, rfl, hfz, hnd⟩ := hW
  have hA : DataW.TrodAll enc Tryz.prog W 0 (fun _ => true) true Tryz.f4.params.toList args.toList ds p := hA0
  rw [Tryz.params4] at hA hval
  obtain ⟨v0, vs0, d0, ds0, p0, q0, hargs, rfl, rfl, h0, r0⟩ := trodAll_cons hA
  obtain ⟨v1, vs1, d1, ds1, p1, q1, rfl, rfl, rfl, h1, r1⟩ := trodAll_cons r0
  obtain ⟨v2, vs2, d2, ds2, p2, q2, rfl, rfl, rfl, h2, r2⟩ := trodAll_cons r1
  obtain ⟨rfl, rfl, rfl⟩ := trodAll_nil r2
  obtain rfl : args = #[v0, v1, v2] := by cases args; simp_all
  obtain ⟨rfl, rfl⟩ := trodVars_none hV
  obtain ⟨a0, n0, c0, rfl⟩ := okWide_slice Tryz.underlying22 (hval 0 22 v0 rfl rfl)
  have k0 := h0
  have lt0 : ∀ x ∈ p0, x.block < W.heap.size := by obtain ⟨m, hm⟩ := k0; exact DataW.trod_lt m _ _ _ hm
  obtain ⟨z0, rd0, lc0, cm0, w0⟩ := open_rd Tryz.underlying22 Tryz.underlying24 (by kernel_rfl) h0
  have k1 := h1
  have lt1 : ∀ x ∈ p1, x.block < W.heap.size := by obtain ⟨m, hm⟩ := k1; exact DataW.trod_lt m _ _ _ hm
  obtain ⟨s1, a1, c1, rfl, ok1, rd1, lc1, cm1, sl1⟩ := open_src (hval 1 28 v1 rfl rfl) h1
  obtain ⟨a2, rfl, rfl, rfl, w2⟩ := open_int Tryz.underlying3 (hval 2 3 v2 rfl rfl) h2
  clear hA0 hval0
  refine (walk a0 n0 c0 z0 s1 a1 c1 a2 W rd0 lc0 cm0 w0 ok1 rd1 lc1 cm1 sl1 w2 (kst_of_laid hL)).mono fun e W' ⟨he, bel⟩ => ?_
  subst he
  exact ⟨_, rfl, _, _, _, [], _, [], hW', trodAll_mk1 (shut_bool Tryz.underlying4 _), (trodAll_cons_mk (Below.trod laidOut (by kernel_rfl) (of_decide_eq_true (by kernel_rfl)) k0 bel lt0) (trodAll_cons_mk (Below.trod laidOut (by kernel_rfl) (of_decide_eq_true (by kernel_rfl)) k1 bel lt1) (trodAll_cons_mk (shut_int Tryz.underlying3 w2) trodAll_mk0))), rfl, bel.frame _, fun h => by cases h⟩

theorem over : Rows.leadTreesRow.holds Tryz.pinned (OpenSpec.ofChange Rows.leadTreesSpec) :=
  OpenClaim.holds_of_wide 4 Tryz.f4 rfl rfl rfl rfl rfl rfl rfl ⟨rfl, rfl, rfl, rfl, rfl⟩ rfl rfl rfl rfl rfl (by kernel_rfl) Tryz.func4 (by kernel_rfl)
    (of_decide_eq_true (by kernel_rfl)) (by unfold Func.isWrapper; first | (rw [if_pos (by decide +kernel)]; kernel_rfl) | (rw [if_neg (by decide +kernel)]; exact ⟨rfl, rfl⟩))
    (fun os started H enc _ => lifted os started H enc)

end Go.Proofs.YtepclbmcacdhlaaGreatDoor.leadTrees
namespace Go.Proofs.YtepclbmcacdhlaaGreatDoor
theorem leadTrees_holds : Rows.LeadTreesCardSaid :=
  Claim7.holds_tied_plain_at .later [] kindsK true _ false
    leadTrees.over (fun _ h => by cases h) (by kernel_rfl) (fun _ h => by cases h) leadTrees_row_tie rfl ⟨rfl, rfl⟩ (by kernel_rfl) rfl
    (fun f fn hf hfn => by
      obtain rfl : f = 4 := Option.some.inj ((show Tryz.prog.funcNamed "drawlot/drawlotlaw13.LeadTrees" = some 4 by kernel_rfl).symm.trans hf) |>.symm
      obtain rfl : fn = Tryz.f4 := (Option.some.inj (Tryz.func4.symm.trans hfn)).symm
      exact ⟨by kernel_rfl, fun j t ht => by
        rw [Tryz.params4] at ht
        have hm : t ∈ [22, 28, 3] := by simpa using Array.mem_of_getElem? ht
        have hall : ([22, 28, 3].all fun u => !Tryz.prog.wantsStandIn u) = true := by kernel_rfl
        exact (show Tryz.prog.wantsStandIn t = false by simpa using List.all_eq_true.1 hall t hm)⟩)
    (by kernel_rfl)
#print axioms leadTrees_holds
end Go.Proofs.YtepclbmcacdhlaaGreatDoor

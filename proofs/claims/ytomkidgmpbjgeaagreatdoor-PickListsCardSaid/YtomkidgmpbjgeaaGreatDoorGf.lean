/-
  Texts of this claim, joined: LawT, OpenA, OpenC, SrcO, OpenS, RefNd, RefO, RefZb, PikR, PikT, GrtR. What each shows, and its conditions, stand at its own head.
-/
import Derived.Test.YtomkidgmpbjgeaaGreatDoorGe
import Derived.Test.YtomkidgmpbjgeaaGreatDoorRows
import Derived.ShutString
import Derived.ChangeOld
import Derived.Deep.Matrix
import Derived.Deep.SlicePairs
import Derived.ChangeSame
import Derived.BigQuiet
/-
  What stage 15's fixed fact returns.
  Conditions: the table of constants holds what the program's text lays.
-/
set_option maxRecDepth 100000
set_option linter.unusedVariables false
set_option linter.unusedSimpArgs false
namespace Go.Proofs.YtomkidgmpbjgeaaGreatDoor
open Go.ChangeShapes Go.WideShapes Go.ChangeAt Go.RowKit
set_option maxHeartbeats 8000000 in
theorem alive15_c (w : World) (hkst : Kst w) : Calls Tryz.prog 5 #[] w fun e w' => e = .returned (.bool true) ∧ Below w.heap.size w w' := by
  have ok1 := tapeOf_okP [160] (by simp) (by decide) 8 (by omega) (by omega)
  have okt := ok1.to_ 3 (by omega) (by omega)
  have hTP : ∀ A W, Rd .u8 W W.heap.size A 1 [160] → Calls Tryz.prog 12 #[.slice A 1 1, .int .u64 8] W (fun e w' => ∃ A' c', e = .returned (.tuple #[.agg (srcV (Src.tapeOf [160] 8) A' c'), .int .i64 0]) ∧ Rd .u8 w' w'.heap.size A' 1 [160] ∧ 1 ≤ c' ∧ c' ≤ maxLen ∧ Below W.heap.size W w') := fun A W h => rstape_c [160] (by simp) 8 (by omega) (by omega) A 1 1 W h (Nat.le_refl _)
  have hTB := fun A c W (hr : Rd .u64 W W.heap.size A 2 [3, 1]) => calls_tab (T' := 4) (n' := 2) (ts' := [(4, 0), (2, 0)]) (er' := 0) (r14build_c [3, 1] (by decide) A 2 c (by omega) W hr) (by decide) (by decide) (by decide) (by decide)
  have hd1 : ∀ AF c, 2 ≤ c → c ≤ maxLen → ∀ A c0, 1 ≤ c0 → c0 ≤ maxLen → ∀ W, RdPr .u64 .i64 W W.heap.size AF 2 [(4, 0), (2, 0)] → Rd .u8 W W.heap.size A 1 [160] → Kst W → Calls Tryz.prog 6 #[.agg #[.int .u64 4, .slice AF 2 c], .agg (srcV (Src.tapeOf [160] 8) A c0), .int .i64 1] W (fun e w' => ∃ A' c', e = .returned (.tuple #[.int .i64 1, .agg (srcV ((Src.tapeOf [160] 8).to 3) A' c'), .int .i64 0]) ∧ Rd .u8 w' w'.heap.size A' 1 [160] ∧ 1 ≤ c' ∧ c' ≤ maxLen ∧ Sep W A A' ∧ Below W.heap.size W w') := fun AF c g1 g2 A c0 h1 h2 W h0 h3 h4 => by
    have h := q15draw_c 4 (by decide) (by decide) [(4, 0), (2, 0)] (by intro p hp; simp at hp; rcases hp with rfl | rfl <;> decide) AF 2 c (by omega) g1 g2 (Src.tapeOf [160] 8) ok1 1 (by omega) (by omega) A c0 h1 h2 W h0 h3 h4
    unfold RetLead at h
    rw [show pikT 4 [(4, 0), (2, 0)] (Src.tapeOf [160] 8) 1 = (1, ((Src.tapeOf [160] 8).to 3), 0) by kernel_rfl] at h
    exact h
  have hd3 : ∀ AF c, 2 ≤ c → c ≤ maxLen → ∀ A c0, 1 ≤ c0 → c0 ≤ maxLen → ∀ W, RdPr .u64 .i64 W W.heap.size AF 2 [(4, 0), (2, 0)] → Rd .u8 W W.heap.size A 1 [160] → Kst W → Calls Tryz.prog 6 #[.agg #[.int .u64 4, .slice AF 2 c], .agg (srcV ((Src.tapeOf [160] 8).to 3) A c0), .int .i64 1] W (fun e w' => ∃ A' c', e = .returned (.tuple #[.int .i64 0, .agg (srcV ((Src.tapeOf [160] 8).to 6) A' c'), .int .i64 0]) ∧ Rd .u8 w' w'.heap.size A' 1 [160] ∧ 1 ≤ c' ∧ c' ≤ maxLen ∧ Sep W A A' ∧ Below W.heap.size W w') := fun AF c g1 g2 A c0 h1 h2 W h0 h3 h4 => by
    have h := q15draw_c 4 (by decide) (by decide) [(4, 0), (2, 0)] (by intro p hp; simp at hp; rcases hp with rfl | rfl <;> decide) AF 2 c (by omega) g1 g2 ((Src.tapeOf [160] 8).to 3) okt 1 (by omega) (by omega) A c0 h1 h2 W h0 h3 h4
    unfold RetLead at h
    rw [show pikT 4 [(4, 0), (2, 0)] ((Src.tapeOf [160] 8).to 3) 1 = (0, ((Src.tapeOf [160] 8).to 6), 0) by kernel_rfl] at h
    exact h
  have hl1 : ∀ AL c, ∀ A c0, 1 ≤ c0 → c0 ≤ maxLen → ∀ W, Rd .u64 W W.heap.size AL 2 [3, 1] → Rd .u8 W W.heap.size A 1 [160] → Kst W → Calls Tryz.prog 10 #[.agg (srcV (Src.tapeOf [160] 8) A c0), .int .i64 1, .slice AL 2 c] W (fun e w' => ∃ A' c', e = .returned (.tuple #[.int .i64 1, .agg (srcV ((Src.tapeOf [160] 8).to 3) A' c'), .int .i64 0]) ∧ Rd .u8 w' w'.heap.size A' 1 [160] ∧ 1 ≤ c' ∧ c' ≤ maxLen ∧ Sep W A A' ∧ Below W.heap.size W w') := fun AL c A c0 h1 h2 W h0 h3 h4 => by
    have h := q15list_c [3, 1] (by decide) AL 2 c (by omega) (Src.tapeOf [160] 8) ok1 1 (by omega) (by omega) A c0 h1 h2 W h0 h3 h4
    unfold RetLead at h
    rw [show pikR [3, 1] (Src.tapeOf [160] 8) 1 = (1, (Src.tapeOf [160] 8).to 3, 0) by kernel_rfl] at h
    exact h
  have hl2 : ∀ A c0, 1 ≤ c0 → c0 ≤ maxLen → ∀ W, Rd .u8 W W.heap.size A 1 [160] → Kst W → Calls Tryz.prog 10 #[.agg (srcV (Src.tapeOf [160] 8) A c0), .int .i64 1, .slice none 0 0] W (fun e w' => ∃ A' c', e = .returned (.tuple #[.int .i64 0, .agg (srcV (Src.tapeOf [160] 8) A' c'), .int .i64 10]) ∧ Rd .u8 w' w'.heap.size A' 1 [160] ∧ 1 ≤ c' ∧ c' ≤ maxLen ∧ Sep W A A' ∧ Below W.heap.size W w') := fun A c0 h1 h2 W h3 h4 => by
    have h := q15list_c [] (by decide) none 0 0 (by omega) (Src.tapeOf [160] 8) ok1 1 (by omega) (by omega) A c0 h1 h2 W (rd_nilP _ _ _ _) h3 h4
    unfold RetLead at h
    rw [show pikR [] (Src.tapeOf [160] 8) 1 = (0, (Src.tapeOf [160] 8), 10) by kernel_rfl] at h
    exact h
  have hd2 : ∀ A c0, 1 ≤ c0 → c0 ≤ maxLen → ∀ W, Rd .u8 W W.heap.size A 1 [160] → Kst W → Calls Tryz.prog 6 #[.agg #[.int .u64 0, .slice none 0 0], .agg (srcV (Src.tapeOf [160] 8) A c0), .int .i64 1] W (fun e w' => ∃ A' c', e = .returned (.tuple #[.int .i64 0, .agg (srcV (Src.tapeOf [160] 8) A' c'), .int .i64 1]) ∧ Rd .u8 w' w'.heap.size A' 1 [160] ∧ 1 ≤ c' ∧ c' ≤ maxLen ∧ Sep W A A' ∧ Below W.heap.size W w') := fun A c0 h1 h2 W h3 h4 => by
    have h := q15draw_c 0 (by decide) (by decide) [] (fun p h => by cases h) none 0 0 (by omega) (by omega) (by simp [maxLen]) (Src.tapeOf [160] 8) ok1 1 (by omega) (by omega) A c0 h1 h2 W (RdPr.nil _ _ _ _ _) h3 h4
    unfold RetLead at h
    rw [show pikT 0 [] (Src.tapeOf [160] 8) 1 = (0, (Src.tapeOf [160] 8), 1) by kernel_rfl] at h
    exact h
  have hc1 := fun (W : World) (g : Nat) A c (h : Blk W g 30 (srcV ((Src.tapeOf [160] 8).to 3) A c)) => (h.cell 36).trans (srcV_at ((Src.tapeOf [160] 8).to 3) rfl A c)
  rw [show ((Src.tapeOf [160] 8).to 3).at_ = 3 from rfl] at hc1
  have hc2 := fun (W : World) (g : Nat) A c (h : Blk W g 30 (srcV (Src.tapeOf [160] 8) A c)) => (h.cell 36).trans (srcV_at (Src.tapeOf [160] 8) rfl A c)
  rw [show (Src.tapeOf [160] 8).at_ = 0 from rfl] at hc2
  have hc3 := fun (W : World) (g : Nat) A c (h : Blk W g 30 (srcV ((Src.tapeOf [160] 8).to 6) A c)) => (h.cell 36).trans (srcV_at ((Src.tapeOf [160] 8).to 6) rfl A c)
  rw [show ((Src.tapeOf [160] 8).to 6).at_ = 6 from rfl] at hc3
  have hl0 : (Src.tapeOf [160] 8).seed.length = 32 := rfl
  have hm1 : ((Src.tapeOf [160] 8).to 3).seed.length = 32 := rfl
  have hm2 : ((Src.tapeOf [160] 8).to 6).seed.length = 32 := rfl
  have HZZ := Lib.hid (fun (s : Src) (h : s.seed.length = 32) (A : Option Addr) (c : Nat) => srcV_same Src.zero s rfl h none A 0 c)
  have HZ0 := Lib.hid zero_src
  obtain ⟨T1, hT1'⟩ : ∃ S, (Src.tapeOf [160] 8).to 3 = S := ⟨_, rfl⟩
  obtain ⟨T2, hT2'⟩ : ∃ S, (Src.tapeOf [160] 8).to 6 = S := ⟨_, rfl⟩
  rw [hT1'] at hd1 hd3 hl1 hc1 hm1
  rw [hT2'] at hd3 hc3 hm2
  obtain ⟨S1, hS1⟩ : ∃ S, Src.tapeOf [160] 8 = S := ⟨_, rfl⟩
  rw [hS1] at hTP hd1 hd2 hl1 hl2 hc2 hl0
  obtain ⟨Z, hZ⟩ : ∃ Z, srcV Src.zero none 0 = Z := ⟨_, rfl⟩
  rw [hZ] at HZ0 HZZ
  have HLS1 := Lib.hid hl0
  have HLT1 := Lib.hid hm1
  have HLT2 := Lib.hid hm2
  have HTP := Lib.hid hTP
  have HTB := Lib.hid hTB
  have HD1 := Lib.hid hd1
  have HD2 := Lib.hid hd2
  have HD3 := Lib.hid hd3
  have HL1 := Lib.hid hl1
  have HL2 := Lib.hid hl2
  have HC1 := Lib.hid hc1
  have HC2 := Lib.hid hc2
  have HC3 := Lib.hid hc3
  have HKS := Lib.hid hkst
  have G0 := Lib.hid (Fx.bel0 w)
  clear ok1 okt hTP hTB hd1 hd2 hd3 hl1 hl2 hc1 hc2 hc3 hl0 hm1 hm2 hT1' hT2' hS1 hZ hkst
  go_enter Tryz.func5, Tryz.ntmps5
  go_wp2_with (first
    | (go_at_call 12; (with_reducible refine (HTP.out _ _ (Rd.fit (rd_one _ _ _ _))).mono ?_); rintro e w1 ⟨A1, c1, rfl, hrw1, hlw1, hmw1, hbw1⟩; have lc1 := Lib.hid hlw1; have mc1 := Lib.hid hmw1; have G2 := Lib.hid (Fx.addR (Fx.alloc G0.out _) hbw1 hrw1); clear G0; clear hrw1 hbw1 hlw1 hmw1)
    | (with_reducible refine at_any ?_; refine at_dst 1 rfl ?_; refine wpList_alloc_any rfl 30 rfl Z HZ0.out ?_; intro w3 hkw3 hsw3 hbw3; have U4 := Lib.hid (Fx.under_new G2.out rfl); have G5 := Lib.hid (Fx.newB G2.out hkw3.out hbw3); clear G2; clear hkw3 hsw3 hbw3)
    | (with_reducible refine at_any ?_; refine at_store 1 rfl ?_; refine wpList_store_any rfl 30 (.tmp 1) (.tmp 23) rfl w1.heap.size rfl 30 Z (srcV S1 A1 c1) (Fx.b0 G5.out) rfl (HZZ.out S1 HLS1.out _ _) (sizedS S1 HLS1.out _ _) (srcV_ones _ _ _) ?_; intro w6 hkw6 hsw6 hbw6 how6; have G7 := Lib.hid (Fx.put1B G5.out U4.out hkw6.out hsw6.out hbw6 how6); clear G5; clear hkw6 hsw6 hbw6 how6)
    | (with_reducible refine at_any ?_; refine at_dst 26 rfl ?_; refine wpList_build2 (by kernel_rfl) (.const (.int .u64 3)) (.const (.int .u64 1)) rfl 3 1 rfl rfl ?_; intro gl9 w8 hrw8 hbw8; have G10 := Lib.hid (Fx.addR G7.out hbw8 hrw8); clear G7; clear hrw8 hbw8)
    | (go_at_call 13; (with_reducible refine (HTB.out _ _ _ (Fx.r0 G10.out)).mono ?_); rintro e w11 ⟨A12, c13, rfl, hrw11, hlw11, hmw11, hbw11⟩; have lc13 := Lib.hid hlw11; have mc13 := Lib.hid hmw11; have G14 := Lib.hid (Fx.addP G10.out hbw11 hrw11); clear G10; clear hrw11 hbw11 hlw11 hmw11)
    | (with_reducible refine at_any ?_; refine at_dst 3 rfl ?_; refine wpList_alloc_any rfl 25 rfl #[.int .u64 0, .slice none 0 0] zero_tabL ?_; intro w15 hkw15 hsw15 hbw15; have U16 := Lib.hid (Fx.under_new G14.out rfl); have G17 := Lib.hid (Fx.newB G14.out hkw15.out hbw15); clear G14; clear hkw15 hsw15 hbw15)
    | (with_reducible refine at_any ?_; refine at_store 3 rfl ?_; refine wpList_store_any rfl 25 (.tmp 3) (.tmp 28) rfl w11.heap.size rfl 25 #[.int .u64 0, .slice none 0 0] (#[.int .u64 4, .slice A12 2 c13]) (Fx.b0 G17.out) rfl (sameT2 _ _ _ _) (sizedT _ _) (onesT _ _ _ _) ?_; intro w18 hkw18 hsw18 hbw18 how18; have G19 := Lib.hid (Fx.put1B G17.out U16.out hkw18.out hsw18.out hbw18 how18); clear G17; clear hkw18 hsw18 hbw18 how18)
    | (with_reducible refine at_any ?_; refine at_dst 31 rfl ?_; refine wpList_load_tab (by kernel_rfl) (.tmp 3) rfl w11.heap.size rfl 25 (.int .u64 4) (.slice A12 2 c13) (Fx.b0 G19.out) ?_)
    | (with_reducible refine at_any ?_; refine at_dst 32 rfl ?_; refine wpList_load_blk rfl 30 (.tmp 1) rfl w1.heap.size rfl 30 (srcV S1 A1 c1) (Fx.b3 G19.out) _ Tryz.underlying30 rfl (sizedS S1 HLS1.out _ _) ?_)
    | (go_at_call 6; (with_reducible refine (HD1.out _ _ lc13.out mc13.out _ _ lc1.out mc1.out _ (Fx.k1 G19.out) (Fx.r4 G19.out) (HKS.out.below (Fx.e5 G19.out))).mono ?_); rintro e w20 ⟨A21, c22, rfl, hrw20, hlw20, hmw20, _, hbw20⟩; have lc22 := Lib.hid hlw20; have mc22 := Lib.hid hmw20; have G23 := Lib.hid (Fx.addR G19.out hbw20 hrw20); clear G19; clear hrw20 hbw20 hlw20 hmw20)
    | (with_reducible refine at_any ?_; refine at_dst 6 rfl ?_; refine wpList_alloc_any rfl 30 rfl Z HZ0.out ?_; intro w24 hkw24 hsw24 hbw24; have U25 := Lib.hid (Fx.under_new G23.out rfl); have G26 := Lib.hid (Fx.newB G23.out hkw24.out hbw24); clear G23; clear hkw24 hsw24 hbw24)
    | (with_reducible refine at_any ?_; refine at_store 6 rfl ?_; refine wpList_store_any rfl 30 (.tmp 6) (.tmp 35) rfl w20.heap.size rfl 30 Z (srcV T1 A21 c22) (Fx.b0 G26.out) rfl (HZZ.out T1 HLT1.out _ _) (sizedS T1 HLT1.out _ _) (srcV_ones _ _ _) ?_; intro w27 hkw27 hsw27 hbw27 how27; have G28 := Lib.hid (Fx.put1B G26.out U25.out hkw27.out hsw27.out hbw27 how27); clear G26; clear hkw27 hsw27 hbw27 how27)
    | (with_reducible refine at_any ?_; refine at_dst 38 rfl ?_; refine wpList_load_blk rfl 30 (.tmp 1) rfl w1.heap.size rfl 30 (srcV S1 A1 c1) (Fx.b5 G28.out) _ Tryz.underlying30 rfl (sizedS S1 HLS1.out _ _) ?_)
    | (with_reducible refine at_any ?_; refine at_dst 39 rfl ?_; refine wpList_build2 (by kernel_rfl) (.const (.int .u64 3)) (.const (.int .u64 1)) rfl 3 1 rfl rfl ?_; intro gl30 w29 hrw29 hbw29; have G31 := Lib.hid (Fx.addR G28.out hbw29 hrw29); clear G28; clear hrw29 hbw29)
    | (go_at_call 10; (with_reducible refine (HL1.out _ _ _ _ lc1.out mc1.out _ (Fx.r0 G31.out) (Fx.r7 G31.out) (HKS.out.below (Fx.e8 G31.out))).mono ?_); rintro e w32 ⟨A33, c34, rfl, hrw32, hlw32, hmw32, _, hbw32⟩; have lc34 := Lib.hid hlw32; have mc34 := Lib.hid hmw32; have G35 := Lib.hid (Fx.addR G31.out hbw32 hrw32); clear G31; clear hrw32 hbw32 hlw32 hmw32)
    | (with_reducible refine at_any ?_; refine at_dst 9 rfl ?_; refine wpList_alloc_any rfl 30 rfl Z HZ0.out ?_; intro w36 hkw36 hsw36 hbw36; have U37 := Lib.hid (Fx.under_new G35.out rfl); have G38 := Lib.hid (Fx.newB G35.out hkw36.out hbw36); clear G35; clear hkw36 hsw36 hbw36)
    | (with_reducible refine at_any ?_; refine at_store 9 rfl ?_; refine wpList_store_any rfl 30 (.tmp 9) (.tmp 42) rfl w32.heap.size rfl 30 Z (srcV T1 A33 c34) (Fx.b0 G38.out) rfl (HZZ.out T1 HLT1.out _ _) (sizedS T1 HLT1.out _ _) (srcV_ones _ _ _) ?_; intro w39 hkw39 hsw39 hbw39 how39; have G40 := Lib.hid (Fx.put1B G38.out U37.out hkw39.out hsw39.out hbw39 how39); clear G38; clear hkw39 hsw39 hbw39 how39)
    | (with_reducible refine at_any ?_; refine at_dst 45 rfl ?_; refine wpList_val rfl (.agg #[.int .u64 0, .slice none 0 0]) (build_tab0 _ rfl) ?_)
    | (with_reducible refine at_any ?_; refine at_dst 46 rfl ?_; refine wpList_load_blk rfl 30 (.tmp 1) rfl w1.heap.size rfl 30 (srcV S1 A1 c1) (Fx.b8 G40.out) _ Tryz.underlying30 rfl (sizedS S1 HLS1.out _ _) ?_)
    | (go_at_call 6; (with_reducible refine (HD2.out _ _ lc1.out mc1.out _ (Fx.r9 G40.out) (HKS.out.below (Fx.e10 G40.out))).mono ?_); rintro e w41 ⟨A42, c43, rfl, hrw41, hlw41, hmw41, _, hbw41⟩; have lc43 := Lib.hid hlw41; have mc43 := Lib.hid hmw41; have G44 := Lib.hid (Fx.addR G40.out hbw41 hrw41); clear G40; clear hrw41 hbw41 hlw41 hmw41)
    | (with_reducible refine at_any ?_; refine at_dst 12 rfl ?_; refine wpList_alloc_any rfl 30 rfl Z HZ0.out ?_; intro w45 hkw45 hsw45 hbw45; have U46 := Lib.hid (Fx.under_new G44.out rfl); have G47 := Lib.hid (Fx.newB G44.out hkw45.out hbw45); clear G44; clear hkw45 hsw45 hbw45)
    | (with_reducible refine at_any ?_; refine at_store 12 rfl ?_; refine wpList_store_any rfl 30 (.tmp 12) (.tmp 49) rfl w41.heap.size rfl 30 Z (srcV S1 A42 c43) (Fx.b0 G47.out) rfl (HZZ.out S1 HLS1.out _ _) (sizedS S1 HLS1.out _ _) (srcV_ones _ _ _) ?_; intro w48 hkw48 hsw48 hbw48 how48; have G49 := Lib.hid (Fx.put1B G47.out U46.out hkw48.out hsw48.out hbw48 how48); clear G47; clear hkw48 hsw48 hbw48 how48)
    | (with_reducible refine at_any ?_; refine at_dst 52 rfl ?_; refine wpList_load_blk rfl 30 (.tmp 1) rfl w1.heap.size rfl 30 (srcV S1 A1 c1) (Fx.b10 G49.out) _ Tryz.underlying30 rfl (sizedS S1 HLS1.out _ _) ?_)
    | (go_at_call 10; (with_reducible refine (HL2.out _ _ lc1.out mc1.out _ (Fx.r11 G49.out) (HKS.out.below (Fx.e12 G49.out))).mono ?_); rintro e w50 ⟨A51, c52, rfl, hrw50, hlw50, hmw50, _, hbw50⟩; have lc52 := Lib.hid hlw50; have mc52 := Lib.hid hmw50; have G53 := Lib.hid (Fx.addR G49.out hbw50 hrw50); clear G49; clear hrw50 hbw50 hlw50 hmw50)
    | (with_reducible refine at_any ?_; refine at_dst 15 rfl ?_; refine wpList_alloc_any rfl 30 rfl Z HZ0.out ?_; intro w54 hkw54 hsw54 hbw54; have U55 := Lib.hid (Fx.under_new G53.out rfl); have G56 := Lib.hid (Fx.newB G53.out hkw54.out hbw54); clear G53; clear hkw54 hsw54 hbw54)
    | (with_reducible refine at_any ?_; refine at_store 15 rfl ?_; refine wpList_store_any rfl 30 (.tmp 15) (.tmp 55) rfl w50.heap.size rfl 30 Z (srcV S1 A51 c52) (Fx.b0 G56.out) rfl (HZZ.out S1 HLS1.out _ _) (sizedS S1 HLS1.out _ _) (srcV_ones _ _ _) ?_; intro w57 hkw57 hsw57 hbw57 how57; have G58 := Lib.hid (Fx.put1B G56.out U55.out hkw57.out hsw57.out hbw57 how57); clear G56; clear hkw57 hsw57 hbw57 how57)
    | (with_reducible refine at_any ?_; refine at_dst 58 rfl ?_; refine wpList_load_tab (by kernel_rfl) (.tmp 3) rfl w11.heap.size rfl 25 (.int .u64 4) (.slice A12 2 c13) (Fx.b9 G58.out) ?_)
    | (with_reducible refine at_any ?_; refine at_dst 59 rfl ?_; refine wpList_load_blk rfl 30 (.tmp 6) rfl w20.heap.size rfl 30 (srcV T1 A21 c22) (Fx.b7 G58.out) _ Tryz.underlying30 rfl (sizedS T1 HLT1.out _ _) ?_)
    | (go_at_call 6; (with_reducible refine (HD3.out _ _ lc13.out mc13.out _ _ lc22.out mc22.out _ (Fx.k10 G58.out) (Fx.r8 G58.out) (HKS.out.below (Fx.e14 G58.out))).mono ?_); rintro e w59 ⟨A60, c61, rfl, hrw59, hlw59, hmw59, _, hbw59⟩; have lc61 := Lib.hid hlw59; have mc61 := Lib.hid hmw59; have G62 := Lib.hid (Fx.addR G58.out hbw59 hrw59); clear G58; clear hrw59 hbw59 hlw59 hmw59)
    | (with_reducible refine at_any ?_; refine at_dst 18 rfl ?_; refine wpList_alloc_any rfl 30 rfl Z HZ0.out ?_; intro w63 hkw63 hsw63 hbw63; have U64 := Lib.hid (Fx.under_new G62.out rfl); have G65 := Lib.hid (Fx.newB G62.out hkw63.out hbw63); clear G62; clear hkw63 hsw63 hbw63)
    | (with_reducible refine at_any ?_; refine at_store 18 rfl ?_; refine wpList_store_any rfl 30 (.tmp 18) (.tmp 62) rfl w59.heap.size rfl 30 Z (srcV T2 A60 c61) (Fx.b0 G65.out) rfl (HZZ.out T2 HLT2.out _ _) (sizedS T2 HLT2.out _ _) (srcV_ones _ _ _) ?_; intro w66 hkw66 hsw66 hbw66 how66; have G67 := Lib.hid (Fx.put1B G65.out U64.out hkw66.out hsw66.out hbw66 how66); clear G65; clear hkw66 hsw66 hbw66 how66; have z6 := HC1.out _ _ A21 c22 (Fx.b9 G67.out); have z12 := HC2.out _ _ A42 c43 (Fx.b4 G67.out); have z18 := HC3.out _ _ A60 c61 (Fx.b0 G67.out)))
  go_ret
  exact ⟨rfl, (Fx.e16 G67.out)⟩
end Go.Proofs.YtomkidgmpbjgeaaGreatDoor
/-
  A law's argument that is a slice of integers, opened.
  Conditions: the element's type is an integer type of one cell.
-/
set_option maxRecDepth 100000
namespace Go.Proofs.YtomkidgmpbjgeaaGreatDoor
open Go.ChangeShapes Go.WideShapes Go.ChangeAt Go.RowKit
theorem open_rd {H : Type} {enc : TypeId × Value → H} {P : Program} {w : World} {base : Nat} {spare : Nat → Bool} {held : Bool} {t e : TypeId} {k : IntKind} {a : Option Addr} {len cap : Nat} {d : DataW H} {p : List MemPlace}
    (ht : P.underlying t = some (.slice e)) (he : P.underlying e = some (.int k)) (hc : P.cellsOf e = 1) (h : DataW.Trod enc P w base spare held t (.slice a len cap) d p) :
    ∃ zs : List Int, Rd k w w.heap.size a len zs ∧ len ≤ cap ∧ cap ≤ maxLen ∧ ∀ z ∈ zs, (Lit.int k z).wf = true := by
  obtain ⟨fuel, hf⟩ := h
  rcases open_ints ht he hc hf with ⟨hcs, _⟩ | ⟨x, l, c, zs, hcs, _, hl, hm, hz, _, hcell, hwz⟩
  · simp [Value.cells] at hcs
    obtain ⟨rfl, rfl, rfl⟩ := hcs
    exact ⟨[], Rd.none_, Nat.le_refl _, by simp [maxLen], fun _ h => by cases h⟩
  · simp [Value.cells] at hcs
    obtain ⟨rfl, rfl, rfl⟩ := hcs
    refine ⟨zs.take len, ⟨?_, fun hn => ?_⟩, hl, hm, fun z hz' => hwz z (List.mem_of_mem_take hz')⟩
    · have : len ≤ zs.length := by rw [hz]; split <;> omega
      rw [List.length_take]; omega
    · have hlen : len ≤ zs.length := by rw [hz]; split <;> omega
      obtain ⟨b, off, spot⟩ := x
      have h0 := hcell 0 (by omega)
      have hspot : spot = none := by simpa [Addr.add] using World.cell?_spot h0
      subst hspot
      have h1 : w.cell? ⟨b, off, none⟩ = some (.int k (zs.getD 0 0)) := by simpa [Addr.add] using h0
      refine ⟨b, off, rfl, World.block_lt_of_cell? w _ h1, fun j hj => ?_⟩
      have h2 := hcell j (by omega)
      rw [add_flat] at h2
      rw [h2]
      congr 2
      simp only [List.getD_eq_getElem?_getD, List.getElem?_take]
      rw [if_pos hj]
end Go.Proofs.YtomkidgmpbjgeaaGreatDoor
/-
  A law's arguments, opened: a slice of slices of bytes; the cells of an array.
  Conditions: those that each theorem names.
-/
set_option maxRecDepth 100000
set_option linter.unusedVariables false
set_option linter.unusedSimpArgs false
namespace Go.Proofs.YtomkidgmpbjgeaaGreatDoor
open Go.ChangeShapes Go.WideShapes Go.ChangeAt Go.RowKit
theorem rd_of_cells {k : IntKind} {w : World} {A : Option Addr} {L C : Nat} {Z : List Int} (hl : L ≤ C) (hz : Z.length = C) (h0 : A = none → C = 0) (hc : ∀ a', A = some a' → ∀ c, c < C → w.cell? (a'.add c) = some (.int k (Z.getD c 0))) : Rd k w w.heap.size A L (Z.take L) := by
  refine ⟨by rw [List.length_take]; omega, fun hn => ?_⟩
  rcases A with _ | ⟨b, off, spot⟩
  · have := h0 rfl; omega
  · have h1 := hc _ rfl 0 (by omega)
    have hspot : spot = none := by simpa [Addr.add] using World.cell?_spot h1
    subst hspot
    have h2 : w.cell? ⟨b, off, none⟩ = some (.int k (Z.getD 0 0)) := by simpa [Addr.add] using h1
    refine ⟨b, off, rfl, World.block_lt_of_cell? w _ h2, fun j hj => ?_⟩
    have h3 := hc _ rfl j (by omega)
    rw [add_flat] at h3
    rw [h3]
    congr 2
    simp only [List.getD_eq_getElem?_getD, List.getElem?_take]
    rw [if_pos hj]
theorem open_rows {H : Type} {enc : TypeId × Value → H} {P : Program} {w : World} {base : Nat} {held : Bool} {t e q : TypeId} {a : Option Addr} {len cap : Nat} {d : DataW H} {p : List MemPlace}
    (ht : P.underlying t = some (.slice e)) (he : P.underlying e = some (.slice q)) (hq : P.underlying q = some (.int .u8)) (ce : P.cellsOf e = 1) (cq : P.cellsOf q = 1) (h : DataW.Trod enc P w base (fun _ => true) held t (.slice a len cap) d p) :
    ∃ rs : List Row, RdRows w w.heap.size a len rs ∧ len ≤ cap ∧ cap ≤ maxLen ∧ ∀ r ∈ rs, r.n ≤ maxLen ∧ r.zs.length = r.n ∧ ∀ z ∈ r.zs, (Lit.int .u8 z).wf = true := by
  obtain ⟨fuel, hf⟩ := h
  rcases Go.Deep.open_int_rows ht he hq ce cq hf with ⟨hcs, _⟩ | ⟨x, l, c, A, L, C, Z, hcs, _, hl, hm, _, hr⟩
  · simp [Value.cells] at hcs
    obtain ⟨rfl, rfl, rfl⟩ := hcs
    exact ⟨[], ⟨rfl, fun h => absurd h (by omega), fun _ h => by cases h⟩, Nat.le_refl _, by simp [maxLen], fun _ h => by cases h⟩
  · simp [Value.cells] at hcs
    obtain ⟨rfl, rfl, rfl⟩ := hcs
    have hrd : ∀ r, r < len → Rd .u8 w w.heap.size (A r) (L r) ((Z r).take (L r)) := fun r h => by
      obtain ⟨_, h1, _, h3, _, h5, h6⟩ := hr r (by omega)
      exact rd_of_cells h1 h3 h5 (fun a' e' => (h6 a' e').2)
    refine ⟨(List.range len).map fun r => ⟨A r, L r, C r, (Z r).take (L r)⟩, ⟨by simp, fun hn => ?_, fun r hr' => ?_⟩, hl, hm, fun r hr' => ?_⟩
    · obtain ⟨b, off, spot⟩ := x
      have h0 := (hr 0 (by omega)).1
      have hspot : spot = none := by simpa [Addr.add] using World.cell?_spot h0
      subst hspot
      have h1 : w.cell? ⟨b, off, none⟩ = some (.slice (A 0) (L 0) (C 0)) := by simpa [Addr.add] using h0
      refine ⟨b, off, rfl, World.block_lt_of_cell? w _ h1, fun j r hj => ?_⟩
      rw [List.getElem?_map] at hj
      have hjl : j < len := by
        rcases Nat.lt_or_ge j len with h2 | h2
        · exact h2
        · rw [List.getElem?_eq_none (by simpa using h2)] at hj; cases hj
      rw [List.getElem?_range hjl] at hj
      injection hj with hj
      subst hj
      have h2 := (hr j (by omega)).1
      rw [add_flat] at h2
      exact h2
    · obtain ⟨i, hi, rfl⟩ := List.mem_map.1 hr'
      have hi' := List.mem_range.1 hi
      exact ⟨hrd i hi', (hr i (by omega)).2.1⟩
    · obtain ⟨i, hi, rfl⟩ := List.mem_map.1 hr'
      have hi' := List.mem_range.1 hi
      obtain ⟨_, h1, h2, h3, h4, _⟩ := hr i (by omega)
      exact ⟨by dsimp only; omega, (hrd i hi').1, fun z hz => h4 z (List.mem_of_mem_take hz)⟩
section
variable {H : Type} {enc : TypeId × Value → H} {P : Program} {w : World} {base : Nat} {spare : Nat → Bool} {held : Bool}
/-- The cells of an array of integers. -/
theorem trod_ints {fuel n : Nat} {t e : TypeId} {q : IntKind} {cs : List Value} {x : DataW H × List MemPlace} (ht : P.underlying t = some (.array n e)) (he : P.underlying e = some (.int q)) (hc : P.cellsOf e = 1) (hC : P.cellsOf t = n)
    (hf : DataW.trod enc P w base spare held fuel t cs = some x) : ∃ zs : List Int, zs.length = n ∧ cs = zs.map (Value.int q) ∧ ∀ z ∈ zs, (Lit.int q z).wf = true := by
  obtain ⟨xs, m, _, hx, hl, hxl, hat⟩ := DataW.trod_array ht hf
  rw [hC] at hl
  rw [hc] at hat
  have hz : ∀ i (hi : i < n), ∃ z : Int, cs[i]? = some (.int q z) ∧ (Lit.int q z).wf = true := by
    intro i hi
    have h1 := hat i hi
    have e1 : List.take 1 (List.drop (i * 1) cs) = [cs[i]'(by omega)] := by
      rw [Nat.mul_one, List.drop_eq_getElem_cons (show i < cs.length by omega), List.take_succ_cons, List.take_zero]
    rw [e1] at h1
    have hxi : xs[i]? = some (xs[i]'(by omega)) := List.getElem?_eq_getElem (by omega)
    rw [hxi] at h1
    obtain ⟨a, ea, _, wa⟩ := DataW.trod_int he h1
    refine ⟨a, ?_, wa⟩
    rw [List.getElem?_eq_getElem (by omega)]
    simpa using ea
  obtain ⟨zs, hzl, hzs⟩ := list_of n hz
  refine ⟨zs, hzl, ?_, ?_⟩
  · apply List.ext_getElem?
    intro i
    by_cases hi : i < n
    · obtain ⟨z, e1, e2, _⟩ := hzs i hi
      rw [e2, List.getElem?_map, e1]
      rfl
    · rw [List.getElem?_eq_none (by omega), List.getElem?_eq_none (by simp; omega)]
  · intro z hz'
    obtain ⟨i, hi, e⟩ := List.mem_iff_getElem.1 hz'
    obtain ⟨z', e1, _, e4⟩ := hzs i (by omega)
    rw [List.getElem?_eq_getElem hi, e] at e1
    injection e1 with e1
    rw [e1]
    exact e4
end
end Go.Proofs.YtomkidgmpbjgeaaGreatDoor
/-
  A law's argument that is a source, opened.
  Conditions: those that the theorem names.
-/
set_option maxRecDepth 100000
set_option linter.unusedVariables false
set_option linter.unusedSimpArgs false
namespace Go.Proofs.YtomkidgmpbjgeaaGreatDoor
open Go.ChangeShapes Go.WideShapes Go.ChangeAt Go.RowKit
theorem Src.ok_mk {kd bt dm at_ : Int} {zs sd : List Int} (k0 : -9223372036854775808 ≤ kd) (k1 : kd < 9223372036854775808) (ti : ∀ z ∈ zs, 0 ≤ z ∧ z < 256) (b0 : 0 ≤ bt) (b1 : bt < 18446744073709551616) (sl : sd.length = 32) (si : ∀ z ∈ sd, 0 ≤ z ∧ z < 256) (d0 : 0 ≤ dm) (d1 : dm < 18446744073709551616) (a0 : 0 ≤ at_) (a1 : at_ < 18446744073709551616) :
    (⟨kd, zs, bt, sd, dm, at_⟩ : Src).tape.length ≤ 140737488355328 → (⟨kd, zs, bt, sd, dm, at_⟩ : Src).Ok := fun tl => ⟨k0, k1, tl, ti, b0, b1, sl, si, d0, d1, a0, a1⟩
set_option maxHeartbeats 1000000 in
theorem open_src {H : Type} {enc : TypeId × Value → H} {w : World} {base b0 : Nat} {spare : Nat → Bool} {held : Bool} {r : Reach} {v : Value} {d : DataW H} {p : List MemPlace}
    (hv : Value.okWide Tryz.prog w r b0 30 v) (h : DataW.Trod enc Tryz.prog w base spare held 30 v d p) :
    ∃ (s : Src) (A : Option Addr) (c : Nat), v = .agg (srcV s A c) ∧ (s.tape.length ≤ 140737488355328 → s.Ok) ∧ Rd .u8 w w.heap.size A s.tape.length s.tape ∧ s.tape.length ≤ c ∧ c ≤ maxLen ∧ s.seed.length = 32 := by
  have hv' : ∃ cs : Array Value, v = .agg cs := by
    simp only [Value.okWide, Tryz.underlying30] at hv
    obtain ⟨cs, h1, _⟩ := hv
    exact ⟨cs, h1⟩
  obtain ⟨cs, rfl⟩ := hv'
  obtain ⟨fuel, hf⟩ := h
  obtain ⟨xs, m, _, _, hl, hxl, hat⟩ := DataW.trod_struct Tryz.underlying30 hf
  have hC : Tryz.prog.cellsOf 30 = 37 := by kernel_rfl
  rw [hC] at hl
  obtain ⟨ls, hls⟩ : ∃ ls, (Value.cells (.agg cs)).toList = ls := ⟨_, rfl⟩
  have hcs : cs = ls.toArray := by rw [← hls]; rfl
  rw [hls] at hl hat
  have ci : Tryz.prog.cellsOf 3 = 1 := by kernel_rfl
  have cl : Tryz.prog.cellsOf 26 = 1 := by kernel_rfl
  have cu : Tryz.prog.cellsOf 22 = 1 := by kernel_rfl
  have ch : Tryz.prog.cellsOf 28 = 32 := by kernel_rfl
  have g0 := hat 0 _ rfl
  have g1 := hat 1 _ rfl
  have g2 := hat 2 _ rfl
  have g3 := hat 3 _ rfl
  have g4 := hat 4 _ rfl
  have g5 := hat 5 _ rfl
  change DataW.trod enc Tryz.prog w base spare held m 3 (List.take (Tryz.prog.cellsOf 3) (List.drop 0 ls)) = xs[0]? at g0
  change DataW.trod enc Tryz.prog w base spare held m 26 (List.take (Tryz.prog.cellsOf 26) (List.drop 1 ls)) = xs[1]? at g1
  change DataW.trod enc Tryz.prog w base spare held m 22 (List.take (Tryz.prog.cellsOf 22) (List.drop 2 ls)) = xs[2]? at g2
  change DataW.trod enc Tryz.prog w base spare held m 28 (List.take (Tryz.prog.cellsOf 28) (List.drop 3 ls)) = xs[3]? at g3
  change DataW.trod enc Tryz.prog w base spare held m 22 (List.take (Tryz.prog.cellsOf 22) (List.drop 35 ls)) = xs[4]? at g4
  change DataW.trod enc Tryz.prog w base spare held m 22 (List.take (Tryz.prog.cellsOf 22) (List.drop 36 ls)) = xs[5]? at g5
  have hx6 : xs.length = 6 := hxl
  rw [ci, List.drop_zero, List.getElem?_eq_getElem (show 0 < xs.length by omega)] at g0
  rw [cl, List.getElem?_eq_getElem (show 1 < xs.length by omega)] at g1
  rw [cu, List.getElem?_eq_getElem (show 2 < xs.length by omega)] at g2
  rw [ch, List.getElem?_eq_getElem (show 3 < xs.length by omega)] at g3
  rw [cu, List.getElem?_eq_getElem (show 4 < xs.length by omega)] at g4
  rw [cu, List.getElem?_eq_getElem (show 5 < xs.length by omega)] at g5
  have one : ∀ i, i < 37 → List.take 1 (List.drop i ls) = [ls.getD i undef] := fun i hi => by
    rw [List.drop_eq_getElem_cons (show i < ls.length by omega), List.take_succ_cons, List.take_zero, List.getD_eq_getElem?_getD, List.getElem?_eq_getElem (show i < ls.length by omega), Option.getD_some]
  have g0' : DataW.trod enc Tryz.prog w base spare held m 3 [ls.getD 0 undef] = some (xs[0]'(by omega)) := by rw [← one 0 (by omega), List.drop_zero]; exact g0
  rw [one 1 (by omega)] at g1
  rw [one 2 (by omega)] at g2
  rw [one 35 (by omega)] at g4
  rw [one 36 (by omega)] at g5
  obtain ⟨kd, hk, _, wk⟩ := DataW.trod_int Tryz.underlying3 g0'
  obtain ⟨bt, hb, _, wb⟩ := DataW.trod_int Tryz.underlying22 g2
  obtain ⟨dm, hd, _, wd⟩ := DataW.trod_int Tryz.underlying22 g4
  obtain ⟨at_, ha, _, wa⟩ := DataW.trod_int Tryz.underlying22 g5
  injection hk with hk _
  injection hb with hb _
  injection hd with hd _
  injection ha with ha _
  obtain ⟨sd, hsl, hs, hsw⟩ := trod_ints Tryz.underlying28 Tryz.underlying5 (by kernel_rfl) (by kernel_rfl) g3
  have hsplit : ls = [ls.getD 0 undef, ls.getD 1 undef, ls.getD 2 undef] ++ (List.take 32 (List.drop 3 ls) ++ [ls.getD 35 undef, ls.getD 36 undef]) := by
    have e1 : ls = ls.take 3 ++ ls.drop 3 := (List.take_append_drop 3 ls).symm
    have e2 : ls.drop 3 = (ls.drop 3).take 32 ++ (ls.drop 3).drop 32 := (List.take_append_drop 32 _).symm
    have e3 : ls.take 3 = [ls.getD 0 undef, ls.getD 1 undef, ls.getD 2 undef] := by
      match ls, hl with
      | a :: b :: c :: l, _ => rfl
    have e4 : (ls.drop 3).drop 32 = [ls.getD 35 undef, ls.getD 36 undef] := by
      rw [List.drop_drop, List.drop_eq_getElem_cons (show 3 + 32 < ls.length by omega), List.drop_eq_getElem_cons (show 3 + 32 + 1 < ls.length by omega), List.drop_eq_nil_of_le (by omega)]
      simp [List.getD_eq_getElem?_getD, List.getElem?_eq_getElem (show 35 < ls.length by omega), List.getElem?_eq_getElem (show 36 < ls.length by omega)]
    conv => lhs; rw [e1, e2, e3, e4]
  have bk := bounds_i64 wk
  have bb := bounds_u64 wb
  have bd := bounds_u64 wd
  have ba := bounds_u64 wa
  rcases open_ints Tryz.underlying26 Tryz.underlying5 (by kernel_rfl) g1 with ⟨hcs1, _⟩ | ⟨x, l, c, zs, hcs1, _, hl1, hm1, hz1, _, hcell, hwz⟩
  · injection hcs1 with hcs1 _
    refine ⟨⟨kd, [], bt, sd, dm, at_⟩, none, 0, ?_, Src.ok_mk (by omega) (by omega) (fun _ h => (by cases h)) (by omega) (by omega) hsl (u8b hsw) (by omega) (by omega) (by omega) (by omega), Rd.none_, Nat.le_refl _, by simp [maxLen], hsl⟩
    rw [hcs, hsplit, hs, hk, hcs1, hb, hd, ha]
    rfl
  · injection hcs1 with hcs1 _
    have hlz : l ≤ zs.length := by rw [hz1]; split <;> omega
    have htl : (zs.take l).length = l := by rw [List.length_take]; omega
    refine ⟨⟨kd, zs.take l, bt, sd, dm, at_⟩, some x, c, ?_, Src.ok_mk (by omega) (by omega) (fun z hz => u8b hwz z (List.mem_of_mem_take hz)) (by omega) (by omega) hsl (u8b hsw) (by omega) (by omega) (by omega) (by omega), ?_, by rw [htl]; exact hl1, hm1, hsl⟩
    · rw [hcs, hsplit, hs, hk, hcs1, hb, hd, ha]
      unfold srcV
      rw [htl]
    · rw [htl]
      exact rd_of_cells hlz rfl (fun h => by cases h) (fun a' e' c' hc' => by injection e' with e'; subst e'; exact hcell c' hc')
end Go.Proofs.YtomkidgmpbjgeaaGreatDoor
/-
  A law's argument that is a table (a struct of a number and a slice of pairs), opened.
  Conditions: those that each theorem names.
-/
set_option maxRecDepth 100000
set_option linter.unusedVariables false
set_option linter.unusedSimpArgs false
namespace Go.Proofs.YtomkidgmpbjgeaaGreatDoor
open Go.ChangeShapes Go.WideShapes Go.ChangeAt Go.RowKit
theorem open_pairsC {H : Type} {enc : TypeId × Value → H} {P : Program} {w : World} {base fuel : Nat} {spare : Nat → Bool} {held : Bool} {t e : TypeId} {f0 f1 : Field} {k0 k1 : IntKind} {cs : List Value} {x : DataW H × List MemPlace}
    (ht : P.underlying t = some (.slice e)) (he : P.underlying e = some (.struct #[f0, f1])) (ce : P.cellsOf e = 2) (o0 : f0.offset = 0) (o1 : f1.offset = 1) (c0 : P.cellsOf f0.type = 1) (c1 : P.cellsOf f1.type = 1)
    (hk0 : P.underlying f0.type = some (.int k0)) (hk1 : P.underlying f1.type = some (.int k1)) (hf : DataW.trod enc P w base spare held fuel t cs = some x) :
    ∃ (a : Option Addr) (len cap : Nat) (ts : List (Int × Int)), cs = [.slice a len cap] ∧ RdPr k0 k1 w w.heap.size a len ts ∧ len ≤ cap ∧ cap ≤ maxLen ∧ ∀ q ∈ ts, (Lit.int k0 q.1).wf = true ∧ (Lit.int k1 q.2).wf = true := by
  rcases Go.Deep.open_slice_pairs ht he ce o0 o1 c0 c1 hf with ⟨hcs, _⟩ | ⟨x, len, cap, m, n, V0, V1, D0, D1, P0, P1, hcs, _, hl, hm, hmm, _, hr⟩
  · exact ⟨none, 0, 0, [], hcs, ⟨rfl, fun h => absurd h (by omega)⟩, Nat.le_refl _, by simp [maxLen], fun _ h => by cases h⟩
  · have hlm : len ≤ m := by rw [hmm]; split <;> omega
    have each : ∀ i, i < m → ∃ q : Int × Int, V0 i = .int k0 q.1 ∧ V1 i = .int k1 q.2 ∧ (Lit.int k0 q.1).wf = true ∧ (Lit.int k1 q.2).wf = true := fun i hi => by
      obtain ⟨_, _, g0, g1⟩ := hr i hi
      obtain ⟨z0, e0, _, w0⟩ := DataW.trod_int hk0 g0
      obtain ⟨z1, e1, _, w1⟩ := DataW.trod_int hk1 g1
      injection e0 with e0 _
      injection e1 with e1 _
      exact ⟨(z0, z1), e0, e1, w0, w1⟩
    obtain ⟨q, hq⟩ := Go.Deep.choose_lt each
    refine ⟨some x, len, cap, (List.range len).map q, hcs, ⟨by simp, fun hn => ?_⟩, hl, hm, fun y hy => ?_⟩
    · obtain ⟨b, off, spot⟩ := x
      have h0 := (hr 0 (by omega)).1
      have hspot : spot = none := by simpa [Addr.add] using World.cell?_spot h0
      subst hspot
      have h1 : w.cell? ⟨b, off, none⟩ = some (V0 0) := by simpa [Addr.add] using h0
      refine ⟨b, off, rfl, World.block_lt_of_cell? w _ h1, fun j hj => ?_⟩
      have e : ((List.range len).map q).getD j (0, 0) = q j := by simp [hj]
      obtain ⟨g0, g1, _, _⟩ := hr j (by omega)
      rw [add_flat] at g0 g1
      rw [e, ← (hq j (by omega)).1, ← (hq j (by omega)).2.1]
      exact ⟨g0, g1⟩
    · obtain ⟨i, hi, rfl⟩ := List.mem_map.1 hy
      have hi' := List.mem_range.1 hi
      exact ⟨(hq i (by omega)).2.2.1, (hq i (by omega)).2.2.2⟩
theorem open_tab {H : Type} {enc : TypeId × Value → H} {w : World} {base b0 : Nat} {spare : Nat → Bool} {held : Bool} {r : Reach} {v : Value} {d : DataW H} {p : List MemPlace}
    (hv : Value.okWide Tryz.prog w r b0 25 v) (h : DataW.Trod enc Tryz.prog w base spare held 25 v d p) :
    ∃ (T : Int) (A : Option Addr) (n c : Nat) (ts : List (Int × Int)), v = .agg #[.int .u64 T, .slice A n c] ∧ RdPr .u64 .i64 w w.heap.size A n ts ∧ n ≤ c ∧ c ≤ maxLen ∧ (Lit.int .u64 T).wf = true ∧ ∀ q ∈ ts, (Lit.int .u64 q.1).wf = true ∧ (Lit.int .i64 q.2).wf = true := by
  have hv' : ∃ cs : Array Value, v = .agg cs := by
    simp only [Value.okWide, Tryz.underlying25] at hv
    obtain ⟨cs, h1, _⟩ := hv
    exact ⟨cs, h1⟩
  obtain ⟨cs, rfl⟩ := hv'
  obtain ⟨fuel, hf⟩ := h
  obtain ⟨y0, y1, m, _, hl, g0, g1⟩ := trod_struct2 Tryz.underlying25 hf
  have hC : Tryz.prog.cellsOf 25 = 2 := by kernel_rfl
  rw [hC] at hl
  obtain ⟨ls, hls⟩ : ∃ ls, (Value.cells (.agg cs)).toList = ls := ⟨_, rfl⟩
  have hcs : cs = ls.toArray := by rw [← hls]; rfl
  rw [hls] at hl g0 g1
  have cl : Tryz.prog.cellsOf 23 = 1 := by kernel_rfl
  have cu : Tryz.prog.cellsOf 22 = 1 := by kernel_rfl
  match ls, hl with
  | [u, s], _ =>
    change DataW.trod enc Tryz.prog w base spare held m 22 (List.take (Tryz.prog.cellsOf 22) [u, s]) = some y0 at g0
    change DataW.trod enc Tryz.prog w base spare held m 23 (List.take (Tryz.prog.cellsOf 23) [s]) = some y1 at g1
    rw [cu] at g0
    rw [cl] at g1
    obtain ⟨T, hT, _, wT⟩ := DataW.trod_int Tryz.underlying22 g0
    obtain ⟨A, n, c, ts, hS, hr, hnc, hcm, hw⟩ := open_pairsC Tryz.underlying23 Tryz.underlying58 (by kernel_rfl) (by kernel_rfl) (by kernel_rfl) (by kernel_rfl) (by kernel_rfl) Tryz.underlying22 Tryz.underlying3 g1
    injection hT with hT _
    injection hS with hS _
    exact ⟨T, A, n, c, ts, by rw [hcs, hT, hS], hr, hnc, hcm, wT, hw⟩
end Go.Proofs.YtomkidgmpbjgeaaGreatDoor
/-
  What the reference's Need of stage 8 returns.
  Conditions: the number lies in its type's range.
-/
set_option maxRecDepth 100000
set_option linter.unusedVariables false
set_option linter.unusedSimpArgs false
namespace Go.Proofs.YtomkidgmpbjgeaaGreatDoor
open Go.ChangeShapes Go.WideShapes Go.ChangeAt Go.RowKit
theorem r8need_c (n : Int) (n0 : 0 ≤ n) (n1 : n < 18446744073709551616) (w : World) : Calls Tryz.prog 32 #[.int .u64 n] w fun e w' => e = .returned (.int .i64 (needN n : Nat)) ∧ w = w' := by
  by_cases h : n = 0
  · subst h
    go_enter Tryz.func32, Tryz.ntmps32
    go_wp2
    go_ret
    exact ⟨rfl, rfl⟩
  · have HB := Lib.hid (fun W => rbits_i (n - 1) (by omega) (by omega) W)
    have hR : needN n = Wd.bitsL (n - 1).toNat := by unfold needN; rw [if_neg h]
    rw [hR]
    obtain ⟨B, hB⟩ : ∃ B, Wd.bitsL (n - 1).toNat = B := ⟨_, rfl⟩
    rw [hB] at HB ⊢
    have t1 : (n == 0) = false := by rw [beq_eq_false_iff_ne]; exact h
    have e1 : IntKind.u64.wrap (n - 1) = n - 1 := by rw [IntKind.wrap_u64]; omega
    clear h hR hB
    go_enter Tryz.func32, Tryz.ntmps32
    go_wp2_with (go_at_call 48; (with_reducible refine (HB.out _).mono ?_); rintro e _ ⟨rfl, rfl⟩)
    go_ret
    exact ⟨rfl, rfl⟩
end Go.Proofs.YtomkidgmpbjgeaaGreatDoor
/-
  What the reference's functions of stage 8 return (Need, Draw), and that memory is left as it was.
  Conditions: the arguments lie in their types' ranges.
-/
set_option maxRecDepth 100000
set_option linter.unusedSimpArgs false
namespace Go.Proofs.YtomkidgmpbjgeaaGreatDoor
open Go.ChangeShapes Go.WideShapes Go.ChangeAt Go.RowKit
set_option linter.unusedVariables false
set_option maxHeartbeats 8000000 in
theorem r8draw_c (s : Src) (ok : s.Ok) (n : Int) (n0 : 0 ≤ n) (n1 : n < 18446744073709551616) (a : Int) (a0 : -9223372036854775808 ≤ a) (a1 : a < 9223372036854775808) (A0 : Option Addr) (c0 : Nat) (hc : s.tape.length ≤ c0) (hcm : c0 ≤ maxLen) (w : World) (hrd : Rd .u8 w w.heap.size A0 s.tape.length s.tape) : Calls Tryz.prog 18 #[.agg (srcV s A0 c0), .int .u64 n, .int .i64 a] w (RetDraw w s A0 (drawR s n a)) := by
  have HRT := Lib.hid (fun W => rsright_c s ok A0 c0 W)
  have HZ0 := Lib.hid zero_src
  have hRd := Lib.hid hrd
  have HZSS := Lib.hid (fun (t : Src) (h : t.seed.length = 32) A c => srcV_same Src.zero t rfl h none A 0 c)
  obtain ⟨Z, hZ⟩ : ∃ Z, srcV Src.zero none 0 = Z := ⟨_, rfl⟩
  rw [hZ] at HZ0 HZSS
  by_cases hbad : ¬ drawB s n a = true
  · have hE : drawR s n a = (0, s, 1) := by unfold drawR; rw [if_neg hbad]
    have HEND : Hid (∀ w', RdP A0 s.tape.length s.tape w' → Below w.heap.size w w' → RetDraw w s A0 (drawR s n a) (.returned (.tuple #[.int .u64 0, .agg (srcV s A0 c0), .int .i64 1])) w') := Lib.hid (fun w' hr hb => ⟨A0, c0, by rw [hE], hr, hc, hcm, .inl rfl, hb⟩)
    have hcase : (rightS s = false) ∨ (rightS s = true ∧ n < 1) ∨ (rightS s = true ∧ ¬ n < 1 ∧ 9223372036854775808 ≤ n) ∨ (rightS s = true ∧ ¬ n < 1 ∧ n < 9223372036854775808 ∧ a < 1) ∨ (rightS s = true ∧ ¬ n < 1 ∧ n < 9223372036854775808 ∧ ¬ a < 1 ∧ 64 < a) := by
      cases h : rightS s
      · exact .inl rfl
      · refine .inr ?_
        by_cases h1 : n < 1
        · exact .inl ⟨rfl, h1⟩
        · refine .inr ?_
          by_cases h2 : 9223372036854775808 ≤ n
          · exact .inl ⟨rfl, h1, h2⟩
          · refine .inr ?_
            by_cases h3 : a < 1
            · exact .inl ⟨rfl, h1, by omega, h3⟩
            · refine .inr ⟨rfl, h1, by omega, h3, Decidable.byContradiction fun h4 => hbad ?_⟩
              unfold drawB
              rw [h, Bool.true_and]
              exact decide_eq_true ⟨by omega, by omega, by omega, by omega⟩
    have SV := Lib.hid (sizedS s ok.sl A0 c0)
    have OV := Lib.hid (srcV_ones s A0 c0)
    have ZV := Lib.hid (HZSS.out s ok.sl A0 c0)
    obtain ⟨V, hV⟩ : ∃ V, srcV s A0 c0 = V := ⟨_, rfl⟩
    rw [hV] at HRT HEND SV OV ZV
    rw [hV]
    obtain ⟨rr, hrr⟩ : ∃ r, drawR s n a = r := ⟨_, rfl⟩
    rw [hrr] at HEND ⊢
    clear hZ hV hE hbad hrd hrr
    rcases hcase with hr | ⟨hr, h1⟩ | ⟨hr, h1, h2⟩ | ⟨hr, h1, h2, h3⟩ | ⟨hr, h1, h2, h3, h4⟩
    all_goals
      rw [hr] at HRT
      go_enter Tryz.func18, Tryz.ntmps18
      go_wp2_with (first
        | (with_reducible refine at_any ?_; refine at_dst 3 rfl ?_; refine wpList_box_any rfl 30 (.tmp 0) rfl V rfl ?_; intro w1 hk1 hs1 hb1)
        | (with_reducible refine at_any ?_; refine at_dst 7 rfl ?_; refine wpList_alloc_any rfl 30 rfl Z HZ0.out ?_; intro w2 hk2 hs2 hb2; have k2 := Lib.hid (hk1.out.below hb2 hk1.out.lt))
        | (with_reducible refine at_any ?_; refine at_dst 13 rfl ?_; refine wpList_load_blk rfl 30 (.tmp 3) rfl w.heap.size rfl 30 V k2.out _ Tryz.underlying30 rfl SV.out ?_)
        | (go_at_call 30; (with_reducible refine (HRT.out _).mono ?_); rintro e wz ⟨rfl, hbz⟩))
      have HS := DrS.mk2 hRd.out hk1.out hb1 hk2.out hb2 hbz
      have HZ : Fx [.blk w1.heap.size 30 Z] wz := ⟨hk2.out.below hbz hk2.out.lt, trivial⟩
      obtain ⟨g3, hg3⟩ : ∃ g, w.heap.size = g := ⟨_, rfl⟩
      obtain ⟨g7, hg7⟩ : ∃ g, w1.heap.size = g := ⟨_, rfl⟩
      obtain ⟨zs, hzs⟩ : ∃ zs, s.tape = zs := ⟨_, rfl⟩
      obtain ⟨L, hL⟩ : ∃ L, zs.length = L := ⟨_, rfl⟩
      rw [hzs, hL] at HEND
      rw [hg3, hg7, hzs, hL] at HS
      rw [hg7] at HZ
      rw [hg3, hg7]
      clear hg3 hg7 hzs hL hk1 hs1 hb1 hk2 hs2 hb2 k2 hbz
      have HZ7 := HZ.drew
      refine wp_region_held_drew (S := (DrS w g3 g7 V A0 L zs)) (by kernel_rfl) HS.drew (fun hH => ?_)
      refine wpAnyH_letter #[false, false, false, false] (by kernel_rfl) (fun _ _ d _ _ h => by cases d <;> exact h) (fun QL HQ1 HQ2 => ?_)
      refine held_row 0 (some 32) rfl (by kernel_rfl) (by kernel_rfl) (by kernel_rfl) (by kernel_rfl) (fun c a v w h => HQ2.out c a _ v w h) (by kernel_rfl) 30 (.tmp 3) rfl g3 (by kernel_rfl) 30 V (fun _ h => h.blk) _ Tryz.underlying30 rfl SV.out hH ?_
      try simp only [Act.put, List.setIfInBounds_toArray, List.set_cons_zero, List.set_cons_succ]
      refine held_v 1 (some 6) rfl (by kernel_rfl) (by kernel_rfl) (by kernel_rfl) (by kernel_rfl) (fun c a v w h => HQ2.out c a _ v w h) (by kernel_rfl) (.int .u64 0) (fun W h => by kernel_rfl) hH ?_
      try simp only [Act.put, List.setIfInBounds_toArray, List.set_cons_zero, List.set_cons_succ]
      refine wpAnyH_ready (rs := [2]) (by kernel_rfl) (by decide) ?_
      refine AllReadyH.cons rfl (fun K hK => ?_) AllReadyH.nil
      refine step_store none (by kernel_rfl) (by kernel_rfl) 30 (.tmp 7) (.tmp 32) rfl g7 (by kernel_rfl) 30 Z V HZ7.1 (by kernel_rfl) ZV.out SV.out OV.out ?_
      intro w41 hkw41 hsw41 hbw41 how41
      have ex42 : Fx [.blk g7 30 V] w41 := ⟨hkw41.out, trivial⟩
      refine hK.out _ _ (hH.store HZ7.1 hH.store7 hsw41.out hbw41 how41) (fun hw41 => ?_)
      clear hK K
      try simp only [Act.put, List.setIfInBounds_toArray, List.set_cons_zero, List.set_cons_succ]
      refine held_v 3 (some 8) rfl (by kernel_rfl) (by kernel_rfl) (by kernel_rfl) (by kernel_rfl) (fun c a v w h => HQ2.out c a _ v w h) (by kernel_rfl) (.int .i64 1) (fun W h => by kernel_rfl) hw41 ?_
      try simp only [Act.put, List.setIfInBounds_toArray, List.set_cons_zero, List.set_cons_succ]
      refine wpAnyH_done (by kernel_rfl) ?_ _
      refine HQ1.out _ _ ?_
      clear HQ1 HQ2
      go_wp2_with (refine bodyPost_mid 6 7 8 30 rfl g7 rfl (.int .u64 0) (.int .i64 1) rfl rfl 30 V ex42.1 _ Tryz.underlying30 rfl SV.out rfl ?_)
      exact HEND.out _ hw41.rd hw41.bel
  · have hgood : drawB s n a = true := Decidable.of_not_not hbad
    have hE : drawR s n a = drawGo (needN n) n a.toNat s := by unfold drawR; rw [if_pos hgood]
    obtain ⟨hr, hd⟩ : rightS s = true ∧ decide (1 ≤ n ∧ n < 9223372036854775808 ∧ 1 ≤ a ∧ a ≤ 64) = true := by unfold drawB at hgood; rwa [Bool.and_eq_true] at hgood
    obtain ⟨nn0, nn1, aa0, aa1⟩ := of_decide_eq_true hd
    have h1 : ¬ n < 1 := by omega
    have h3 : ¬ a < 1 := by omega
    have h4 : ¬ 64 < a := by omega
    have hk64 := needN_le n n0 n1
    have HND := Lib.hid (fun W => r8need_c n n0 n1 W)
    obtain ⟨k, hk⟩ : ∃ k, needN n = k := ⟨_, rfl⟩
    rw [hk] at hE hk64 HND
    rw [hE]
    obtain ⟨a, rfl⟩ := Int.eq_ofNat_of_zero_le (show 0 ≤ a by omega)
    rw [Int.toNat_natCast]
    rw [hr] at HRT
    have HTAKE := Lib.hid (fun (t : Src) (okt : t.Ok) (A : Option Addr) (c : Nat) (h1 : t.tape.length ≤ c) (h2 : c ≤ maxLen) (W : World) (h3 : Rd .u8 W W.heap.size A t.tape.length t.tape) => rstake_c t okt (k : Int) (by omega) (by omega) A c h1 h2 W h3)
    have SV := Lib.hid (sizedS s ok.sl A0 c0)
    have HL0 : Hid (∀ g3 g7 W, DrS w g3 g7 (srcV s A0 c0) A0 s.tape.length s.tape W → Fx [.blk g7 30 Z] W → DrL w g3 g7 s k n a A0 Z 0 W) := Lib.hid (fun g3 g7 W h1 h2 => ⟨s, A0, c0, rfl, ok, rfl, h1, h2, .inl rfl, hc, hcm⟩)
    obtain ⟨V, hV⟩ : ∃ V, srcV s A0 c0 = V := ⟨_, rfl⟩
    rw [hV] at HRT SV HL0
    rw [hV]
    obtain ⟨rr, hrr⟩ : ∃ r, drawGo k n a s = r := ⟨_, rfl⟩
    rw [hrr]
    have HRR := Lib.hid hrr
    clear hZ hV hE hbad hrd hrr hgood hd hr hk a0 a1 aa0 hc hcm
    have aa2 : a ≤ 64 := by omega
    clear aa1
    go_enter Tryz.func18, Tryz.ntmps18
    go_wp2_with (first
      | (with_reducible refine at_any ?_; refine at_dst 3 rfl ?_; refine wpList_box_any rfl 30 (.tmp 0) rfl V rfl ?_; intro w1 hk1 hs1 hb1)
      | (with_reducible refine at_any ?_; refine at_dst 7 rfl ?_; refine wpList_alloc_any rfl 30 rfl Z HZ0.out ?_; intro w2 hk2 hs2 hb2; have k2 := Lib.hid (hk1.out.below hb2 hk1.out.lt))
      | (with_reducible refine at_any ?_; refine at_dst 13 rfl ?_; refine wpList_load_blk rfl 30 (.tmp 3) rfl w.heap.size rfl 30 V k2.out _ Tryz.underlying30 rfl SV.out ?_)
      | (go_at_call 30; (with_reducible refine (HRT.out _).mono ?_); rintro e wz ⟨rfl, hbz⟩))
    have HS := DrS.mk2 hRd.out hk1.out hb1 hk2.out hb2 hbz
    have HZ : Fx [.blk w1.heap.size 30 Z] wz := ⟨hk2.out.below hbz hk2.out.lt, trivial⟩
    have HL := Lib.hid (HL0.out _ _ _ HS HZ)
    obtain ⟨g3, hg3⟩ : ∃ g, w.heap.size = g := ⟨_, rfl⟩
    obtain ⟨g7, hg7⟩ : ∃ g, w1.heap.size = g := ⟨_, rfl⟩
    rw [hg3, hg7] at HL
    rw [hg3, hg7]
    clear hg3 hg7 hk1 hs1 hb1 hk2 hs2 hb2 k2 hbz HS HZ HL0 HRT SV h1 h3 h4
    go_loopw [9] (fun cc wr => ∃ i : Nat, i ≤ a ∧ cc = .int .i64 i ∧ DrL w g3 g7 s k n a A0 Z i wr) (fun cc _ => a - (intOf cc).toNat)
    case atStart => exact ⟨0, by omega, rfl, HL.out⟩
    case round =>
      clear HL
      obtain ⟨i, hi, rfl, si, A, c, hgo, oki, htp, HS, HZ, hsp, hcl, hcm⟩ := hrel
      have SV := Lib.hid (sizedS si oki.sl A c)
      have OV := Lib.hid (srcV_ones si A c)
      have ZV := Lib.hid (HZSS.out si oki.sl A c)
      have HSP := Lib.hid hsp
      rw [HRR.out] at hgo
      by_cases hlt : i < a
      · have HTK := Lib.hid (fun (W : World) (h3 : RdP A s.tape.length s.tape W) => HTAKE.out si oki A c (by rw [htp]; exact hcl) hcm W (by rw [htp]; exact h3))
        have hst : a - i = a - i - 1 + 1 := by omega
        rw [hst] at hgo
        have hti := takeE_in si k
        have hvi := takeV_in si k
        have htok := takeS_ok oki k
        have http := takeS_tape si k
        rw [htp] at http
        have hgz : takeE si k ≠ 0 → rr = (0, si, takeE si k) := fun h => by rw [hgo, drawGo_err h]
        have hgh : takeE si k = 0 → takeV si k < n → rr = (takeV si k, takeS si k, 0) := fun h h2 => by rw [hgo, drawGo_hit h h2]
        have hgm : takeE si k = 0 → ¬ takeV si k < n → rr = drawGo k n (a - (i + 1)) (takeS si k) := fun h h2 => by rw [hgo, drawGo_miss h h2, show a - i - 1 = a - (i + 1) by omega]
        have hsi : takeE si k ≠ 0 → takeS si k = si := fun h => by unfold takeS; rw [if_neg h]
        unfold RetTake at HTK
        rw [htp] at HTK
        obtain ⟨X, hX⟩ : ∃ X, takeV si k = X := ⟨_, rfl⟩
        obtain ⟨E, hE⟩ : ∃ E, takeE si k = E := ⟨_, rfl⟩
        obtain ⟨t, ht⟩ : ∃ t, takeS si k = t := ⟨_, rfl⟩
        rw [hX, hE, ht] at HTK
        rw [hX] at hvi hgh hgm
        rw [hE] at hti hgz hgh hgm hsi
        rw [ht] at htok http hgh hgm hsi
        have ST := Lib.hid (fun A c => sizedS t htok.sl A c)
        have OT := Lib.hid (fun A c => srcV_ones t A c)
        have ZT := Lib.hid (fun A c => HZSS.out t htok.sl A c)
        obtain ⟨zs, hzs⟩ : ∃ zs, s.tape = zs := ⟨_, rfl⟩
        obtain ⟨L, hL⟩ : ∃ L, zs.length = L := ⟨_, rfl⟩
        have HG1 : Hid (∀ A2 c2 g11 W, DrS w g3 g7 (srcV si A c) A L zs W → Blk W g7 30 Z → Blk W g11 30 (srcV t A2 c2) → RdP A2 L zs W → Apt L A2 g3 → Apt L A2 g7 → Sep w A0 A2 → L ≤ c2 → c2 ≤ maxLen → g3 ≠ g11 → g7 ≠ g11 → True) := Lib.hid (fun _ _ _ _ _ _ _ _ _ _ _ _ _ _ _ => trivial)
        have HEZ : Hid (E ≠ 0 → ∀ w', RdP A L zs w' → Below w.heap.size w w' → RetDraw w s A0 rr (.returned (.tuple #[.int .u64 0, .agg (srcV si A c), .int .i64 E])) w') := Lib.hid (fun h w' hr hb => ⟨A, c, by rw [hgz h], by rw [hzs, hL]; exact hr, hcl, hcm, hsp, hb⟩)
        have HEH : Hid (E = 0 → X < n → ∀ A2 c2 w', Sep w A0 A2 → L ≤ c2 → c2 ≤ maxLen → RdP A2 L zs w' → Below w.heap.size w w' → RetDraw w s A0 rr (.returned (.tuple #[.int .u64 X, .agg (srcV t A2 c2), .int .i64 0])) w') := Lib.hid (fun h h2 A2 c2 w' h3 h4 h5 hr hb => ⟨A2, c2, by rw [hgh h h2], by rw [hzs, hL]; exact hr, by rw [hzs, hL]; exact h4, h5, h3, hb⟩)
        have HEM : Hid (E = 0 → ¬ X < n → ∀ A2 c2 W, DrS w g3 g7 (srcV t A2 c2) A2 L zs W → Fx [.blk g7 30 Z] W → Sep w A0 A2 → L ≤ c2 → c2 ≤ maxLen → DrL w g3 g7 s k n a A0 Z (i + 1) W) := Lib.hid (fun h h2 A2 c2 W h3 h4 h5 h6 h7 => ⟨t, A2, c2, by rw [HRR.out]; exact hgm h h2, htok, by rw [http, hzs], by rw [hzs, hL]; exact h3, h4, h5, by rw [hzs, hL]; exact h6, h7⟩)
        rw [hzs, hL] at HTK
        rw [hzs, hL] at HS hcl
        clear hgo oki htp hsp hst htok http hgz hgh hgm hsi hX hE ht hzs hL HG1
        obtain ⟨V, hV⟩ : ∃ V, srcV si A c = V := ⟨_, rfl⟩
        rw [hV] at SV OV ZV HS HTK HEZ
        clear hV HTAKE HZSS
        go_wp2_with fail
        have HZ7 := HZ.drew
        refine wp_region_held_drew (S := (DrS w g3 g7 V A L zs)) (by kernel_rfl) HS.drew (fun hH => ?_)
        refine wpAnyH_letter #[false, false, false, false, false, false, false, false, false, false, false, false] (by kernel_rfl) (fun _ _ d _ _ h => by cases d <;> exact h) (fun QL HQ1 HQ2 => ?_)
        refine held_row 0 (some 39) rfl (by kernel_rfl) (by kernel_rfl) (by kernel_rfl) (by kernel_rfl) (fun c a v w h => HQ2.out c a _ v w h) (by kernel_rfl) 30 (.tmp 3) rfl g3 (by kernel_rfl) 30 V (fun _ h => h.blk) _ Tryz.underlying30 rfl SV.out hH ?_
        try simp only [Act.put, List.setIfInBounds_toArray, List.set_cons_zero, List.set_cons_succ]
        refine held_v 1 (some 40) rfl (by kernel_rfl) (by kernel_rfl) (by kernel_rfl) (by kernel_rfl) (fun c a v w h => HQ2.out c a _ v w h) (by kernel_rfl) (.int .u64 n) (fun W h => by kernel_rfl) hH ?_
        try simp only [Act.put, List.setIfInBounds_toArray, List.set_cons_zero, List.set_cons_succ]
        refine wpAnyH_ready (rs := [2, 8]) (by kernel_rfl) (by decide) ?_
        refine AllReadyH.cons rfl (fun K hK => ?_) (AllReadyH.cons rfl (fun K hK => ?_) AllReadyH.nil)
        · refine step_call (some 41) (by kernel_rfl) (by kernel_rfl) _ _ (by kernel_rfl) _ (HND.out _) ?_
          rintro e _ ⟨rfl, rfl⟩
          refine ⟨_, rfl, ?_⟩
          refine hK.out _ _ hH (fun _ => ?_)
          clear hK K
          try simp only [Act.put, List.setIfInBounds_toArray, List.set_cons_zero, List.set_cons_succ]
          refine wpAnyH_ready (rs := [3, 8]) (by kernel_rfl) (by decide) ?_
          refine AllReadyH.cons rfl (fun K hK => ?_) (AllReadyH.cons rfl (fun K hK => ?_) AllReadyH.nil)
          · refine step_call (some 42) (by kernel_rfl) (by kernel_rfl) _ _ (by kernel_rfl) _ (HTK.out wr.drew hH.rd) ?_
            rintro e w42 ⟨A2, c2, rfl, hrd2, hc2, hm2, hsp2, hbw42⟩
            have hSP : Hid (Sep w A0 A2) := Lib.hid (Sep.trans HSP.out hsp2 hH.bel.size)
            have hA23 := Lib.hid (Apt.of_sep hsp2 hH.apt3 hH.lt3)
            have hA27 := Lib.hid (Apt.of_sep hsp2 hH.apt7 hH.lt7)
            have hC2 := Lib.hid hc2
            have hM2 := Lib.hid hm2
            have ex43 := HZ7.below hbw42
            have ex44 : RdP A2 L zs w42 := hrd2
            clear hrd2 hc2 hm2 hsp2
            refine ⟨_, rfl, ?_⟩
            refine hK.out _ _ (hH.below hbw42) (fun hw42 => ?_)
            clear hK K
            try simp only [Act.put, List.setIfInBounds_toArray, List.set_cons_zero, List.set_cons_succ]
            refine held_v 4 (some 38) rfl (by kernel_rfl) (by kernel_rfl) (by kernel_rfl) (by kernel_rfl) (fun c a v w h => HQ2.out c a _ v w h) (by kernel_rfl) (.tuple #[.int .u64 X, .agg (srcV t A2 c2), .int .i64 E]) (fun W h => by kernel_rfl) hw42 ?_
            try simp only [Act.put, List.setIfInBounds_toArray, List.set_cons_zero, List.set_cons_succ]
            refine held_v 5 (some 43) rfl (by kernel_rfl) (by kernel_rfl) (by kernel_rfl) (by kernel_rfl) (fun c a v w h => HQ2.out c a _ v w h) (by kernel_rfl) (.int .u64 X) (fun W h => by kernel_rfl) hw42 ?_
            try simp only [Act.put, List.setIfInBounds_toArray, List.set_cons_zero, List.set_cons_succ]
            refine held_v 6 (some 44) rfl (by kernel_rfl) (by kernel_rfl) (by kernel_rfl) (by kernel_rfl) (fun c a v w h => HQ2.out c a _ v w h) (by kernel_rfl) (.agg (srcV t A2 c2)) (fun W h => by kernel_rfl) hw42 ?_
            try simp only [Act.put, List.setIfInBounds_toArray, List.set_cons_zero, List.set_cons_succ]
            refine held_v 7 (some 45) rfl (by kernel_rfl) (by kernel_rfl) (by kernel_rfl) (by kernel_rfl) (fun c a v w h => HQ2.out c a _ v w h) (by kernel_rfl) (.int .i64 E) (fun W h => by kernel_rfl) hw42 ?_
            try simp only [Act.put, List.setIfInBounds_toArray, List.set_cons_zero, List.set_cons_succ]
            refine wpAnyH_ready (rs := [8]) (by kernel_rfl) (by decide) ?_
            refine AllReadyH.cons rfl (fun K hK => ?_) AllReadyH.nil
            refine step_alloc (some 11) (by kernel_rfl) (by kernel_rfl) 30 rfl Z HZ0.out ?_
            intro w45 hkw45 hsw45 hbw45
            obtain ⟨g11, hg11⟩ : ∃ g, w42.heap.size = g := ⟨_, rfl⟩
            have hAo11 := Apt.of_lt (g := g11) hw42.rd.rd (Nat.le_of_eq hg11)
            have hn3 : g3 ≠ g11 := by have := hw42.lt3; omega
            have hn7 : g7 ≠ g11 := by have := hw42.lt7; omega
            have hle11 : w.heap.size ≤ g11 := by have := hw42.bel.size; omega
            have hA11 := Apt.of_lt (g := g11) ex44.rd (Nat.le_of_eq hg11)
            rw [hg11] at hkw45
            rw [hg11]
            have ex46 := ex43.below hbw45
            have ex47 := ex44.below hbw45
            have ex48 : Fx [.blk g11 30 Z] w45 := ⟨hkw45.out, trivial⟩
            refine hK.out _ _ (hw42.below hbw45) (fun hw45 => ?_)
            clear hK K
            try simp only [Act.put, List.setIfInBounds_toArray, List.set_cons_zero, List.set_cons_succ]
            refine held_v 9 (some 10) rfl (by kernel_rfl) (by kernel_rfl) (by kernel_rfl) (by kernel_rfl) (fun c a v w h => HQ2.out c a _ v w h) (by kernel_rfl) (.int .u64 X) (fun W h => by kernel_rfl) hw45 ?_
            try simp only [Act.put, List.setIfInBounds_toArray, List.set_cons_zero, List.set_cons_succ]
            refine wpAnyH_ready (rs := [10]) (by kernel_rfl) (by decide) ?_
            refine AllReadyH.cons rfl (fun K hK => ?_) AllReadyH.nil
            refine step_store none (by kernel_rfl) (by kernel_rfl) 30 (.tmp 11) (.tmp 44) rfl g11 (by kernel_rfl) 30 Z (srcV t A2 c2) ex48.1 (by kernel_rfl) (ZT.out _ _) (ST.out _ _) (OT.out _ _) ?_
            intro w49 hkw49 hsw49 hbw49 how49
            have ex50 := ex46.store ex48.1 ⟨hn7, trivial⟩ hsw49.out hbw49 how49
            have ex51 := ex47.store ex48.1 hA11 hsw49.out hbw49 how49
            have ex52 : Fx [.blk g11 30 (srcV t A2 c2)] w49 := ⟨hkw49.out, trivial⟩
            refine hK.out _ _ (hw45.store ex48.1 ⟨hn3, hAo11, hle11⟩ hsw49.out hbw49 how49) (fun hw49 => ?_)
            clear hK K
            try simp only [Act.put, List.setIfInBounds_toArray, List.set_cons_zero, List.set_cons_succ]
            refine held_v 11 (some 12) rfl (by kernel_rfl) (by kernel_rfl) (by kernel_rfl) (by kernel_rfl) (fun c a v w h => HQ2.out c a _ v w h) (by kernel_rfl) (.int .i64 E) (fun W h => by kernel_rfl) hw49 ?_
            try simp only [Act.put, List.setIfInBounds_toArray, List.set_cons_zero, List.set_cons_succ]
            refine wpAnyH_done (by kernel_rfl) ?_ _
            refine HQ1.out _ _ ?_
            clear HQ1 HQ2
            have HS6 := Lib.hid hw49
            have HZ6 := Lib.hid ex50
            have H11 : Hid (Blk w49 g11 30 (srcV t A2 c2)) := Lib.hid ex52.1
            have HR2 := Lib.hid ex51
            have HOF : Hid (Fx.off g3 V [.blk g7 30 Z]) := Lib.hid ⟨Nat.ne_of_gt HS6.out.lt, trivial⟩
            have HV2 : Hid (∃ V2, srcV t A2 c2 = V2) := Lib.hid ⟨_, rfl⟩
            have SV2 := Lib.hid (ST.out A2 c2)
            have OV2 := Lib.hid (OT.out A2 c2)
            have ZV2 := Lib.hid (ZT.out A2 c2)
            have HM2 := Lib.hid (fun h h2 W h3 h4 => HEM.out h h2 A2 c2 W h3 h4 hSP.out hC2.out hM2.out)
            have HH2 := Lib.hid (fun h h2 w' h3 h4 => HEH.out h h2 A2 c2 w' hSP.out hC2.out hM2.out h3 h4)
            obtain ⟨V2, hV2⟩ := HV2.out
            rw [hV2] at H11 SV2 OV2 ZV2 HM2 HH2
            have A23 := Lib.hid hA23.out
            have A27 := Lib.hid hA27.out
            by_cases hE0 : E = 0
            · have t1 : (E == 0) = true := by rw [beq_iff_eq]; exact hE0
              have t2 : (E != 0) = false := by rw [bne, t1]; rfl
              by_cases hx : X < n
              · have VV2 := Lib.hid (show V.size = V2.size by rw [← ZV.out, ZV2.out])
                go_wp2_with (first
                  | (with_reducible refine at_any ?_; refine at_dst 50 rfl ?_; refine wpList_load_blk rfl 30 (.tmp 11) rfl g11 rfl 30 V2 H11.out _ Tryz.underlying30 rfl SV2.out ?_)
                  | (with_reducible refine at_any ?_; refine at_store 3 rfl ?_; refine wpList_store_any rfl 30 (.tmp 3) (.tmp 50) rfl g3 rfl 30 V V2 HS6.out.blk rfl VV2.out SV2.out OV2.out ?_; intro w9 hk9 hs9 hb9 ho9; have HS := HS6.out.put3 HR2.out A23.out A27.out hk9.out hs9.out hb9 ho9; have HZ := HZ6.out.store HS6.out.blk HOF.out hs9.out hb9 ho9))
                have HZ7 := HZ.drew
                refine wp_region_held_drew (S := (DrS w g3 g7 V2 A2 L zs)) (by kernel_rfl) HS.drew (fun hH => ?_)
                refine wpAnyH_letter #[false, false, false, false, false] (by kernel_rfl) (fun _ _ d _ _ h => by cases d <;> exact h) (fun QL HQ1 HQ2 => ?_)
                refine held_v 0 (some 54) rfl (by kernel_rfl) (by kernel_rfl) (by kernel_rfl) (by kernel_rfl) (fun c a v w h => HQ2.out c a _ v w h) (by kernel_rfl) (.int .u64 X) (fun W h => by kernel_rfl) hH ?_
                try simp only [Act.put, List.setIfInBounds_toArray, List.set_cons_zero, List.set_cons_succ]
                refine held_row 1 (some 55) rfl (by kernel_rfl) (by kernel_rfl) (by kernel_rfl) (by kernel_rfl) (fun c a v w h => HQ2.out c a _ v w h) (by kernel_rfl) 30 (.tmp 3) rfl g3 (by kernel_rfl) 30 V2 (fun _ h => h.blk) _ Tryz.underlying30 rfl SV2.out hH ?_
                try simp only [Act.put, List.setIfInBounds_toArray, List.set_cons_zero, List.set_cons_succ]
                refine held_v 2 (some 6) rfl (by kernel_rfl) (by kernel_rfl) (by kernel_rfl) (by kernel_rfl) (fun c a v w h => HQ2.out c a _ v w h) (by kernel_rfl) (.int .u64 X) (fun W h => by kernel_rfl) hH ?_
                try simp only [Act.put, List.setIfInBounds_toArray, List.set_cons_zero, List.set_cons_succ]
                refine wpAnyH_ready (rs := [3]) (by kernel_rfl) (by decide) ?_
                refine AllReadyH.cons rfl (fun K hK => ?_) AllReadyH.nil
                refine step_store none (by kernel_rfl) (by kernel_rfl) 30 (.tmp 7) (.tmp 55) rfl g7 (by kernel_rfl) 30 Z V2 HZ7.1 (by kernel_rfl) ZV2.out SV2.out OV2.out ?_
                intro w141 hkw141 hsw141 hbw141 how141
                have ex142 : Fx [.blk g7 30 V2] w141 := ⟨hkw141.out, trivial⟩
                refine hK.out _ _ (hH.store HZ7.1 hH.store7 hsw141.out hbw141 how141) (fun hw141 => ?_)
                clear hK K
                try simp only [Act.put, List.setIfInBounds_toArray, List.set_cons_zero, List.set_cons_succ]
                refine held_v 4 (some 8) rfl (by kernel_rfl) (by kernel_rfl) (by kernel_rfl) (by kernel_rfl) (fun c a v w h => HQ2.out c a _ v w h) (by kernel_rfl) (.int .i64 0) (fun W h => by kernel_rfl) hw141 ?_
                try simp only [Act.put, List.setIfInBounds_toArray, List.set_cons_zero, List.set_cons_succ]
                refine wpAnyH_done (by kernel_rfl) ?_ _
                refine HQ1.out _ _ ?_
                clear HQ1 HQ2
                go_wp2_with (refine bodyPost_mid 6 7 8 30 rfl g7 rfl (.int .u64 X) (.int .i64 0) rfl rfl 30 V2 ex142.1 _ Tryz.underlying30 rfl SV2.out rfl ?_)
                exact HH2.out hE0 hx _ hw141.rd.rd hw141.bel
              · have hx2 : n ≤ X := by omega
                have VV2 := Lib.hid (show V.size = V2.size by rw [← ZV.out, ZV2.out])
                go_wp2_with (first
                  | (with_reducible refine at_any ?_; refine at_dst 50 rfl ?_; refine wpList_load_blk rfl 30 (.tmp 11) rfl g11 rfl 30 V2 H11.out _ Tryz.underlying30 rfl SV2.out ?_)
                  | (with_reducible refine at_any ?_; refine at_store 3 rfl ?_; refine wpList_store_any rfl 30 (.tmp 3) (.tmp 50) rfl g3 rfl 30 V V2 HS6.out.blk rfl VV2.out SV2.out OV2.out ?_; intro w9 hk9 hs9 hb9 ho9; have HS := HS6.out.put3 HR2.out A23.out A27.out hk9.out hs9.out hb9 ho9; have HZ := HZ6.out.store HS6.out.blk HOF.out hs9.out hb9 ho9))
                have HF := Lib.hid (HM2.out hE0 (by first | exact hx2 | exact Int.not_lt.2 hx2) _ HS HZ)
                clear HS HZ
                go_roundw
                case rel => exact ⟨i + 1, by omega, by go_num, HF.out⟩
                case measure => simp [intOf]; omega
            · have t1 : (E == 0) = false := by rw [beq_eq_false_iff_ne]; exact hE0
              have t2 : (E != 0) = true := by rw [bne, t1]; rfl
              go_wp2_with fail
              have HZ7 := HZ6.out.drew
              refine wp_region_held_drew (S := (DrS w g3 g7 V A L zs)) (by kernel_rfl) HS6.out.drew (fun hH => ?_)
              refine wpAnyH_letter #[false, false, false, false, false] (by kernel_rfl) (fun _ _ d _ _ h => by cases d <;> exact h) (fun QL HQ1 HQ2 => ?_)
              refine held_row 0 (some 48) rfl (by kernel_rfl) (by kernel_rfl) (by kernel_rfl) (by kernel_rfl) (fun c a v w h => HQ2.out c a _ v w h) (by kernel_rfl) 30 (.tmp 3) rfl g3 (by kernel_rfl) 30 V (fun _ h => h.blk) _ Tryz.underlying30 rfl SV.out hH ?_
              try simp only [Act.put, List.setIfInBounds_toArray, List.set_cons_zero, List.set_cons_succ]
              refine held_v 1 (some 49) rfl (by kernel_rfl) (by kernel_rfl) (by kernel_rfl) (by kernel_rfl) (fun c a v w h => HQ2.out c a _ v w h) (by kernel_rfl) (.int .i64 E) (fun W h => by kernel_rfl) hH ?_
              try simp only [Act.put, List.setIfInBounds_toArray, List.set_cons_zero, List.set_cons_succ]
              refine held_v 2 (some 6) rfl (by kernel_rfl) (by kernel_rfl) (by kernel_rfl) (by kernel_rfl) (fun c a v w h => HQ2.out c a _ v w h) (by kernel_rfl) (.int .u64 0) (fun W h => by kernel_rfl) hH ?_
              try simp only [Act.put, List.setIfInBounds_toArray, List.set_cons_zero, List.set_cons_succ]
              refine wpAnyH_ready (rs := [3]) (by kernel_rfl) (by decide) ?_
              refine AllReadyH.cons rfl (fun K hK => ?_) AllReadyH.nil
              refine step_store none (by kernel_rfl) (by kernel_rfl) 30 (.tmp 7) (.tmp 48) rfl g7 (by kernel_rfl) 30 Z V HZ7.1 (by kernel_rfl) ZV.out SV.out OV.out ?_
              intro w141 hkw141 hsw141 hbw141 how141
              have ex142 : Fx [.blk g7 30 V] w141 := ⟨hkw141.out, trivial⟩
              refine hK.out _ _ (hH.store HZ7.1 hH.store7 hsw141.out hbw141 how141) (fun hw141 => ?_)
              clear hK K
              try simp only [Act.put, List.setIfInBounds_toArray, List.set_cons_zero, List.set_cons_succ]
              refine held_v 4 (some 8) rfl (by kernel_rfl) (by kernel_rfl) (by kernel_rfl) (by kernel_rfl) (fun c a v w h => HQ2.out c a _ v w h) (by kernel_rfl) (.int .i64 E) (fun W h => by kernel_rfl) hw141 ?_
              try simp only [Act.put, List.setIfInBounds_toArray, List.set_cons_zero, List.set_cons_succ]
              refine wpAnyH_done (by kernel_rfl) ?_ _
              refine HQ1.out _ _ ?_
              clear HQ1 HQ2
              go_wp2_with (refine bodyPost_mid 6 7 8 30 rfl g7 rfl (.int .u64 0) (.int .i64 E) rfl rfl 30 V ex142.1 _ Tryz.underlying30 rfl SV.out rfl ?_)
              exact HEZ.out hE0 _ hw141.rd.rd hw141.bel
          · refine step_alloc (some 11) (by kernel_rfl) (by kernel_rfl) 30 rfl Z HZ0.out ?_
            intro w53 hkw53 hsw53 hbw53
            obtain ⟨g11, hg11⟩ : ∃ g, wr.drew.heap.size = g := ⟨_, rfl⟩
            have hAo11 := Apt.of_lt (g := g11) hH.rd.rd (Nat.le_of_eq hg11)
            have hn3 : g3 ≠ g11 := by have := hH.lt3; omega
            have hn7 : g7 ≠ g11 := by have := hH.lt7; omega
            have hle11 : w.heap.size ≤ g11 := by have := hH.bel.size; omega
            rw [hg11] at hkw53
            rw [hg11]
            have ex54 := HZ7.below hbw53
            have ex55 : Fx [.blk g11 30 Z] w53 := ⟨hkw53.out, trivial⟩
            refine hK.out _ _ (hH.below hbw53) (fun hw53 => ?_)
            clear hK K
            try simp only [Act.put, List.setIfInBounds_toArray, List.set_cons_zero, List.set_cons_succ]
            refine wpAnyH_ready (rs := [3]) (by kernel_rfl) (by decide) ?_
            refine AllReadyH.cons rfl (fun K hK => ?_) AllReadyH.nil
            refine step_call (some 42) (by kernel_rfl) (by kernel_rfl) _ _ (by kernel_rfl) _ (HTK.out w53 hw53.rd) ?_
            rintro e w56 ⟨A2, c2, rfl, hrd2, hc2, hm2, hsp2, hbw56⟩
            have hSP : Hid (Sep w A0 A2) := Lib.hid (Sep.trans HSP.out hsp2 hw53.bel.size)
            have hA23 := Lib.hid (Apt.of_sep hsp2 hw53.apt3 hw53.lt3)
            have hA27 := Lib.hid (Apt.of_sep hsp2 hw53.apt7 hw53.lt7)
            have hC2 := Lib.hid hc2
            have hM2 := Lib.hid hm2
            have hA11 := Apt.of_sep hsp2 hAo11 ex55.1.lt
            have ex57 := ex54.below hbw56
            have ex58 := ex55.below hbw56
            have ex59 : RdP A2 L zs w56 := hrd2
            clear hrd2 hc2 hm2 hsp2
            refine ⟨_, rfl, ?_⟩
            refine hK.out _ _ (hw53.below hbw56) (fun hw56 => ?_)
            clear hK K
            try simp only [Act.put, List.setIfInBounds_toArray, List.set_cons_zero, List.set_cons_succ]
            refine held_v 4 (some 38) rfl (by kernel_rfl) (by kernel_rfl) (by kernel_rfl) (by kernel_rfl) (fun c a v w h => HQ2.out c a _ v w h) (by kernel_rfl) (.tuple #[.int .u64 X, .agg (srcV t A2 c2), .int .i64 E]) (fun W h => by kernel_rfl) hw56 ?_
            try simp only [Act.put, List.setIfInBounds_toArray, List.set_cons_zero, List.set_cons_succ]
            refine held_v 5 (some 43) rfl (by kernel_rfl) (by kernel_rfl) (by kernel_rfl) (by kernel_rfl) (fun c a v w h => HQ2.out c a _ v w h) (by kernel_rfl) (.int .u64 X) (fun W h => by kernel_rfl) hw56 ?_
            try simp only [Act.put, List.setIfInBounds_toArray, List.set_cons_zero, List.set_cons_succ]
            refine held_v 6 (some 44) rfl (by kernel_rfl) (by kernel_rfl) (by kernel_rfl) (by kernel_rfl) (fun c a v w h => HQ2.out c a _ v w h) (by kernel_rfl) (.agg (srcV t A2 c2)) (fun W h => by kernel_rfl) hw56 ?_
            try simp only [Act.put, List.setIfInBounds_toArray, List.set_cons_zero, List.set_cons_succ]
            refine held_v 7 (some 45) rfl (by kernel_rfl) (by kernel_rfl) (by kernel_rfl) (by kernel_rfl) (fun c a v w h => HQ2.out c a _ v w h) (by kernel_rfl) (.int .i64 E) (fun W h => by kernel_rfl) hw56 ?_
            try simp only [Act.put, List.setIfInBounds_toArray, List.set_cons_zero, List.set_cons_succ]
            refine held_v 9 (some 10) rfl (by kernel_rfl) (by kernel_rfl) (by kernel_rfl) (by kernel_rfl) (fun c a v w h => HQ2.out c a _ v w h) (by kernel_rfl) (.int .u64 X) (fun W h => by kernel_rfl) hw56 ?_
            try simp only [Act.put, List.setIfInBounds_toArray, List.set_cons_zero, List.set_cons_succ]
            refine wpAnyH_ready (rs := [10]) (by kernel_rfl) (by decide) ?_
            refine AllReadyH.cons rfl (fun K hK => ?_) AllReadyH.nil
            refine step_store none (by kernel_rfl) (by kernel_rfl) 30 (.tmp 11) (.tmp 44) rfl g11 (by kernel_rfl) 30 Z (srcV t A2 c2) ex58.1 (by kernel_rfl) (ZT.out _ _) (ST.out _ _) (OT.out _ _) ?_
            intro w60 hkw60 hsw60 hbw60 how60
            have ex61 := ex57.store ex58.1 ⟨hn7, trivial⟩ hsw60.out hbw60 how60
            have ex62 := ex59.store ex58.1 hA11 hsw60.out hbw60 how60
            have ex63 : Fx [.blk g11 30 (srcV t A2 c2)] w60 := ⟨hkw60.out, trivial⟩
            refine hK.out _ _ (hw56.store ex58.1 ⟨hn3, hAo11, hle11⟩ hsw60.out hbw60 how60) (fun hw60 => ?_)
            clear hK K
            try simp only [Act.put, List.setIfInBounds_toArray, List.set_cons_zero, List.set_cons_succ]
            refine held_v 11 (some 12) rfl (by kernel_rfl) (by kernel_rfl) (by kernel_rfl) (by kernel_rfl) (fun c a v w h => HQ2.out c a _ v w h) (by kernel_rfl) (.int .i64 E) (fun W h => by kernel_rfl) hw60 ?_
            try simp only [Act.put, List.setIfInBounds_toArray, List.set_cons_zero, List.set_cons_succ]
            refine wpAnyH_done (by kernel_rfl) ?_ _
            refine HQ1.out _ _ ?_
            clear HQ1 HQ2
            have HS6 := Lib.hid hw60
            have HZ6 := Lib.hid ex61
            have H11 : Hid (Blk w60 g11 30 (srcV t A2 c2)) := Lib.hid ex63.1
            have HR2 := Lib.hid ex62
            have HOF : Hid (Fx.off g3 V [.blk g7 30 Z]) := Lib.hid ⟨Nat.ne_of_gt HS6.out.lt, trivial⟩
            have HV2 : Hid (∃ V2, srcV t A2 c2 = V2) := Lib.hid ⟨_, rfl⟩
            have SV2 := Lib.hid (ST.out A2 c2)
            have OV2 := Lib.hid (OT.out A2 c2)
            have ZV2 := Lib.hid (ZT.out A2 c2)
            have HM2 := Lib.hid (fun h h2 W h3 h4 => HEM.out h h2 A2 c2 W h3 h4 hSP.out hC2.out hM2.out)
            have HH2 := Lib.hid (fun h h2 w' h3 h4 => HEH.out h h2 A2 c2 w' hSP.out hC2.out hM2.out h3 h4)
            obtain ⟨V2, hV2⟩ := HV2.out
            rw [hV2] at H11 SV2 OV2 ZV2 HM2 HH2
            have A23 := Lib.hid hA23.out
            have A27 := Lib.hid hA27.out
            by_cases hE0 : E = 0
            · have t1 : (E == 0) = true := by rw [beq_iff_eq]; exact hE0
              have t2 : (E != 0) = false := by rw [bne, t1]; rfl
              by_cases hx : X < n
              · have VV2 := Lib.hid (show V.size = V2.size by rw [← ZV.out, ZV2.out])
                go_wp2_with (first
                  | (with_reducible refine at_any ?_; refine at_dst 50 rfl ?_; refine wpList_load_blk rfl 30 (.tmp 11) rfl g11 rfl 30 V2 H11.out _ Tryz.underlying30 rfl SV2.out ?_)
                  | (with_reducible refine at_any ?_; refine at_store 3 rfl ?_; refine wpList_store_any rfl 30 (.tmp 3) (.tmp 50) rfl g3 rfl 30 V V2 HS6.out.blk rfl VV2.out SV2.out OV2.out ?_; intro w9 hk9 hs9 hb9 ho9; have HS := HS6.out.put3 HR2.out A23.out A27.out hk9.out hs9.out hb9 ho9; have HZ := HZ6.out.store HS6.out.blk HOF.out hs9.out hb9 ho9))
                have HZ7 := HZ.drew
                refine wp_region_held_drew (S := (DrS w g3 g7 V2 A2 L zs)) (by kernel_rfl) HS.drew (fun hH => ?_)
                refine wpAnyH_letter #[false, false, false, false, false] (by kernel_rfl) (fun _ _ d _ _ h => by cases d <;> exact h) (fun QL HQ1 HQ2 => ?_)
                refine held_v 0 (some 54) rfl (by kernel_rfl) (by kernel_rfl) (by kernel_rfl) (by kernel_rfl) (fun c a v w h => HQ2.out c a _ v w h) (by kernel_rfl) (.int .u64 X) (fun W h => by kernel_rfl) hH ?_
                try simp only [Act.put, List.setIfInBounds_toArray, List.set_cons_zero, List.set_cons_succ]
                refine held_row 1 (some 55) rfl (by kernel_rfl) (by kernel_rfl) (by kernel_rfl) (by kernel_rfl) (fun c a v w h => HQ2.out c a _ v w h) (by kernel_rfl) 30 (.tmp 3) rfl g3 (by kernel_rfl) 30 V2 (fun _ h => h.blk) _ Tryz.underlying30 rfl SV2.out hH ?_
                try simp only [Act.put, List.setIfInBounds_toArray, List.set_cons_zero, List.set_cons_succ]
                refine held_v 2 (some 6) rfl (by kernel_rfl) (by kernel_rfl) (by kernel_rfl) (by kernel_rfl) (fun c a v w h => HQ2.out c a _ v w h) (by kernel_rfl) (.int .u64 X) (fun W h => by kernel_rfl) hH ?_
                try simp only [Act.put, List.setIfInBounds_toArray, List.set_cons_zero, List.set_cons_succ]
                refine wpAnyH_ready (rs := [3]) (by kernel_rfl) (by decide) ?_
                refine AllReadyH.cons rfl (fun K hK => ?_) AllReadyH.nil
                refine step_store none (by kernel_rfl) (by kernel_rfl) 30 (.tmp 7) (.tmp 55) rfl g7 (by kernel_rfl) 30 Z V2 HZ7.1 (by kernel_rfl) ZV2.out SV2.out OV2.out ?_
                intro w141 hkw141 hsw141 hbw141 how141
                have ex142 : Fx [.blk g7 30 V2] w141 := ⟨hkw141.out, trivial⟩
                refine hK.out _ _ (hH.store HZ7.1 hH.store7 hsw141.out hbw141 how141) (fun hw141 => ?_)
                clear hK K
                try simp only [Act.put, List.setIfInBounds_toArray, List.set_cons_zero, List.set_cons_succ]
                refine held_v 4 (some 8) rfl (by kernel_rfl) (by kernel_rfl) (by kernel_rfl) (by kernel_rfl) (fun c a v w h => HQ2.out c a _ v w h) (by kernel_rfl) (.int .i64 0) (fun W h => by kernel_rfl) hw141 ?_
                try simp only [Act.put, List.setIfInBounds_toArray, List.set_cons_zero, List.set_cons_succ]
                refine wpAnyH_done (by kernel_rfl) ?_ _
                refine HQ1.out _ _ ?_
                clear HQ1 HQ2
                go_wp2_with (refine bodyPost_mid 6 7 8 30 rfl g7 rfl (.int .u64 X) (.int .i64 0) rfl rfl 30 V2 ex142.1 _ Tryz.underlying30 rfl SV2.out rfl ?_)
                exact HH2.out hE0 hx _ hw141.rd.rd hw141.bel
              · have hx2 : n ≤ X := by omega
                have VV2 := Lib.hid (show V.size = V2.size by rw [← ZV.out, ZV2.out])
                go_wp2_with (first
                  | (with_reducible refine at_any ?_; refine at_dst 50 rfl ?_; refine wpList_load_blk rfl 30 (.tmp 11) rfl g11 rfl 30 V2 H11.out _ Tryz.underlying30 rfl SV2.out ?_)
                  | (with_reducible refine at_any ?_; refine at_store 3 rfl ?_; refine wpList_store_any rfl 30 (.tmp 3) (.tmp 50) rfl g3 rfl 30 V V2 HS6.out.blk rfl VV2.out SV2.out OV2.out ?_; intro w9 hk9 hs9 hb9 ho9; have HS := HS6.out.put3 HR2.out A23.out A27.out hk9.out hs9.out hb9 ho9; have HZ := HZ6.out.store HS6.out.blk HOF.out hs9.out hb9 ho9))
                have HF := Lib.hid (HM2.out hE0 (by first | exact hx2 | exact Int.not_lt.2 hx2) _ HS HZ)
                clear HS HZ
                go_roundw
                case rel => exact ⟨i + 1, by omega, by go_num, HF.out⟩
                case measure => simp [intOf]; omega
            · have t1 : (E == 0) = false := by rw [beq_eq_false_iff_ne]; exact hE0
              have t2 : (E != 0) = true := by rw [bne, t1]; rfl
              go_wp2_with fail
              have HZ7 := HZ6.out.drew
              refine wp_region_held_drew (S := (DrS w g3 g7 V A L zs)) (by kernel_rfl) HS6.out.drew (fun hH => ?_)
              refine wpAnyH_letter #[false, false, false, false, false] (by kernel_rfl) (fun _ _ d _ _ h => by cases d <;> exact h) (fun QL HQ1 HQ2 => ?_)
              refine held_row 0 (some 48) rfl (by kernel_rfl) (by kernel_rfl) (by kernel_rfl) (by kernel_rfl) (fun c a v w h => HQ2.out c a _ v w h) (by kernel_rfl) 30 (.tmp 3) rfl g3 (by kernel_rfl) 30 V (fun _ h => h.blk) _ Tryz.underlying30 rfl SV.out hH ?_
              try simp only [Act.put, List.setIfInBounds_toArray, List.set_cons_zero, List.set_cons_succ]
              refine held_v 1 (some 49) rfl (by kernel_rfl) (by kernel_rfl) (by kernel_rfl) (by kernel_rfl) (fun c a v w h => HQ2.out c a _ v w h) (by kernel_rfl) (.int .i64 E) (fun W h => by kernel_rfl) hH ?_
              try simp only [Act.put, List.setIfInBounds_toArray, List.set_cons_zero, List.set_cons_succ]
              refine held_v 2 (some 6) rfl (by kernel_rfl) (by kernel_rfl) (by kernel_rfl) (by kernel_rfl) (fun c a v w h => HQ2.out c a _ v w h) (by kernel_rfl) (.int .u64 0) (fun W h => by kernel_rfl) hH ?_
              try simp only [Act.put, List.setIfInBounds_toArray, List.set_cons_zero, List.set_cons_succ]
              refine wpAnyH_ready (rs := [3]) (by kernel_rfl) (by decide) ?_
              refine AllReadyH.cons rfl (fun K hK => ?_) AllReadyH.nil
              refine step_store none (by kernel_rfl) (by kernel_rfl) 30 (.tmp 7) (.tmp 48) rfl g7 (by kernel_rfl) 30 Z V HZ7.1 (by kernel_rfl) ZV.out SV.out OV.out ?_
              intro w141 hkw141 hsw141 hbw141 how141
              have ex142 : Fx [.blk g7 30 V] w141 := ⟨hkw141.out, trivial⟩
              refine hK.out _ _ (hH.store HZ7.1 hH.store7 hsw141.out hbw141 how141) (fun hw141 => ?_)
              clear hK K
              try simp only [Act.put, List.setIfInBounds_toArray, List.set_cons_zero, List.set_cons_succ]
              refine held_v 4 (some 8) rfl (by kernel_rfl) (by kernel_rfl) (by kernel_rfl) (by kernel_rfl) (fun c a v w h => HQ2.out c a _ v w h) (by kernel_rfl) (.int .i64 E) (fun W h => by kernel_rfl) hw141 ?_
              try simp only [Act.put, List.setIfInBounds_toArray, List.set_cons_zero, List.set_cons_succ]
              refine wpAnyH_done (by kernel_rfl) ?_ _
              refine HQ1.out _ _ ?_
              clear HQ1 HQ2
              go_wp2_with (refine bodyPost_mid 6 7 8 30 rfl g7 rfl (.int .u64 0) (.int .i64 E) rfl rfl 30 V ex142.1 _ Tryz.underlying30 rfl SV.out rfl ?_)
              exact HEZ.out hE0 _ hw141.rd.rd hw141.bel
        · refine step_alloc (some 11) (by kernel_rfl) (by kernel_rfl) 30 rfl Z HZ0.out ?_
          intro w64 hkw64 hsw64 hbw64
          obtain ⟨g11, hg11⟩ : ∃ g, wr.drew.heap.size = g := ⟨_, rfl⟩
          have hAo11 := Apt.of_lt (g := g11) hH.rd.rd (Nat.le_of_eq hg11)
          have hn3 : g3 ≠ g11 := by have := hH.lt3; omega
          have hn7 : g7 ≠ g11 := by have := hH.lt7; omega
          have hle11 : w.heap.size ≤ g11 := by have := hH.bel.size; omega
          rw [hg11] at hkw64
          rw [hg11]
          have ex65 := HZ7.below hbw64
          have ex66 : Fx [.blk g11 30 Z] w64 := ⟨hkw64.out, trivial⟩
          refine hK.out _ _ (hH.below hbw64) (fun hw64 => ?_)
          clear hK K
          try simp only [Act.put, List.setIfInBounds_toArray, List.set_cons_zero, List.set_cons_succ]
          refine wpAnyH_ready (rs := [2]) (by kernel_rfl) (by decide) ?_
          refine AllReadyH.cons rfl (fun K hK => ?_) AllReadyH.nil
          refine step_call (some 41) (by kernel_rfl) (by kernel_rfl) _ _ (by kernel_rfl) _ (HND.out _) ?_
          rintro e _ ⟨rfl, rfl⟩
          refine ⟨_, rfl, ?_⟩
          refine hK.out _ _ hw64 (fun _ => ?_)
          clear hK K
          try simp only [Act.put, List.setIfInBounds_toArray, List.set_cons_zero, List.set_cons_succ]
          refine wpAnyH_ready (rs := [3]) (by kernel_rfl) (by decide) ?_
          refine AllReadyH.cons rfl (fun K hK => ?_) AllReadyH.nil
          refine step_call (some 42) (by kernel_rfl) (by kernel_rfl) _ _ (by kernel_rfl) _ (HTK.out w64 hw64.rd) ?_
          rintro e w68 ⟨A2, c2, rfl, hrd2, hc2, hm2, hsp2, hbw68⟩
          have hSP : Hid (Sep w A0 A2) := Lib.hid (Sep.trans HSP.out hsp2 hw64.bel.size)
          have hA23 := Lib.hid (Apt.of_sep hsp2 hw64.apt3 hw64.lt3)
          have hA27 := Lib.hid (Apt.of_sep hsp2 hw64.apt7 hw64.lt7)
          have hC2 := Lib.hid hc2
          have hM2 := Lib.hid hm2
          have hA11 := Apt.of_sep hsp2 hAo11 ex66.1.lt
          have ex69 := ex65.below hbw68
          have ex70 := ex66.below hbw68
          have ex71 : RdP A2 L zs w68 := hrd2
          clear hrd2 hc2 hm2 hsp2
          refine ⟨_, rfl, ?_⟩
          refine hK.out _ _ (hw64.below hbw68) (fun hw68 => ?_)
          clear hK K
          try simp only [Act.put, List.setIfInBounds_toArray, List.set_cons_zero, List.set_cons_succ]
          refine held_v 4 (some 38) rfl (by kernel_rfl) (by kernel_rfl) (by kernel_rfl) (by kernel_rfl) (fun c a v w h => HQ2.out c a _ v w h) (by kernel_rfl) (.tuple #[.int .u64 X, .agg (srcV t A2 c2), .int .i64 E]) (fun W h => by kernel_rfl) hw68 ?_
          try simp only [Act.put, List.setIfInBounds_toArray, List.set_cons_zero, List.set_cons_succ]
          refine held_v 5 (some 43) rfl (by kernel_rfl) (by kernel_rfl) (by kernel_rfl) (by kernel_rfl) (fun c a v w h => HQ2.out c a _ v w h) (by kernel_rfl) (.int .u64 X) (fun W h => by kernel_rfl) hw68 ?_
          try simp only [Act.put, List.setIfInBounds_toArray, List.set_cons_zero, List.set_cons_succ]
          refine held_v 6 (some 44) rfl (by kernel_rfl) (by kernel_rfl) (by kernel_rfl) (by kernel_rfl) (fun c a v w h => HQ2.out c a _ v w h) (by kernel_rfl) (.agg (srcV t A2 c2)) (fun W h => by kernel_rfl) hw68 ?_
          try simp only [Act.put, List.setIfInBounds_toArray, List.set_cons_zero, List.set_cons_succ]
          refine held_v 7 (some 45) rfl (by kernel_rfl) (by kernel_rfl) (by kernel_rfl) (by kernel_rfl) (fun c a v w h => HQ2.out c a _ v w h) (by kernel_rfl) (.int .i64 E) (fun W h => by kernel_rfl) hw68 ?_
          try simp only [Act.put, List.setIfInBounds_toArray, List.set_cons_zero, List.set_cons_succ]
          refine held_v 9 (some 10) rfl (by kernel_rfl) (by kernel_rfl) (by kernel_rfl) (by kernel_rfl) (fun c a v w h => HQ2.out c a _ v w h) (by kernel_rfl) (.int .u64 X) (fun W h => by kernel_rfl) hw68 ?_
          try simp only [Act.put, List.setIfInBounds_toArray, List.set_cons_zero, List.set_cons_succ]
          refine wpAnyH_ready (rs := [10]) (by kernel_rfl) (by decide) ?_
          refine AllReadyH.cons rfl (fun K hK => ?_) AllReadyH.nil
          refine step_store none (by kernel_rfl) (by kernel_rfl) 30 (.tmp 11) (.tmp 44) rfl g11 (by kernel_rfl) 30 Z (srcV t A2 c2) ex70.1 (by kernel_rfl) (ZT.out _ _) (ST.out _ _) (OT.out _ _) ?_
          intro w72 hkw72 hsw72 hbw72 how72
          have ex73 := ex69.store ex70.1 ⟨hn7, trivial⟩ hsw72.out hbw72 how72
          have ex74 := ex71.store ex70.1 hA11 hsw72.out hbw72 how72
          have ex75 : Fx [.blk g11 30 (srcV t A2 c2)] w72 := ⟨hkw72.out, trivial⟩
          refine hK.out _ _ (hw68.store ex70.1 ⟨hn3, hAo11, hle11⟩ hsw72.out hbw72 how72) (fun hw72 => ?_)
          clear hK K
          try simp only [Act.put, List.setIfInBounds_toArray, List.set_cons_zero, List.set_cons_succ]
          refine held_v 11 (some 12) rfl (by kernel_rfl) (by kernel_rfl) (by kernel_rfl) (by kernel_rfl) (fun c a v w h => HQ2.out c a _ v w h) (by kernel_rfl) (.int .i64 E) (fun W h => by kernel_rfl) hw72 ?_
          try simp only [Act.put, List.setIfInBounds_toArray, List.set_cons_zero, List.set_cons_succ]
          refine wpAnyH_done (by kernel_rfl) ?_ _
          refine HQ1.out _ _ ?_
          clear HQ1 HQ2
          have HS6 := Lib.hid hw72
          have HZ6 := Lib.hid ex73
          have H11 : Hid (Blk w72 g11 30 (srcV t A2 c2)) := Lib.hid ex75.1
          have HR2 := Lib.hid ex74
          have HOF : Hid (Fx.off g3 V [.blk g7 30 Z]) := Lib.hid ⟨Nat.ne_of_gt HS6.out.lt, trivial⟩
          have HV2 : Hid (∃ V2, srcV t A2 c2 = V2) := Lib.hid ⟨_, rfl⟩
          have SV2 := Lib.hid (ST.out A2 c2)
          have OV2 := Lib.hid (OT.out A2 c2)
          have ZV2 := Lib.hid (ZT.out A2 c2)
          have HM2 := Lib.hid (fun h h2 W h3 h4 => HEM.out h h2 A2 c2 W h3 h4 hSP.out hC2.out hM2.out)
          have HH2 := Lib.hid (fun h h2 w' h3 h4 => HEH.out h h2 A2 c2 w' hSP.out hC2.out hM2.out h3 h4)
          obtain ⟨V2, hV2⟩ := HV2.out
          rw [hV2] at H11 SV2 OV2 ZV2 HM2 HH2
          have A23 := Lib.hid hA23.out
          have A27 := Lib.hid hA27.out
          by_cases hE0 : E = 0
          · have t1 : (E == 0) = true := by rw [beq_iff_eq]; exact hE0
            have t2 : (E != 0) = false := by rw [bne, t1]; rfl
            by_cases hx : X < n
            · have VV2 := Lib.hid (show V.size = V2.size by rw [← ZV.out, ZV2.out])
              go_wp2_with (first
                | (with_reducible refine at_any ?_; refine at_dst 50 rfl ?_; refine wpList_load_blk rfl 30 (.tmp 11) rfl g11 rfl 30 V2 H11.out _ Tryz.underlying30 rfl SV2.out ?_)
                | (with_reducible refine at_any ?_; refine at_store 3 rfl ?_; refine wpList_store_any rfl 30 (.tmp 3) (.tmp 50) rfl g3 rfl 30 V V2 HS6.out.blk rfl VV2.out SV2.out OV2.out ?_; intro w9 hk9 hs9 hb9 ho9; have HS := HS6.out.put3 HR2.out A23.out A27.out hk9.out hs9.out hb9 ho9; have HZ := HZ6.out.store HS6.out.blk HOF.out hs9.out hb9 ho9))
              have HZ7 := HZ.drew
              refine wp_region_held_drew (S := (DrS w g3 g7 V2 A2 L zs)) (by kernel_rfl) HS.drew (fun hH => ?_)
              refine wpAnyH_letter #[false, false, false, false, false] (by kernel_rfl) (fun _ _ d _ _ h => by cases d <;> exact h) (fun QL HQ1 HQ2 => ?_)
              refine held_v 0 (some 54) rfl (by kernel_rfl) (by kernel_rfl) (by kernel_rfl) (by kernel_rfl) (fun c a v w h => HQ2.out c a _ v w h) (by kernel_rfl) (.int .u64 X) (fun W h => by kernel_rfl) hH ?_
              try simp only [Act.put, List.setIfInBounds_toArray, List.set_cons_zero, List.set_cons_succ]
              refine held_row 1 (some 55) rfl (by kernel_rfl) (by kernel_rfl) (by kernel_rfl) (by kernel_rfl) (fun c a v w h => HQ2.out c a _ v w h) (by kernel_rfl) 30 (.tmp 3) rfl g3 (by kernel_rfl) 30 V2 (fun _ h => h.blk) _ Tryz.underlying30 rfl SV2.out hH ?_
              try simp only [Act.put, List.setIfInBounds_toArray, List.set_cons_zero, List.set_cons_succ]
              refine held_v 2 (some 6) rfl (by kernel_rfl) (by kernel_rfl) (by kernel_rfl) (by kernel_rfl) (fun c a v w h => HQ2.out c a _ v w h) (by kernel_rfl) (.int .u64 X) (fun W h => by kernel_rfl) hH ?_
              try simp only [Act.put, List.setIfInBounds_toArray, List.set_cons_zero, List.set_cons_succ]
              refine wpAnyH_ready (rs := [3]) (by kernel_rfl) (by decide) ?_
              refine AllReadyH.cons rfl (fun K hK => ?_) AllReadyH.nil
              refine step_store none (by kernel_rfl) (by kernel_rfl) 30 (.tmp 7) (.tmp 55) rfl g7 (by kernel_rfl) 30 Z V2 HZ7.1 (by kernel_rfl) ZV2.out SV2.out OV2.out ?_
              intro w141 hkw141 hsw141 hbw141 how141
              have ex142 : Fx [.blk g7 30 V2] w141 := ⟨hkw141.out, trivial⟩
              refine hK.out _ _ (hH.store HZ7.1 hH.store7 hsw141.out hbw141 how141) (fun hw141 => ?_)
              clear hK K
              try simp only [Act.put, List.setIfInBounds_toArray, List.set_cons_zero, List.set_cons_succ]
              refine held_v 4 (some 8) rfl (by kernel_rfl) (by kernel_rfl) (by kernel_rfl) (by kernel_rfl) (fun c a v w h => HQ2.out c a _ v w h) (by kernel_rfl) (.int .i64 0) (fun W h => by kernel_rfl) hw141 ?_
              try simp only [Act.put, List.setIfInBounds_toArray, List.set_cons_zero, List.set_cons_succ]
              refine wpAnyH_done (by kernel_rfl) ?_ _
              refine HQ1.out _ _ ?_
              clear HQ1 HQ2
              go_wp2_with (refine bodyPost_mid 6 7 8 30 rfl g7 rfl (.int .u64 X) (.int .i64 0) rfl rfl 30 V2 ex142.1 _ Tryz.underlying30 rfl SV2.out rfl ?_)
              exact HH2.out hE0 hx _ hw141.rd.rd hw141.bel
            · have hx2 : n ≤ X := by omega
              have VV2 := Lib.hid (show V.size = V2.size by rw [← ZV.out, ZV2.out])
              go_wp2_with (first
                | (with_reducible refine at_any ?_; refine at_dst 50 rfl ?_; refine wpList_load_blk rfl 30 (.tmp 11) rfl g11 rfl 30 V2 H11.out _ Tryz.underlying30 rfl SV2.out ?_)
                | (with_reducible refine at_any ?_; refine at_store 3 rfl ?_; refine wpList_store_any rfl 30 (.tmp 3) (.tmp 50) rfl g3 rfl 30 V V2 HS6.out.blk rfl VV2.out SV2.out OV2.out ?_; intro w9 hk9 hs9 hb9 ho9; have HS := HS6.out.put3 HR2.out A23.out A27.out hk9.out hs9.out hb9 ho9; have HZ := HZ6.out.store HS6.out.blk HOF.out hs9.out hb9 ho9))
              have HF := Lib.hid (HM2.out hE0 (by first | exact hx2 | exact Int.not_lt.2 hx2) _ HS HZ)
              clear HS HZ
              go_roundw
              case rel => exact ⟨i + 1, by omega, by go_num, HF.out⟩
              case measure => simp [intOf]; omega
          · have t1 : (E == 0) = false := by rw [beq_eq_false_iff_ne]; exact hE0
            have t2 : (E != 0) = true := by rw [bne, t1]; rfl
            go_wp2_with fail
            have HZ7 := HZ6.out.drew
            refine wp_region_held_drew (S := (DrS w g3 g7 V A L zs)) (by kernel_rfl) HS6.out.drew (fun hH => ?_)
            refine wpAnyH_letter #[false, false, false, false, false] (by kernel_rfl) (fun _ _ d _ _ h => by cases d <;> exact h) (fun QL HQ1 HQ2 => ?_)
            refine held_row 0 (some 48) rfl (by kernel_rfl) (by kernel_rfl) (by kernel_rfl) (by kernel_rfl) (fun c a v w h => HQ2.out c a _ v w h) (by kernel_rfl) 30 (.tmp 3) rfl g3 (by kernel_rfl) 30 V (fun _ h => h.blk) _ Tryz.underlying30 rfl SV.out hH ?_
            try simp only [Act.put, List.setIfInBounds_toArray, List.set_cons_zero, List.set_cons_succ]
            refine held_v 1 (some 49) rfl (by kernel_rfl) (by kernel_rfl) (by kernel_rfl) (by kernel_rfl) (fun c a v w h => HQ2.out c a _ v w h) (by kernel_rfl) (.int .i64 E) (fun W h => by kernel_rfl) hH ?_
            try simp only [Act.put, List.setIfInBounds_toArray, List.set_cons_zero, List.set_cons_succ]
            refine held_v 2 (some 6) rfl (by kernel_rfl) (by kernel_rfl) (by kernel_rfl) (by kernel_rfl) (fun c a v w h => HQ2.out c a _ v w h) (by kernel_rfl) (.int .u64 0) (fun W h => by kernel_rfl) hH ?_
            try simp only [Act.put, List.setIfInBounds_toArray, List.set_cons_zero, List.set_cons_succ]
            refine wpAnyH_ready (rs := [3]) (by kernel_rfl) (by decide) ?_
            refine AllReadyH.cons rfl (fun K hK => ?_) AllReadyH.nil
            refine step_store none (by kernel_rfl) (by kernel_rfl) 30 (.tmp 7) (.tmp 48) rfl g7 (by kernel_rfl) 30 Z V HZ7.1 (by kernel_rfl) ZV.out SV.out OV.out ?_
            intro w141 hkw141 hsw141 hbw141 how141
            have ex142 : Fx [.blk g7 30 V] w141 := ⟨hkw141.out, trivial⟩
            refine hK.out _ _ (hH.store HZ7.1 hH.store7 hsw141.out hbw141 how141) (fun hw141 => ?_)
            clear hK K
            try simp only [Act.put, List.setIfInBounds_toArray, List.set_cons_zero, List.set_cons_succ]
            refine held_v 4 (some 8) rfl (by kernel_rfl) (by kernel_rfl) (by kernel_rfl) (by kernel_rfl) (fun c a v w h => HQ2.out c a _ v w h) (by kernel_rfl) (.int .i64 E) (fun W h => by kernel_rfl) hw141 ?_
            try simp only [Act.put, List.setIfInBounds_toArray, List.set_cons_zero, List.set_cons_succ]
            refine wpAnyH_done (by kernel_rfl) ?_ _
            refine HQ1.out _ _ ?_
            clear HQ1 HQ2
            go_wp2_with (refine bodyPost_mid 6 7 8 30 rfl g7 rfl (.int .u64 0) (.int .i64 E) rfl rfl 30 V ex142.1 _ Tryz.underlying30 rfl SV.out rfl ?_)
            exact HEZ.out hE0 _ hw141.rd.rd hw141.bel
      · obtain rfl : i = a := by omega
        rw [Nat.sub_self, drawGo_zero] at hgo
        have HEND : Hid (∀ w', RdP A s.tape.length s.tape w' → Below w.heap.size w w' → RetDraw w s A0 rr (.returned (.tuple #[.int .u64 0, .agg (srcV si A c), .int .i64 9])) w') := Lib.hid (fun w' hr hb => ⟨A, c, by rw [hgo], hr, hcl, hcm, hsp, hb⟩)
        obtain ⟨zs, hzs⟩ : ∃ zs, s.tape = zs := ⟨_, rfl⟩
        obtain ⟨L, hL⟩ : ∃ L, zs.length = L := ⟨_, rfl⟩
        rw [hzs, hL] at HEND HS
        obtain ⟨V, hV⟩ : ∃ V, srcV si A c = V := ⟨_, rfl⟩
        rw [hV] at SV OV ZV HEND HS
        clear hgo oki htp hsp hcl hcm hzs hL hV HTAKE HND HZSS
        go_wp2_with fail
        have HZ7 := HZ.drew
        refine wp_region_held_drew (S := (DrS w g3 g7 V A L zs)) (by kernel_rfl) HS.drew (fun hH => ?_)
        refine wpAnyH_letter #[false, false, false, false] (by kernel_rfl) (fun _ _ d _ _ h => by cases d <;> exact h) (fun QL HQ1 HQ2 => ?_)
        refine held_row 0 (some 56) rfl (by kernel_rfl) (by kernel_rfl) (by kernel_rfl) (by kernel_rfl) (fun c a v w h => HQ2.out c a _ v w h) (by kernel_rfl) 30 (.tmp 3) rfl g3 (by kernel_rfl) 30 V (fun _ h => h.blk) _ Tryz.underlying30 rfl SV.out hH ?_
        try simp only [Act.put, List.setIfInBounds_toArray, List.set_cons_zero, List.set_cons_succ]
        refine held_v 1 (some 6) rfl (by kernel_rfl) (by kernel_rfl) (by kernel_rfl) (by kernel_rfl) (fun c a v w h => HQ2.out c a _ v w h) (by kernel_rfl) (.int .u64 0) (fun W h => by kernel_rfl) hH ?_
        try simp only [Act.put, List.setIfInBounds_toArray, List.set_cons_zero, List.set_cons_succ]
        refine wpAnyH_ready (rs := [2]) (by kernel_rfl) (by decide) ?_
        refine AllReadyH.cons rfl (fun K hK => ?_) AllReadyH.nil
        refine step_store none (by kernel_rfl) (by kernel_rfl) 30 (.tmp 7) (.tmp 56) rfl g7 (by kernel_rfl) 30 Z V HZ7.1 (by kernel_rfl) ZV.out SV.out OV.out ?_
        intro w41 hkw41 hsw41 hbw41 how41
        have ex42 : Fx [.blk g7 30 V] w41 := ⟨hkw41.out, trivial⟩
        refine hK.out _ _ (hH.store HZ7.1 hH.store7 hsw41.out hbw41 how41) (fun hw41 => ?_)
        clear hK K
        try simp only [Act.put, List.setIfInBounds_toArray, List.set_cons_zero, List.set_cons_succ]
        refine held_v 3 (some 8) rfl (by kernel_rfl) (by kernel_rfl) (by kernel_rfl) (by kernel_rfl) (fun c a v w h => HQ2.out c a _ v w h) (by kernel_rfl) (.int .i64 9) (fun W h => by kernel_rfl) hw41 ?_
        try simp only [Act.put, List.setIfInBounds_toArray, List.set_cons_zero, List.set_cons_succ]
        refine wpAnyH_done (by kernel_rfl) ?_ _
        refine HQ1.out _ _ ?_
        clear HQ1 HQ2
        go_wp2_with (refine bodyPost_mid 6 7 8 30 rfl g7 rfl (.int .u64 0) (.int .i64 9) rfl rfl 30 V ex42.1 _ Tryz.underlying30 rfl SV.out rfl ?_)
        exact HEND.out _ hw41.rd hw41.bel
end Go.Proofs.YtomkidgmpbjgeaaGreatDoor
/-
  What drawlotref14 returns of a table: an owner, how many a place owns.
  Conditions: the numbers lie in their types' ranges; the cells read as pairs.
-/
set_option maxRecDepth 100000
set_option linter.unusedVariables false
set_option linter.unusedSimpArgs false
namespace Go.Proofs.YtomkidgmpbjgeaaGreatDoor
open Go.ChangeShapes Go.WideShapes Go.ChangeAt Go.RowKit
theorem under_tab : Tryz.prog.underlying 25 = Tryz.prog.underlying 25 := rfl
theorem size_tab : (Tryz.prog.info? 25).map (·.size) = some 2 := by kernel_rfl
section
variable (T : Int) (T0 : 0 ≤ T) (T1 : T < 18446744073709551616) (ts : List (Int × Int)) (hts : PrOk ts) (A : Option Addr) (n c : Nat) (hn : n ≤ maxLen) (w : World) (hrd : RdPr .u64 .i64 w w.heap.size A n ts)
include T0 T1 hts hn hrd
set_option maxHeartbeats 4000000 in
theorem r14owner_c (u : Int) (u0 : 0 ≤ u) (u1 : u < 18446744073709551616) : Calls Tryz.prog 20 #[.agg #[.int .u64 T, .slice A n c], .int .u64 u] w fun e w' => e = .returned (.tuple #[.int .i64 (owV T ts u), .int .i64 (owE T ts u)]) ∧ Below w.heap.size w w' := by
  have hlen := hrd.len
  have HC := Lib.hid (fun W h => r14right_c T T0 T1 ts hts A n c hn W h)
  have HZ := Lib.hid (fun W h => r14size_c T T0 T1 ts hts A n c hn W h)
  have HR := Lib.hid hrd
  have HS := Lib.hid (TbS.new w T A n c)
  cases hr : tabR T ts
  · rw [hr] at HC
    have HE := Lib.hid (ow_no (T := T) (u := u) hr)
    clear hrd hts hr
    go_enter Tryz.func20, Tryz.ntmps20
    go_wp2_with (first
      | (go_at_call 17; (with_reducible refine (HC.out _ (HS.out.pr HR.out)).mono ?_); rintro e w1 ⟨rfl, hb1⟩; have HS1 := Lib.hid (HS.out.below hb1); have c0 := HS1.out.c0; have c1 := HS1.out.c1))
    go_ret2
    exact ⟨ret_iiT HE.out.2.symm HE.out.1.symm, HS1.out.bel⟩
  rw [hr] at HC
  have hz : tabZ T ts = (ts.length : Int) * T := by unfold tabZ; rw [if_pos hr]
  rw [hz] at HZ
  by_cases hu : u < (ts.length : Int) * T
  · obtain ⟨h1, h2, h3, q0, q1, r0, r1⟩ := ow_ok hr u0 hu
    have hT := (tabR_iff.1 hr).2.1
    have HL := Lib.hid (fun W h => r14lookup_c T T0 T1 ts hts A n c hn W h (u / T) (u % T) (by omega) (by unfold maxLen at hn; omega) r0 (by omega))
    have hnz : (0 : Int) < T := hT
    have tN : T ≠ 0 := by omega
    have e1 : u.tdiv T = u / T := Int.tdiv_eq_ediv_of_nonneg u0
    have e2 : u.tmod T = u % T := Int.tmod_eq_emod_of_nonneg u0
    have HV : Hid (lkV T ts (u / T) (u % T) = owV T ts u ∧ lkE T ts (u / T) (u % T) = owE T ts u) := Lib.hid ⟨h2.symm, h3.trans h1.symm⟩
    obtain ⟨q, hq⟩ : ∃ q, u / T = q := ⟨_, rfl⟩
    obtain ⟨r, hr2⟩ : ∃ q, u % T = q := ⟨_, rfl⟩
    rw [hq, hr2] at HL HV
    rw [hq] at q0 q1 e1
    rw [hr2] at r0 r1 e2
    have e3 : IntKind.i64.wrap q = q := by rw [IntKind.wrap_i64]; unfold maxLen at hn; omega
    have e4 : IntKind.u64.wrap q = q := by rw [IntKind.wrap_u64]; unfold maxLen at hn; omega
    have e5 : IntKind.u64.wrap r = r := by rw [IntKind.wrap_u64]; omega
    obtain ⟨Z, hZ⟩ : ∃ Z, (ts.length : Int) * T = Z := ⟨_, rfl⟩
    rw [hZ] at hu HZ
    clear hrd hts hr h1 h2 h3 hq hr2 hz hZ hn
    go_enter Tryz.func20, Tryz.ntmps20
    go_wp2_with (first
      | (go_at_call 17; (with_reducible refine (HC.out _ (HS.out.pr HR.out)).mono ?_); rintro e w1 ⟨rfl, hb1⟩; have HS1 := Lib.hid (HS.out.below hb1); have c0 := HS1.out.c0; have c1 := HS1.out.c1)
      | (go_at_call 19; (with_reducible refine (HZ.out _ (HS1.out.pr HR.out)).mono ?_); rintro e w2 ⟨rfl, hb2⟩; have HS2 := Lib.hid (HS1.out.below hb2); clear hb2 c0 c1))
    have hD := HS2.out.drew
    refine wp_region_held_drew (S := (TbS w w.heap.size T A n c)) (by kernel_rfl) hD (fun hH => ?_)
    refine wpAnyH_letter #[false, false, false, false, false, false, false, false, false, false, false, false, false, false, false] (by kernel_rfl) (fun _ _ d _ _ h => by cases d <;> exact h) (fun QL HQ1 HQ2 => ?_)
    refine held_row 0 (some 13) rfl (by kernel_rfl) (by kernel_rfl) (by kernel_rfl) (by kernel_rfl) (fun c a v w h => HQ2.out c a _ v w h) (by kernel_rfl) 25 (.tmp 2) rfl w.heap.size (by kernel_rfl) 25 #[.int .u64 T, .slice A n c] (fun _ h => h.b) _ Tryz.underlying25 rfl size_tab hD ?_
    try simp only [Act.put, List.setIfInBounds_toArray, List.set_cons_zero, List.set_cons_succ]
    refine held_v 1 (some 14) rfl (by kernel_rfl) (by kernel_rfl) (by kernel_rfl) (by kernel_rfl) (fun c a v w h => HQ2.out c a _ v w h) (by kernel_rfl) (.int .u64 u) (fun W h => by kernel_rfl) hD ?_
    try simp only [Act.put, List.setIfInBounds_toArray, List.set_cons_zero, List.set_cons_succ]
    refine held_v 2 (some 15) rfl (by kernel_rfl) (by kernel_rfl) (by kernel_rfl) (by kernel_rfl) (fun c a v w h => HQ2.out c a _ v w h) (by kernel_rfl) (.pointer (some ⟨w.heap.size, 0, none⟩)) (fun W h => by kernel_rfl) hD ?_
    try simp only [Act.put, List.setIfInBounds_toArray, List.set_cons_zero, List.set_cons_succ]
    refine held_v 3 (some 16) rfl (by kernel_rfl) (by kernel_rfl) (by kernel_rfl) (by kernel_rfl) (fun c a v w h => HQ2.out c a _ v w h) (by kernel_rfl) (.int .u64 T) (fun W h => by have p := h.c0; go_simp) hD ?_
    try simp only [Act.put, List.setIfInBounds_toArray, List.set_cons_zero, List.set_cons_succ]
    refine held_v 4 (some 17) rfl (by kernel_rfl) (by kernel_rfl) (by kernel_rfl) (by kernel_rfl) (fun c a v w h => HQ2.out c a _ v w h) (by kernel_rfl) (.int .u64 q) (fun W h => by have p := e1; have p2 := tN; have p3 := e4; go_simp) hD ?_
    try simp only [Act.put, List.setIfInBounds_toArray, List.set_cons_zero, List.set_cons_succ]
    refine held_v 5 (some 18) rfl (by kernel_rfl) (by kernel_rfl) (by kernel_rfl) (by kernel_rfl) (fun c a v w h => HQ2.out c a _ v w h) (by kernel_rfl) (.int .i64 q) (fun W h => by have p := e3; go_simp) hD ?_
    try simp only [Act.put, List.setIfInBounds_toArray, List.set_cons_zero, List.set_cons_succ]
    refine held_v 6 (some 19) rfl (by kernel_rfl) (by kernel_rfl) (by kernel_rfl) (by kernel_rfl) (fun c a v w h => HQ2.out c a _ v w h) (by kernel_rfl) (.int .u64 u) (fun W h => by kernel_rfl) hD ?_
    try simp only [Act.put, List.setIfInBounds_toArray, List.set_cons_zero, List.set_cons_succ]
    refine held_v 7 (some 20) rfl (by kernel_rfl) (by kernel_rfl) (by kernel_rfl) (by kernel_rfl) (fun c a v w h => HQ2.out c a _ v w h) (by kernel_rfl) (.pointer (some ⟨w.heap.size, 0, none⟩)) (fun W h => by kernel_rfl) hD ?_
    try simp only [Act.put, List.setIfInBounds_toArray, List.set_cons_zero, List.set_cons_succ]
    refine held_v 8 (some 21) rfl (by kernel_rfl) (by kernel_rfl) (by kernel_rfl) (by kernel_rfl) (fun c a v w h => HQ2.out c a _ v w h) (by kernel_rfl) (.int .u64 T) (fun W h => by have p := h.c0; go_simp) hD ?_
    try simp only [Act.put, List.setIfInBounds_toArray, List.set_cons_zero, List.set_cons_succ]
    refine held_v 9 (some 22) rfl (by kernel_rfl) (by kernel_rfl) (by kernel_rfl) (by kernel_rfl) (fun c a v w h => HQ2.out c a _ v w h) (by kernel_rfl) (.int .u64 r) (fun W h => by have p := e2; have p2 := tN; have p3 := e5; go_simp) hD ?_
    try simp only [Act.put, List.setIfInBounds_toArray, List.set_cons_zero, List.set_cons_succ]
    refine wpAnyH_ready (rs := [10]) (by kernel_rfl) (by decide) ?_
    refine AllReadyH.cons rfl (fun K hK => ?_) AllReadyH.nil
    refine step_call (some 23) (by kernel_rfl) (by kernel_rfl) _ _ (by kernel_rfl) _ (HL.out _ (hD.pr HR.out)) ?_
    rintro e w41 ⟨rfl, hbw41⟩
    refine ⟨_, rfl, ?_⟩
    refine hK.out _ _ (hD.below hbw41) (fun hw41 => ?_)
    clear hK K
    try simp only [Act.put, List.setIfInBounds_toArray, List.set_cons_zero, List.set_cons_succ]
    refine held_v 11 (some 24) rfl (by kernel_rfl) (by kernel_rfl) (by kernel_rfl) (by kernel_rfl) (fun c a v w h => HQ2.out c a _ v w h) (by kernel_rfl) (.int .i64 (lkV T ts q r)) (fun W h => by kernel_rfl) hw41 ?_
    try simp only [Act.put, List.setIfInBounds_toArray, List.set_cons_zero, List.set_cons_succ]
    refine held_v 12 (some 25) rfl (by kernel_rfl) (by kernel_rfl) (by kernel_rfl) (by kernel_rfl) (fun c a v w h => HQ2.out c a _ v w h) (by kernel_rfl) (.int .i64 (lkE T ts q r)) (fun W h => by kernel_rfl) hw41 ?_
    try simp only [Act.put, List.setIfInBounds_toArray, List.set_cons_zero, List.set_cons_succ]
    refine held_v 13 (some 4) rfl (by kernel_rfl) (by kernel_rfl) (by kernel_rfl) (by kernel_rfl) (fun c a v w h => HQ2.out c a _ v w h) (by kernel_rfl) (.int .i64 (lkV T ts q r)) (fun W h => by kernel_rfl) hw41 ?_
    try simp only [Act.put, List.setIfInBounds_toArray, List.set_cons_zero, List.set_cons_succ]
    refine held_v 14 (some 5) rfl (by kernel_rfl) (by kernel_rfl) (by kernel_rfl) (by kernel_rfl) (fun c a v w h => HQ2.out c a _ v w h) (by kernel_rfl) (.int .i64 (lkE T ts q r)) (fun W h => by kernel_rfl) hw41 ?_
    try simp only [Act.put, List.setIfInBounds_toArray, List.set_cons_zero, List.set_cons_succ]
    refine wpAnyH_done (by kernel_rfl) ?_ _
    refine HQ1.out _ _ ?_
    clear HQ1 HQ2
    go_wp2_with fail
    go_ret2
    exact ⟨ret_iiT HV.out.1 HV.out.2, hw41.bel⟩
  · have HE := Lib.hid (ow_big hr hu)
    obtain ⟨Z, hZ⟩ : ∃ Z, (ts.length : Int) * T = Z := ⟨_, rfl⟩
    rw [hZ] at hu HZ
    clear hrd hts hr hz hZ
    go_enter Tryz.func20, Tryz.ntmps20
    go_wp2_with (first
      | (go_at_call 17; (with_reducible refine (HC.out _ (HS.out.pr HR.out)).mono ?_); rintro e w1 ⟨rfl, hb1⟩; have HS1 := Lib.hid (HS.out.below hb1); have c0 := HS1.out.c0; have c1 := HS1.out.c1)
      | (go_at_call 19; (with_reducible refine (HZ.out _ (HS1.out.pr HR.out)).mono ?_); rintro e w2 ⟨rfl, hb2⟩; have HS2 := Lib.hid (HS1.out.below hb2)))
    go_ret2
    exact ⟨ret_iiT HE.out.2.symm HE.out.1.symm, HS2.out.bel⟩
end
end Go.Proofs.YtomkidgmpbjgeaaGreatDoor
/-
  What the reference's Draw of stage 15 returns, and that memory is left as it was.
  Conditions: the arguments lie in their types' ranges; the table has at most 1000 cells.
-/
set_option maxRecDepth 100000
set_option linter.unusedVariables false
set_option linter.unusedSimpArgs false
namespace Go.Proofs.YtomkidgmpbjgeaaGreatDoor
open Go.ChangeShapes Go.WideShapes Go.ChangeAt Go.RowKit
theorem tb_later {v0 : World} {g : Nat} {t : TypeId} {cs : Array Value} (h : Blk v0 g t cs) : ∀ W, Below v0.heap.size v0 W → Blk W g t cs := fun _ hb => h.below hb h.lt
theorem pr_later {w v0 : World} {A : Option Addr} {n : Nat} {ts : List (Int × Int)} (h : RdPr .u64 .i64 w w.heap.size A n ts) (h0 : Below w.heap.size w v0) : ∀ W, Below v0.heap.size v0 W → RdPr .u64 .i64 W W.heap.size A n ts := fun _ hb => h.to (h0.trans (hb.mono h0.size))
set_option maxHeartbeats 16000000 in
theorem r15draw_c (T : Int) (T0 : 0 ≤ T) (T1 : T < 18446744073709551616) (ts : List (Int × Int)) (hts : PrOk ts) (A : Option Addr) (n c : Nat) (hn : n ≤ 1000) (s : Src) (ok : s.Ok) (a : Int) (a0 : -9223372036854775808 ≤ a) (a1 : a < 9223372036854775808) (A0 : Option Addr) (c0 : Nat) (hc : s.tape.length ≤ c0) (hcm : c0 ≤ maxLen) (w : World) (hrp : RdPr .u64 .i64 w w.heap.size A n ts) (hrd : Rd .u8 w w.heap.size A0 s.tape.length s.tape) :
    Calls Tryz.prog 7 #[.agg #[.int .u64 T, .slice A n c], .agg (srcV s A0 c0), .int .i64 a] w (RetLead w s A0 (pikT T ts s a)) := by
  have HZ0 := Lib.hid zero_src
  have hRd := Lib.hid hrd
  have hPr := Lib.hid hrp
  have hlt := hrp.len
  have HZSS := Lib.hid (fun (t : Src) (h : t.seed.length = 32) A c => srcV_same Src.zero t rfl h none A 0 c)
  have hnm : n ≤ maxLen := by unfold maxLen; omega
  have hri := fun W h => r14right_c T T0 T1 ts hts A n c hnm W h
  obtain ⟨Z, hZ⟩ : ∃ Z, srcV Src.zero none 0 = Z := ⟨_, rfl⟩
  rw [hZ] at HZ0 HZSS
  have SV := Lib.hid (sizedS s ok.sl A0 c0)
  have OV := Lib.hid (srcV_ones s A0 c0)
  have ZV := Lib.hid (HZSS.out s ok.sl A0 c0)
  cases hr : tabR T ts with
  | false =>
    rw [pikT_bad s a hr]
    rw [hr] at hri
    have HRT := Lib.hid hri
    have HEND0 : Hid (∀ V0, Below w.heap.size w V0 → ∀ w', RdP A0 s.tape.length s.tape w' → Below V0.heap.size V0 w' → RetLead w s A0 (0, s, 1) (.returned (.tuple #[.int .i64 0, .agg (srcV s A0 c0), .int .i64 1])) w') := Lib.hid (fun V0 h0 w' hr hb => ⟨A0, c0, rfl, hr, hc, hcm, .inl rfl, h0.trans (hb.mono h0.size)⟩)
    obtain ⟨rr, hrr⟩ : ∃ r : Int × Src × Int, (0, s, 1) = r := ⟨_, rfl⟩
    rw [hrr] at HEND0 ⊢
    obtain ⟨V, hV⟩ : ∃ V, srcV s A0 c0 = V := ⟨_, rfl⟩
    rw [hV] at SV OV ZV HEND0 ⊢
    obtain ⟨zs, hzs⟩ : ∃ zs, s.tape = zs := ⟨_, rfl⟩
    obtain ⟨L, hL⟩ : ∃ L, zs.length = L := ⟨_, rfl⟩
    rw [hzs, hL] at HEND0
    rw [hzs, hL] at hRd
    have HEND := HEND0
    clear HEND0 hrr hV hzs hL hri hr hts hrd hrp hc hcm hZ hn hnm a0 a1 HZSS T0 T1 hlt
    go_enter Tryz.func7, Tryz.ntmps7
    go_wp2_with (first
      | (with_reducible refine at_any ?_; refine at_dst 3 rfl ?_; refine wpList_box_any rfl 25 (.tmp 0) rfl #[.int .u64 T, .slice A n c] rfl ?_; intro v0 hk0 hs0 hb0; have HB0 := Lib.hid hb0; have HRD0 := Lib.hid ((Rd.below hRd.out hb0).mono hb0.size); have HTB := Lib.hid (tb_later hk0.out); have HPR := Lib.hid (pr_later hPr.out hb0); clear hs0 hb0)
      | (with_reducible refine at_any ?_; refine at_dst 4 rfl ?_; refine wpList_box_any rfl 30 (.tmp 1) rfl V rfl ?_; intro w1 hk1 hs1 hb1)
      | (with_reducible refine at_any ?_; refine at_dst 7 rfl ?_; refine wpList_alloc_any rfl 30 rfl Z HZ0.out ?_; intro w2 hk2 hs2 hb2; have HS2 := DrS.mk2 HRD0.out hk1.out hb1 hk2.out hb2 (Below.refl _ _); have HZ2 := fx1 hk2.out; have HBT := Lib.hid (HTB.out _ HS2.bel); have HPT := Lib.hid (HPR.out _ HS2.bel); clear hs1 hb1 hs2 hb2)
      | (with_reducible refine at_any ?_; refine at_dst 14 rfl ?_; refine wpList_load_tab (by kernel_rfl) (.tmp 3) rfl w.heap.size rfl 25 (.int .u64 T) (.slice A n c) HBT.out ?_)
      | (go_at_call 17; (with_reducible refine (HRT.out _ HPT.out).mono ?_); rintro e w3 ⟨rfl, hb3⟩; have HS := HS2.below hb3; have HZ := HZ2.below hb3; clear hb3 HS2 HZ2))
    obtain ⟨gb, hgb⟩ : ∃ g, w.heap.size = g := ⟨_, rfl⟩
    obtain ⟨g4, hg4⟩ : ∃ g, v0.heap.size = g := ⟨_, rfl⟩
    obtain ⟨g7, hg7⟩ : ∃ g, w1.heap.size = g := ⟨_, rfl⟩
    rw [hg4, hg7] at HS
    rw [hg7] at HZ
    rw [hgb] at HTB HBT
    rw [hgb, hg4, hg7]
    clear hgb hg4 hg7 hk1 hk2 HBT HPT
    have HZ7 := HZ.drew
    refine wp_region_held_drew (S := (DrS v0 g4 g7 V A0 L zs)) (by kernel_rfl) HS.drew (fun hH => ?_)
    refine wpAnyH_letter #[false, false, false, false] (by kernel_rfl) (fun _ _ d _ _ h => by cases d <;> exact h) (fun QL HQ1 HQ2 => ?_)
    refine held_row 0 (some 17) rfl (by kernel_rfl) (by kernel_rfl) (by kernel_rfl) (by kernel_rfl) (fun c a v w h => HQ2.out c a _ v w h) (by kernel_rfl) 30 (.tmp 4) rfl g4 (by kernel_rfl) 30 V (fun _ h => h.blk) _ Tryz.underlying30 rfl SV.out hH ?_
    try simp only [Act.put, List.setIfInBounds_toArray, List.set_cons_zero, List.set_cons_succ]
    refine held_v 1 (some 6) rfl (by kernel_rfl) (by kernel_rfl) (by kernel_rfl) (by kernel_rfl) (fun c a v w h => HQ2.out c a _ v w h) (by kernel_rfl) (.int .i64 0) (fun W h => by kernel_rfl) hH ?_
    try simp only [Act.put, List.setIfInBounds_toArray, List.set_cons_zero, List.set_cons_succ]
    refine wpAnyH_ready (rs := [2]) (by kernel_rfl) (by decide) ?_
    refine AllReadyH.cons rfl (fun K hK => ?_) AllReadyH.nil
    refine step_store none (by kernel_rfl) (by kernel_rfl) 30 (.tmp 7) (.tmp 17) rfl g7 (by kernel_rfl) 30 Z V HZ7.1 (by kernel_rfl) ZV.out SV.out OV.out ?_
    intro w41 hkw41 hsw41 hbw41 how41
    have ex42 : Fx [.blk g7 30 V] w41 := ⟨hkw41.out, trivial⟩
    refine hK.out _ _ (hH.store HZ7.1 hH.store7 hsw41.out hbw41 how41) (fun hw41 => ?_)
    clear hK K
    try simp only [Act.put, List.setIfInBounds_toArray, List.set_cons_zero, List.set_cons_succ]
    refine held_v 3 (some 8) rfl (by kernel_rfl) (by kernel_rfl) (by kernel_rfl) (by kernel_rfl) (fun c a v w h => HQ2.out c a _ v w h) (by kernel_rfl) (.int .i64 1) (fun W h => by kernel_rfl) hw41 ?_
    try simp only [Act.put, List.setIfInBounds_toArray, List.set_cons_zero, List.set_cons_succ]
    refine wpAnyH_done (by kernel_rfl) ?_ _
    refine HQ1.out _ _ ?_
    clear HQ1 HQ2
    go_wp2_with (refine bodyPost_mid 6 7 8 30 rfl g7 rfl (.int .i64 0) (.int .i64 1) rfl rfl 30 V ex42.1 _ Tryz.underlying30 rfl SV.out rfl ?_)
    exact HEND.out _ HB0.out _ hw41.rd hw41.bel
  | true =>
    rw [pikT_go s a hr]
    rw [hr] at hri
    have HRT := Lib.hid hri
    obtain ⟨q0, q1, q2, -⟩ := tabR_iff.1 hr
    have hZe : tabZ T ts = (ts.length : Int) * T := if_pos hr
    have z1 : 0 ≤ tabZ T ts := by rw [hZe]; exact Int.mul_nonneg (by omega) (by omega)
    have z2 : tabZ T ts < 18446744073709551616 := by rw [hZe]; omega
    have hsz := fun W h => r14size_c T T0 T1 ts hts A n c hnm W h
    have hdr := fun W h => r8draw_c s ok (tabZ T ts) z1 z2 a a0 a1 A0 c0 hc hcm W h
    have okt : (drawT s (tabZ T ts) a).Ok := drawT_ok s (tabZ T ts) a ok
    have how := fun W h => r14owner_c T T0 T1 ts hts A n c hnm W h (drawR s (tabZ T ts) a).1 (draw_in s (tabZ T ts) a).1 (draw_in s (tabZ T ts) a).2
    have HEND0 : Hid (∀ V0, Below w.heap.size w V0 → ∀ A2 c2 w', Sep V0 A0 A2 → s.tape.length ≤ c2 → c2 ≤ maxLen → RdP A2 s.tape.length s.tape w' → Below V0.heap.size V0 w' → RetLead w s A0 (pikGo T ts (drawR s (tabZ T ts) a)) (.returned (.tuple #[.int .i64 (pikGo T ts (drawR s (tabZ T ts) a)).1, .agg (srcV (pikGo T ts (drawR s (tabZ T ts) a)).2.1 A2 c2), .int .i64 (pikGo T ts (drawR s (tabZ T ts) a)).2.2])) w') := Lib.hid (fun V0 h0 A2 c2 w' h1 h2 h3 h4 h5 => ⟨A2, c2, rfl, h4, h2, h3, sep_from h1 h0.size, h0.trans (h5.mono h0.size)⟩)
    have hgo : (drawR s (tabZ T ts) a).2.2 = 0 → pikGo T ts (drawR s (tabZ T ts) a) = (owV T ts (drawR s (tabZ T ts) a).1, (drawR s (tabZ T ts) a).2.1, 0) := fun h => if_pos h
    have hgn : (drawR s (tabZ T ts) a).2.2 ≠ 0 → pikGo T ts (drawR s (tabZ T ts) a) = (0, (drawR s (tabZ T ts) a).2.1, (drawR s (tabZ T ts) a).2.2) := fun h => if_neg h
    obtain ⟨N, hN⟩ : ∃ x, tabZ T ts = x := ⟨_, rfl⟩
    rw [hN] at hsz hdr okt how HEND0 hgo hgn ⊢
    obtain ⟨t, ht⟩ : ∃ x, drawT s N a = x := ⟨_, rfl⟩
    have ht2 : (drawR s N a).2.1 = t := ht
    obtain ⟨x, hx⟩ : ∃ x, (drawR s N a).1 = x := ⟨_, rfl⟩
    obtain ⟨E, hE⟩ : ∃ x, (drawR s N a).2.2 = x := ⟨_, rfl⟩
    rw [ht] at okt
    unfold RetDraw at hdr
    rw [ht2, hx, hE] at hdr hgo
    rw [ht2, hE] at hgn
    rw [hx] at how
    have HSZ := Lib.hid hsz
    have HDR0 := Lib.hid hdr
    have ST := Lib.hid (fun A c => sizedS t okt.sl A c)
    have OT := Lib.hid (fun A c => srcV_ones t A c)
    have ZT := Lib.hid (fun A c => HZSS.out t okt.sl A c)
    obtain ⟨ov, hov⟩ : ∃ y, owV T ts x = y := ⟨_, rfl⟩
    obtain ⟨oe, hoe⟩ : ∃ y, owE T ts x = y := ⟨_, rfl⟩
    rw [hov, hoe] at how
    rw [hov] at hgo
    have HOW := Lib.hid how
    by_cases hE0 : E = 0
    · have e1 := hgo hE0
      rw [e1] at HEND0 ⊢
      have t2 : (E == 0) = true := by rw [beq_iff_eq]; exact hE0
      have t3 : (E != 0) = false := by rw [bne, t2]; rfl
      obtain ⟨rr, hrr⟩ : ∃ r : Int × Src × Int, (ov, t, 0) = r := ⟨_, rfl⟩
      have HEND1 : Hid (∀ V0, Below w.heap.size w V0 → ∀ A2 c2 w', Sep V0 A0 A2 → s.tape.length ≤ c2 → c2 ≤ maxLen → RdP A2 s.tape.length s.tape w' → Below V0.heap.size V0 w' → RetLead w s A0 rr (.returned (.tuple #[.int .i64 ov, .agg (srcV t A2 c2), .int .i64 0])) w') := by rw [← hrr]; exact HEND0
      rw [hrr]
      obtain ⟨V, hV⟩ : ∃ V, srcV s A0 c0 = V := ⟨_, rfl⟩
      rw [hV] at SV OV ZV HDR0 ⊢
      obtain ⟨zs, hzs⟩ : ∃ zs, s.tape = zs := ⟨_, rfl⟩
      obtain ⟨L, hL⟩ : ∃ L, zs.length = L := ⟨_, rfl⟩
      rw [hzs, hL] at HEND1 HDR0
      rw [hzs, hL] at hRd
      have HDR := HDR0
      have HEND := HEND1
      clear HEND1 HEND0 HDR0 hrr hV hzs hL hri hr hts hrd hrp hc hcm hZ hn hnm a0 a1 HZSS T0 T1 hlt hdr how hgo hgn e1 hov hoe hx hE ht ht2 hN okt hsz hZe z1 z2 q0 q1 q2 hE0
      go_enter Tryz.func7, Tryz.ntmps7
      go_wp2_with (first
        | (with_reducible refine at_any ?_; refine at_dst 3 rfl ?_; refine wpList_box_any rfl 25 (.tmp 0) rfl #[.int .u64 T, .slice A n c] rfl ?_; intro v0 hk0 hs0 hb0; have HB0 := Lib.hid hb0; have HRD0 := Lib.hid ((Rd.below hRd.out hb0).mono hb0.size); have HTB := Lib.hid (tb_later hk0.out); have HPR := Lib.hid (pr_later hPr.out hb0); clear hs0 hb0)
        | (with_reducible refine at_any ?_; refine at_dst 4 rfl ?_; refine wpList_box_any rfl 30 (.tmp 1) rfl V rfl ?_; intro w1 hk1 hs1 hb1)
        | (with_reducible refine at_any ?_; refine at_dst 7 rfl ?_; refine wpList_alloc_any rfl 30 rfl Z HZ0.out ?_; intro w2 hk2 hs2 hb2; have HS2 := DrS.mk2 HRD0.out hk1.out hb1 hk2.out hb2 (Below.refl _ _); have HZ2 := fx1 hk2.out; have HBT := Lib.hid (HTB.out _ HS2.bel); have HPT := Lib.hid (HPR.out _ HS2.bel); clear hs1 hb1 hs2 hb2)
        | (with_reducible refine at_any ?_; refine at_dst 14 rfl ?_; refine wpList_load_tab (by kernel_rfl) (.tmp 3) rfl w.heap.size rfl 25 (.int .u64 T) (.slice A n c) HBT.out ?_)
        | (go_at_call 17; (with_reducible refine (HRT.out _ HPT.out).mono ?_); rintro e w3 ⟨rfl, hb3⟩; have HS := HS2.below hb3; have HZ := HZ2.below hb3; clear hb3 HS2 HZ2))
      obtain ⟨gb, hgb⟩ : ∃ g, w.heap.size = g := ⟨_, rfl⟩
      obtain ⟨g4, hg4⟩ : ∃ g, v0.heap.size = g := ⟨_, rfl⟩
      obtain ⟨g7, hg7⟩ : ∃ g, w1.heap.size = g := ⟨_, rfl⟩
      rw [hg4, hg7] at HS
      rw [hg7] at HZ
      rw [hgb] at HTB HBT
      rw [hgb, hg4, hg7]
      clear hgb hg4 hg7 hk1 hk2 HBT HPT
      have HZ7 := HZ.drew
      refine wp_region_held_drew (S := (DrS v0 g4 g7 V A0 L zs)) (by kernel_rfl) HS.drew (fun hH => ?_)
      refine wpAnyH_letter #[false, false, false, false, false, false, false, false, false, false, false, false, false] (by kernel_rfl) (fun _ _ d _ _ h => by cases d <;> exact h) (fun QL HQ1 HQ2 => ?_)
      refine held_row 0 (some 19) rfl (by kernel_rfl) (by kernel_rfl) (by kernel_rfl) (by kernel_rfl) (fun c a v w h => HQ2.out c a _ v w h) (by kernel_rfl) 30 (.tmp 4) rfl g4 (by kernel_rfl) 30 V (fun _ h => h.blk) _ Tryz.underlying30 rfl SV.out hH ?_
      try simp only [Act.put, List.setIfInBounds_toArray, List.set_cons_zero, List.set_cons_succ]
      refine held_row 1 (some 20) rfl (by kernel_rfl) (by kernel_rfl) (by kernel_rfl) (by kernel_rfl) (fun c a v w h => HQ2.out c a _ v w h) (by kernel_rfl) 25 (.tmp 3) rfl gb (by kernel_rfl) 25 #[.int .u64 T, .slice A n c] (fun _ h => (HTB.out _ (h).bel)) _ Tryz.underlying25 rfl (sizedT _ _) hH ?_
      try simp only [Act.put, List.setIfInBounds_toArray, List.set_cons_zero, List.set_cons_succ]
      refine held_v 3 (some 22) rfl (by kernel_rfl) (by kernel_rfl) (by kernel_rfl) (by kernel_rfl) (fun c a v w h => HQ2.out c a _ v w h) (by kernel_rfl) (.int .i64 a) (fun W h => by kernel_rfl) hH ?_
      try simp only [Act.put, List.setIfInBounds_toArray, List.set_cons_zero, List.set_cons_succ]
      refine wpAnyH_ready (rs := [2, 9]) (by kernel_rfl) (by decide) ?_
      refine AllReadyH.cons rfl (fun K hK => ?_) (AllReadyH.cons rfl (fun K hK => ?_) AllReadyH.nil)
      · refine step_call (some 21) (by kernel_rfl) (by kernel_rfl) _ _ (by kernel_rfl) _ (HSZ.out _ (HPR.out _ hH.bel)) ?_
        rintro e w41 ⟨rfl, hbw41⟩
        have ex42 := HZ7.below hbw41
        refine ⟨_, rfl, ?_⟩
        refine hK.out _ _ (hH.below hbw41) (fun hw41 => ?_)
        clear hK K
        try simp only [Act.put, List.setIfInBounds_toArray, List.set_cons_zero, List.set_cons_succ]
        refine wpAnyH_ready (rs := [4, 9]) (by kernel_rfl) (by decide) ?_
        refine AllReadyH.cons rfl (fun K hK => ?_) (AllReadyH.cons rfl (fun K hK => ?_) AllReadyH.nil)
        · refine step_call (some 23) (by kernel_rfl) (by kernel_rfl) _ _ (by kernel_rfl) _ (HDR.out w41 hw41.rd.rd) ?_
          rintro e w43 ⟨A2, c2, rfl, hrd2, hc2, hm2, hsp2, hbw43⟩
          have hSP : Hid (Sep v0 A0 A2) := Lib.hid (sep_from hsp2 hw41.bel.size)
          have hA27 := Lib.hid (Apt.of_sep hsp2 hw41.apt7 hw41.lt7)
          have hC2 := Lib.hid hc2
          have hM2 := Lib.hid hm2
          have ex44 := ex42.below hbw43
          have ex45 : RdP A2 L zs w43 := hrd2
          clear hrd2 hc2 hm2 hsp2
          refine ⟨_, rfl, ?_⟩
          refine hK.out _ _ (hw41.below hbw43) (fun hw43 => ?_)
          clear hK K
          try simp only [Act.put, List.setIfInBounds_toArray, List.set_cons_zero, List.set_cons_succ]
          refine held_v 5 (some 18) rfl (by kernel_rfl) (by kernel_rfl) (by kernel_rfl) (by kernel_rfl) (fun c a v w h => HQ2.out c a _ v w h) (by kernel_rfl) (.tuple #[.int .u64 x, .agg (srcV t A2 c2), .int .i64 E]) (fun W h => by kernel_rfl) hw43 ?_
          try simp only [Act.put, List.setIfInBounds_toArray, List.set_cons_zero, List.set_cons_succ]
          refine held_v 6 (some 24) rfl (by kernel_rfl) (by kernel_rfl) (by kernel_rfl) (by kernel_rfl) (fun c a v w h => HQ2.out c a _ v w h) (by kernel_rfl) (.int .u64 x) (fun W h => by kernel_rfl) hw43 ?_
          try simp only [Act.put, List.setIfInBounds_toArray, List.set_cons_zero, List.set_cons_succ]
          refine held_v 7 (some 25) rfl (by kernel_rfl) (by kernel_rfl) (by kernel_rfl) (by kernel_rfl) (fun c a v w h => HQ2.out c a _ v w h) (by kernel_rfl) (.agg (srcV t A2 c2)) (fun W h => by kernel_rfl) hw43 ?_
          try simp only [Act.put, List.setIfInBounds_toArray, List.set_cons_zero, List.set_cons_succ]
          refine held_v 8 (some 26) rfl (by kernel_rfl) (by kernel_rfl) (by kernel_rfl) (by kernel_rfl) (fun c a v w h => HQ2.out c a _ v w h) (by kernel_rfl) (.int .i64 E) (fun W h => by kernel_rfl) hw43 ?_
          try simp only [Act.put, List.setIfInBounds_toArray, List.set_cons_zero, List.set_cons_succ]
          refine wpAnyH_ready (rs := [9]) (by kernel_rfl) (by decide) ?_
          refine AllReadyH.cons rfl (fun K hK => ?_) AllReadyH.nil
          refine step_alloc (some 10) (by kernel_rfl) (by kernel_rfl) 30 rfl Z HZ0.out ?_
          intro w46 hkw46 hsw46 hbw46
          obtain ⟨g10, hg10⟩ : ∃ g, w43.heap.size = g := ⟨_, rfl⟩
          have hAo11 := Apt.of_lt (g := g10) hw43.rd.rd (Nat.le_of_eq hg10)
          have hn3 : g4 ≠ g10 := by have := hw43.lt3; omega
          have hn7 : g7 ≠ g10 := by have := hw43.lt7; omega
          have hle11 : v0.heap.size ≤ g10 := by have := hw43.bel.size; omega
          have hA11 := Apt.of_lt (g := g10) ex45.rd (Nat.le_of_eq hg10)
          rw [hg10] at hkw46
          rw [hg10]
          have ex47 := ex44.below hbw46
          have ex48 := ex45.below hbw46
          have ex49 : Fx [.blk g10 30 Z] w46 := ⟨hkw46.out, trivial⟩
          refine hK.out _ _ (hw43.below hbw46) (fun hw46 => ?_)
          clear hK K
          try simp only [Act.put, List.setIfInBounds_toArray, List.set_cons_zero, List.set_cons_succ]
          refine held_v 10 (some 9) rfl (by kernel_rfl) (by kernel_rfl) (by kernel_rfl) (by kernel_rfl) (fun c a v w h => HQ2.out c a _ v w h) (by kernel_rfl) (.int .u64 x) (fun W h => by kernel_rfl) hw46 ?_
          try simp only [Act.put, List.setIfInBounds_toArray, List.set_cons_zero, List.set_cons_succ]
          refine wpAnyH_ready (rs := [11]) (by kernel_rfl) (by decide) ?_
          refine AllReadyH.cons rfl (fun K hK => ?_) AllReadyH.nil
          refine step_store none (by kernel_rfl) (by kernel_rfl) 30 (.tmp 10) (.tmp 25) rfl g10 (by kernel_rfl) 30 Z (srcV t A2 c2) ex49.1 (by kernel_rfl) (ZT.out _ _) (ST.out _ _) (OT.out _ _) ?_
          intro w50 hkw50 hsw50 hbw50 how50
          have ex51 := ex47.store ex49.1 ⟨hn7, trivial⟩ hsw50.out hbw50 how50
          have ex52 := ex48.store ex49.1 hA11 hsw50.out hbw50 how50
          have ex53 : Fx [.blk g10 30 (srcV t A2 c2)] w50 := ⟨hkw50.out, trivial⟩
          refine hK.out _ _ (hw46.store ex49.1 ⟨hn3, hAo11, hle11⟩ hsw50.out hbw50 how50) (fun hw50 => ?_)
          clear hK K
          try simp only [Act.put, List.setIfInBounds_toArray, List.set_cons_zero, List.set_cons_succ]
          refine held_v 12 (some 11) rfl (by kernel_rfl) (by kernel_rfl) (by kernel_rfl) (by kernel_rfl) (fun c a v w h => HQ2.out c a _ v w h) (by kernel_rfl) (.int .i64 E) (fun W h => by kernel_rfl) hw50 ?_
          try simp only [Act.put, List.setIfInBounds_toArray, List.set_cons_zero, List.set_cons_succ]
          refine wpAnyH_done (by kernel_rfl) ?_ _
          refine HQ1.out _ _ ?_
          clear HQ1 HQ2
          have H10' : Hid (Blk w50 g10 30 (srcV t A2 c2)) := Lib.hid ex53.1
          have HH2' := Lib.hid (fun w' h3 h4 => HEND.out _ HB0.out A2 c2 w' hSP.out hC2.out hM2.out h3 h4)
          have SV2' := Lib.hid (ST.out A2 c2)
          have OV2' := Lib.hid (OT.out A2 c2)
          have ZV2' := Lib.hid (ZT.out A2 c2)
          obtain ⟨V2, hV2⟩ : ∃ V2, srcV t A2 c2 = V2 := ⟨_, rfl⟩
          rw [hV2] at H10' HH2' SV2' OV2' ZV2' ⊢
          have H10 := H10'
          have HH2 := HH2'
          have SV2 := SV2'
          have OV2 := OV2'
          have ZV2 := ZV2'
          clear H10' HH2' SV2' OV2' ZV2' hV2
          have HD : DrH v0 g7 g10 V2 A2 L zs w50 := ⟨H10.out, hw50.bel, ex52, hA27.out, fun h => hn7 h.symm, hw50.le7⟩
          have HZ9 := ex51
          have HOB := Lib.hid (HTB.out _ HD.bel)
          have HOP := Lib.hid (HPR.out _ HD.bel)
          go_wp2_with (first
            | (with_reducible refine at_any ?_; refine at_dst 32 rfl ?_; refine wpList_load_tab (by kernel_rfl) (.tmp 3) rfl gb rfl 25 (.int .u64 T) (.slice A n c) HOB.out ?_)
            | (go_at_call 20; (with_reducible refine (HOW.out _ HOP.out).mono ?_); rintro e wo ⟨rfl, hbo⟩; have HDo := HD.below hbo; have HZo := HZ9.below hbo; clear hbo))
          have HZ7 := HZo.drew
          refine wp_region_held_drew (S := (DrH v0 g7 g10 V2 A2 L zs)) (by kernel_rfl) HDo.drew (fun hH => ?_)
          refine wpAnyH_letter #[false, false, false, false, false] (by kernel_rfl) (fun _ _ d _ _ h => by cases d <;> exact h) (fun QL HQ1 HQ2 => ?_)
          refine held_v 0 (some 37) rfl (by kernel_rfl) (by kernel_rfl) (by kernel_rfl) (by kernel_rfl) (fun c a v w h => HQ2.out c a _ v w h) (by kernel_rfl) (.int .i64 ov) (fun W h => by kernel_rfl) hH ?_
          try simp only [Act.put, List.setIfInBounds_toArray, List.set_cons_zero, List.set_cons_succ]
          refine held_row 1 (some 38) rfl (by kernel_rfl) (by kernel_rfl) (by kernel_rfl) (by kernel_rfl) (fun c a v w h => HQ2.out c a _ v w h) (by kernel_rfl) 30 (.tmp 10) rfl g10 (by kernel_rfl) 30 V2 (fun _ h => h.blk) _ Tryz.underlying30 rfl SV2.out hH ?_
          try simp only [Act.put, List.setIfInBounds_toArray, List.set_cons_zero, List.set_cons_succ]
          refine held_v 2 (some 6) rfl (by kernel_rfl) (by kernel_rfl) (by kernel_rfl) (by kernel_rfl) (fun c a v w h => HQ2.out c a _ v w h) (by kernel_rfl) (.int .i64 ov) (fun W h => by kernel_rfl) hH ?_
          try simp only [Act.put, List.setIfInBounds_toArray, List.set_cons_zero, List.set_cons_succ]
          refine wpAnyH_ready (rs := [3]) (by kernel_rfl) (by decide) ?_
          refine AllReadyH.cons rfl (fun K hK => ?_) AllReadyH.nil
          refine step_store none (by kernel_rfl) (by kernel_rfl) 30 (.tmp 7) (.tmp 38) rfl g7 (by kernel_rfl) 30 Z V2 HZ7.1 (by kernel_rfl) ZV2.out SV2.out OV2.out ?_
          intro w141 hkw141 hsw141 hbw141 how141
          have ex142 : Fx [.blk g7 30 V2] w141 := ⟨hkw141.out, trivial⟩
          refine hK.out _ _ (hH.store HZ7.1 hH.store7 hsw141.out hbw141 how141) (fun hw141 => ?_)
          clear hK K
          try simp only [Act.put, List.setIfInBounds_toArray, List.set_cons_zero, List.set_cons_succ]
          refine held_v 4 (some 8) rfl (by kernel_rfl) (by kernel_rfl) (by kernel_rfl) (by kernel_rfl) (fun c a v w h => HQ2.out c a _ v w h) (by kernel_rfl) (.int .i64 0) (fun W h => by kernel_rfl) hw141 ?_
          try simp only [Act.put, List.setIfInBounds_toArray, List.set_cons_zero, List.set_cons_succ]
          refine wpAnyH_done (by kernel_rfl) ?_ _
          refine HQ1.out _ _ ?_
          clear HQ1 HQ2
          go_wp2_with (refine bodyPost_mid 6 7 8 30 rfl g7 rfl (.int .i64 ov) (.int .i64 0) rfl rfl 30 V2 ex142.1 _ Tryz.underlying30 rfl SV2.out rfl ?_)
          exact HH2.out _ hw141.rd.rd hw141.bel
        · refine step_alloc (some 10) (by kernel_rfl) (by kernel_rfl) 30 rfl Z HZ0.out ?_
          intro w54 hkw54 hsw54 hbw54
          obtain ⟨g10, hg10⟩ : ∃ g, w41.heap.size = g := ⟨_, rfl⟩
          have hAo11 := Apt.of_lt (g := g10) hw41.rd.rd (Nat.le_of_eq hg10)
          have hn3 : g4 ≠ g10 := by have := hw41.lt3; omega
          have hn7 : g7 ≠ g10 := by have := hw41.lt7; omega
          have hle11 : v0.heap.size ≤ g10 := by have := hw41.bel.size; omega
          rw [hg10] at hkw54
          rw [hg10]
          have ex55 := ex42.below hbw54
          have ex56 : Fx [.blk g10 30 Z] w54 := ⟨hkw54.out, trivial⟩
          refine hK.out _ _ (hw41.below hbw54) (fun hw54 => ?_)
          clear hK K
          try simp only [Act.put, List.setIfInBounds_toArray, List.set_cons_zero, List.set_cons_succ]
          refine wpAnyH_ready (rs := [4]) (by kernel_rfl) (by decide) ?_
          refine AllReadyH.cons rfl (fun K hK => ?_) AllReadyH.nil
          refine step_call (some 23) (by kernel_rfl) (by kernel_rfl) _ _ (by kernel_rfl) _ (HDR.out w54 hw54.rd.rd) ?_
          rintro e w57 ⟨A2, c2, rfl, hrd2, hc2, hm2, hsp2, hbw57⟩
          have hSP : Hid (Sep v0 A0 A2) := Lib.hid (sep_from hsp2 hw54.bel.size)
          have hA27 := Lib.hid (Apt.of_sep hsp2 hw54.apt7 hw54.lt7)
          have hC2 := Lib.hid hc2
          have hM2 := Lib.hid hm2
          have hA11 := Apt.of_sep hsp2 hAo11 ex56.1.lt
          have ex58 := ex55.below hbw57
          have ex59 := ex56.below hbw57
          have ex60 : RdP A2 L zs w57 := hrd2
          clear hrd2 hc2 hm2 hsp2
          refine ⟨_, rfl, ?_⟩
          refine hK.out _ _ (hw54.below hbw57) (fun hw57 => ?_)
          clear hK K
          try simp only [Act.put, List.setIfInBounds_toArray, List.set_cons_zero, List.set_cons_succ]
          refine held_v 5 (some 18) rfl (by kernel_rfl) (by kernel_rfl) (by kernel_rfl) (by kernel_rfl) (fun c a v w h => HQ2.out c a _ v w h) (by kernel_rfl) (.tuple #[.int .u64 x, .agg (srcV t A2 c2), .int .i64 E]) (fun W h => by kernel_rfl) hw57 ?_
          try simp only [Act.put, List.setIfInBounds_toArray, List.set_cons_zero, List.set_cons_succ]
          refine held_v 6 (some 24) rfl (by kernel_rfl) (by kernel_rfl) (by kernel_rfl) (by kernel_rfl) (fun c a v w h => HQ2.out c a _ v w h) (by kernel_rfl) (.int .u64 x) (fun W h => by kernel_rfl) hw57 ?_
          try simp only [Act.put, List.setIfInBounds_toArray, List.set_cons_zero, List.set_cons_succ]
          refine held_v 7 (some 25) rfl (by kernel_rfl) (by kernel_rfl) (by kernel_rfl) (by kernel_rfl) (fun c a v w h => HQ2.out c a _ v w h) (by kernel_rfl) (.agg (srcV t A2 c2)) (fun W h => by kernel_rfl) hw57 ?_
          try simp only [Act.put, List.setIfInBounds_toArray, List.set_cons_zero, List.set_cons_succ]
          refine held_v 8 (some 26) rfl (by kernel_rfl) (by kernel_rfl) (by kernel_rfl) (by kernel_rfl) (fun c a v w h => HQ2.out c a _ v w h) (by kernel_rfl) (.int .i64 E) (fun W h => by kernel_rfl) hw57 ?_
          try simp only [Act.put, List.setIfInBounds_toArray, List.set_cons_zero, List.set_cons_succ]
          refine held_v 10 (some 9) rfl (by kernel_rfl) (by kernel_rfl) (by kernel_rfl) (by kernel_rfl) (fun c a v w h => HQ2.out c a _ v w h) (by kernel_rfl) (.int .u64 x) (fun W h => by kernel_rfl) hw57 ?_
          try simp only [Act.put, List.setIfInBounds_toArray, List.set_cons_zero, List.set_cons_succ]
          refine wpAnyH_ready (rs := [11]) (by kernel_rfl) (by decide) ?_
          refine AllReadyH.cons rfl (fun K hK => ?_) AllReadyH.nil
          refine step_store none (by kernel_rfl) (by kernel_rfl) 30 (.tmp 10) (.tmp 25) rfl g10 (by kernel_rfl) 30 Z (srcV t A2 c2) ex59.1 (by kernel_rfl) (ZT.out _ _) (ST.out _ _) (OT.out _ _) ?_
          intro w61 hkw61 hsw61 hbw61 how61
          have ex62 := ex58.store ex59.1 ⟨hn7, trivial⟩ hsw61.out hbw61 how61
          have ex63 := ex60.store ex59.1 hA11 hsw61.out hbw61 how61
          have ex64 : Fx [.blk g10 30 (srcV t A2 c2)] w61 := ⟨hkw61.out, trivial⟩
          refine hK.out _ _ (hw57.store ex59.1 ⟨hn3, hAo11, hle11⟩ hsw61.out hbw61 how61) (fun hw61 => ?_)
          clear hK K
          try simp only [Act.put, List.setIfInBounds_toArray, List.set_cons_zero, List.set_cons_succ]
          refine held_v 12 (some 11) rfl (by kernel_rfl) (by kernel_rfl) (by kernel_rfl) (by kernel_rfl) (fun c a v w h => HQ2.out c a _ v w h) (by kernel_rfl) (.int .i64 E) (fun W h => by kernel_rfl) hw61 ?_
          try simp only [Act.put, List.setIfInBounds_toArray, List.set_cons_zero, List.set_cons_succ]
          refine wpAnyH_done (by kernel_rfl) ?_ _
          refine HQ1.out _ _ ?_
          clear HQ1 HQ2
          have H10' : Hid (Blk w61 g10 30 (srcV t A2 c2)) := Lib.hid ex64.1
          have HH2' := Lib.hid (fun w' h3 h4 => HEND.out _ HB0.out A2 c2 w' hSP.out hC2.out hM2.out h3 h4)
          have SV2' := Lib.hid (ST.out A2 c2)
          have OV2' := Lib.hid (OT.out A2 c2)
          have ZV2' := Lib.hid (ZT.out A2 c2)
          obtain ⟨V2, hV2⟩ : ∃ V2, srcV t A2 c2 = V2 := ⟨_, rfl⟩
          rw [hV2] at H10' HH2' SV2' OV2' ZV2' ⊢
          have H10 := H10'
          have HH2 := HH2'
          have SV2 := SV2'
          have OV2 := OV2'
          have ZV2 := ZV2'
          clear H10' HH2' SV2' OV2' ZV2' hV2
          have HD : DrH v0 g7 g10 V2 A2 L zs w61 := ⟨H10.out, hw61.bel, ex63, hA27.out, fun h => hn7 h.symm, hw61.le7⟩
          have HZ9 := ex62
          have HOB := Lib.hid (HTB.out _ HD.bel)
          have HOP := Lib.hid (HPR.out _ HD.bel)
          go_wp2_with (first
            | (with_reducible refine at_any ?_; refine at_dst 32 rfl ?_; refine wpList_load_tab (by kernel_rfl) (.tmp 3) rfl gb rfl 25 (.int .u64 T) (.slice A n c) HOB.out ?_)
            | (go_at_call 20; (with_reducible refine (HOW.out _ HOP.out).mono ?_); rintro e wo ⟨rfl, hbo⟩; have HDo := HD.below hbo; have HZo := HZ9.below hbo; clear hbo))
          have HZ7 := HZo.drew
          refine wp_region_held_drew (S := (DrH v0 g7 g10 V2 A2 L zs)) (by kernel_rfl) HDo.drew (fun hH => ?_)
          refine wpAnyH_letter #[false, false, false, false, false] (by kernel_rfl) (fun _ _ d _ _ h => by cases d <;> exact h) (fun QL HQ1 HQ2 => ?_)
          refine held_v 0 (some 37) rfl (by kernel_rfl) (by kernel_rfl) (by kernel_rfl) (by kernel_rfl) (fun c a v w h => HQ2.out c a _ v w h) (by kernel_rfl) (.int .i64 ov) (fun W h => by kernel_rfl) hH ?_
          try simp only [Act.put, List.setIfInBounds_toArray, List.set_cons_zero, List.set_cons_succ]
          refine held_row 1 (some 38) rfl (by kernel_rfl) (by kernel_rfl) (by kernel_rfl) (by kernel_rfl) (fun c a v w h => HQ2.out c a _ v w h) (by kernel_rfl) 30 (.tmp 10) rfl g10 (by kernel_rfl) 30 V2 (fun _ h => h.blk) _ Tryz.underlying30 rfl SV2.out hH ?_
          try simp only [Act.put, List.setIfInBounds_toArray, List.set_cons_zero, List.set_cons_succ]
          refine held_v 2 (some 6) rfl (by kernel_rfl) (by kernel_rfl) (by kernel_rfl) (by kernel_rfl) (fun c a v w h => HQ2.out c a _ v w h) (by kernel_rfl) (.int .i64 ov) (fun W h => by kernel_rfl) hH ?_
          try simp only [Act.put, List.setIfInBounds_toArray, List.set_cons_zero, List.set_cons_succ]
          refine wpAnyH_ready (rs := [3]) (by kernel_rfl) (by decide) ?_
          refine AllReadyH.cons rfl (fun K hK => ?_) AllReadyH.nil
          refine step_store none (by kernel_rfl) (by kernel_rfl) 30 (.tmp 7) (.tmp 38) rfl g7 (by kernel_rfl) 30 Z V2 HZ7.1 (by kernel_rfl) ZV2.out SV2.out OV2.out ?_
          intro w141 hkw141 hsw141 hbw141 how141
          have ex142 : Fx [.blk g7 30 V2] w141 := ⟨hkw141.out, trivial⟩
          refine hK.out _ _ (hH.store HZ7.1 hH.store7 hsw141.out hbw141 how141) (fun hw141 => ?_)
          clear hK K
          try simp only [Act.put, List.setIfInBounds_toArray, List.set_cons_zero, List.set_cons_succ]
          refine held_v 4 (some 8) rfl (by kernel_rfl) (by kernel_rfl) (by kernel_rfl) (by kernel_rfl) (fun c a v w h => HQ2.out c a _ v w h) (by kernel_rfl) (.int .i64 0) (fun W h => by kernel_rfl) hw141 ?_
          try simp only [Act.put, List.setIfInBounds_toArray, List.set_cons_zero, List.set_cons_succ]
          refine wpAnyH_done (by kernel_rfl) ?_ _
          refine HQ1.out _ _ ?_
          clear HQ1 HQ2
          go_wp2_with (refine bodyPost_mid 6 7 8 30 rfl g7 rfl (.int .i64 ov) (.int .i64 0) rfl rfl 30 V2 ex142.1 _ Tryz.underlying30 rfl SV2.out rfl ?_)
          exact HH2.out _ hw141.rd.rd hw141.bel
      · refine step_alloc (some 10) (by kernel_rfl) (by kernel_rfl) 30 rfl Z HZ0.out ?_
        intro w65 hkw65 hsw65 hbw65
        obtain ⟨g10, hg10⟩ : ∃ g, w3.drew.heap.size = g := ⟨_, rfl⟩
        have hAo11 := Apt.of_lt (g := g10) hH.rd.rd (Nat.le_of_eq hg10)
        have hn3 : g4 ≠ g10 := by have := hH.lt3; omega
        have hn7 : g7 ≠ g10 := by have := hH.lt7; omega
        have hle11 : v0.heap.size ≤ g10 := by have := hH.bel.size; omega
        rw [hg10] at hkw65
        rw [hg10]
        have ex66 := HZ7.below hbw65
        have ex67 : Fx [.blk g10 30 Z] w65 := ⟨hkw65.out, trivial⟩
        refine hK.out _ _ (hH.below hbw65) (fun hw65 => ?_)
        clear hK K
        try simp only [Act.put, List.setIfInBounds_toArray, List.set_cons_zero, List.set_cons_succ]
        refine wpAnyH_ready (rs := [2]) (by kernel_rfl) (by decide) ?_
        refine AllReadyH.cons rfl (fun K hK => ?_) AllReadyH.nil
        refine step_call (some 21) (by kernel_rfl) (by kernel_rfl) _ _ (by kernel_rfl) _ (HSZ.out _ (HPR.out _ hw65.bel)) ?_
        rintro e w68 ⟨rfl, hbw68⟩
        have ex69 := ex66.below hbw68
        have ex70 := ex67.below hbw68
        refine ⟨_, rfl, ?_⟩
        refine hK.out _ _ (hw65.below hbw68) (fun hw68 => ?_)
        clear hK K
        try simp only [Act.put, List.setIfInBounds_toArray, List.set_cons_zero, List.set_cons_succ]
        refine wpAnyH_ready (rs := [4]) (by kernel_rfl) (by decide) ?_
        refine AllReadyH.cons rfl (fun K hK => ?_) AllReadyH.nil
        refine step_call (some 23) (by kernel_rfl) (by kernel_rfl) _ _ (by kernel_rfl) _ (HDR.out w68 hw68.rd.rd) ?_
        rintro e w71 ⟨A2, c2, rfl, hrd2, hc2, hm2, hsp2, hbw71⟩
        have hSP : Hid (Sep v0 A0 A2) := Lib.hid (sep_from hsp2 hw68.bel.size)
        have hA27 := Lib.hid (Apt.of_sep hsp2 hw68.apt7 hw68.lt7)
        have hC2 := Lib.hid hc2
        have hM2 := Lib.hid hm2
        have hA11 := Apt.of_sep hsp2 hAo11 ex70.1.lt
        have ex72 := ex69.below hbw71
        have ex73 := ex70.below hbw71
        have ex74 : RdP A2 L zs w71 := hrd2
        clear hrd2 hc2 hm2 hsp2
        refine ⟨_, rfl, ?_⟩
        refine hK.out _ _ (hw68.below hbw71) (fun hw71 => ?_)
        clear hK K
        try simp only [Act.put, List.setIfInBounds_toArray, List.set_cons_zero, List.set_cons_succ]
        refine held_v 5 (some 18) rfl (by kernel_rfl) (by kernel_rfl) (by kernel_rfl) (by kernel_rfl) (fun c a v w h => HQ2.out c a _ v w h) (by kernel_rfl) (.tuple #[.int .u64 x, .agg (srcV t A2 c2), .int .i64 E]) (fun W h => by kernel_rfl) hw71 ?_
        try simp only [Act.put, List.setIfInBounds_toArray, List.set_cons_zero, List.set_cons_succ]
        refine held_v 6 (some 24) rfl (by kernel_rfl) (by kernel_rfl) (by kernel_rfl) (by kernel_rfl) (fun c a v w h => HQ2.out c a _ v w h) (by kernel_rfl) (.int .u64 x) (fun W h => by kernel_rfl) hw71 ?_
        try simp only [Act.put, List.setIfInBounds_toArray, List.set_cons_zero, List.set_cons_succ]
        refine held_v 7 (some 25) rfl (by kernel_rfl) (by kernel_rfl) (by kernel_rfl) (by kernel_rfl) (fun c a v w h => HQ2.out c a _ v w h) (by kernel_rfl) (.agg (srcV t A2 c2)) (fun W h => by kernel_rfl) hw71 ?_
        try simp only [Act.put, List.setIfInBounds_toArray, List.set_cons_zero, List.set_cons_succ]
        refine held_v 8 (some 26) rfl (by kernel_rfl) (by kernel_rfl) (by kernel_rfl) (by kernel_rfl) (fun c a v w h => HQ2.out c a _ v w h) (by kernel_rfl) (.int .i64 E) (fun W h => by kernel_rfl) hw71 ?_
        try simp only [Act.put, List.setIfInBounds_toArray, List.set_cons_zero, List.set_cons_succ]
        refine held_v 10 (some 9) rfl (by kernel_rfl) (by kernel_rfl) (by kernel_rfl) (by kernel_rfl) (fun c a v w h => HQ2.out c a _ v w h) (by kernel_rfl) (.int .u64 x) (fun W h => by kernel_rfl) hw71 ?_
        try simp only [Act.put, List.setIfInBounds_toArray, List.set_cons_zero, List.set_cons_succ]
        refine wpAnyH_ready (rs := [11]) (by kernel_rfl) (by decide) ?_
        refine AllReadyH.cons rfl (fun K hK => ?_) AllReadyH.nil
        refine step_store none (by kernel_rfl) (by kernel_rfl) 30 (.tmp 10) (.tmp 25) rfl g10 (by kernel_rfl) 30 Z (srcV t A2 c2) ex73.1 (by kernel_rfl) (ZT.out _ _) (ST.out _ _) (OT.out _ _) ?_
        intro w75 hkw75 hsw75 hbw75 how75
        have ex76 := ex72.store ex73.1 ⟨hn7, trivial⟩ hsw75.out hbw75 how75
        have ex77 := ex74.store ex73.1 hA11 hsw75.out hbw75 how75
        have ex78 : Fx [.blk g10 30 (srcV t A2 c2)] w75 := ⟨hkw75.out, trivial⟩
        refine hK.out _ _ (hw71.store ex73.1 ⟨hn3, hAo11, hle11⟩ hsw75.out hbw75 how75) (fun hw75 => ?_)
        clear hK K
        try simp only [Act.put, List.setIfInBounds_toArray, List.set_cons_zero, List.set_cons_succ]
        refine held_v 12 (some 11) rfl (by kernel_rfl) (by kernel_rfl) (by kernel_rfl) (by kernel_rfl) (fun c a v w h => HQ2.out c a _ v w h) (by kernel_rfl) (.int .i64 E) (fun W h => by kernel_rfl) hw75 ?_
        try simp only [Act.put, List.setIfInBounds_toArray, List.set_cons_zero, List.set_cons_succ]
        refine wpAnyH_done (by kernel_rfl) ?_ _
        refine HQ1.out _ _ ?_
        clear HQ1 HQ2
        have H10' : Hid (Blk w75 g10 30 (srcV t A2 c2)) := Lib.hid ex78.1
        have HH2' := Lib.hid (fun w' h3 h4 => HEND.out _ HB0.out A2 c2 w' hSP.out hC2.out hM2.out h3 h4)
        have SV2' := Lib.hid (ST.out A2 c2)
        have OV2' := Lib.hid (OT.out A2 c2)
        have ZV2' := Lib.hid (ZT.out A2 c2)
        obtain ⟨V2, hV2⟩ : ∃ V2, srcV t A2 c2 = V2 := ⟨_, rfl⟩
        rw [hV2] at H10' HH2' SV2' OV2' ZV2' ⊢
        have H10 := H10'
        have HH2 := HH2'
        have SV2 := SV2'
        have OV2 := OV2'
        have ZV2 := ZV2'
        clear H10' HH2' SV2' OV2' ZV2' hV2
        have HD : DrH v0 g7 g10 V2 A2 L zs w75 := ⟨H10.out, hw75.bel, ex77, hA27.out, fun h => hn7 h.symm, hw75.le7⟩
        have HZ9 := ex76
        have HOB := Lib.hid (HTB.out _ HD.bel)
        have HOP := Lib.hid (HPR.out _ HD.bel)
        go_wp2_with (first
          | (with_reducible refine at_any ?_; refine at_dst 32 rfl ?_; refine wpList_load_tab (by kernel_rfl) (.tmp 3) rfl gb rfl 25 (.int .u64 T) (.slice A n c) HOB.out ?_)
          | (go_at_call 20; (with_reducible refine (HOW.out _ HOP.out).mono ?_); rintro e wo ⟨rfl, hbo⟩; have HDo := HD.below hbo; have HZo := HZ9.below hbo; clear hbo))
        have HZ7 := HZo.drew
        refine wp_region_held_drew (S := (DrH v0 g7 g10 V2 A2 L zs)) (by kernel_rfl) HDo.drew (fun hH => ?_)
        refine wpAnyH_letter #[false, false, false, false, false] (by kernel_rfl) (fun _ _ d _ _ h => by cases d <;> exact h) (fun QL HQ1 HQ2 => ?_)
        refine held_v 0 (some 37) rfl (by kernel_rfl) (by kernel_rfl) (by kernel_rfl) (by kernel_rfl) (fun c a v w h => HQ2.out c a _ v w h) (by kernel_rfl) (.int .i64 ov) (fun W h => by kernel_rfl) hH ?_
        try simp only [Act.put, List.setIfInBounds_toArray, List.set_cons_zero, List.set_cons_succ]
        refine held_row 1 (some 38) rfl (by kernel_rfl) (by kernel_rfl) (by kernel_rfl) (by kernel_rfl) (fun c a v w h => HQ2.out c a _ v w h) (by kernel_rfl) 30 (.tmp 10) rfl g10 (by kernel_rfl) 30 V2 (fun _ h => h.blk) _ Tryz.underlying30 rfl SV2.out hH ?_
        try simp only [Act.put, List.setIfInBounds_toArray, List.set_cons_zero, List.set_cons_succ]
        refine held_v 2 (some 6) rfl (by kernel_rfl) (by kernel_rfl) (by kernel_rfl) (by kernel_rfl) (fun c a v w h => HQ2.out c a _ v w h) (by kernel_rfl) (.int .i64 ov) (fun W h => by kernel_rfl) hH ?_
        try simp only [Act.put, List.setIfInBounds_toArray, List.set_cons_zero, List.set_cons_succ]
        refine wpAnyH_ready (rs := [3]) (by kernel_rfl) (by decide) ?_
        refine AllReadyH.cons rfl (fun K hK => ?_) AllReadyH.nil
        refine step_store none (by kernel_rfl) (by kernel_rfl) 30 (.tmp 7) (.tmp 38) rfl g7 (by kernel_rfl) 30 Z V2 HZ7.1 (by kernel_rfl) ZV2.out SV2.out OV2.out ?_
        intro w141 hkw141 hsw141 hbw141 how141
        have ex142 : Fx [.blk g7 30 V2] w141 := ⟨hkw141.out, trivial⟩
        refine hK.out _ _ (hH.store HZ7.1 hH.store7 hsw141.out hbw141 how141) (fun hw141 => ?_)
        clear hK K
        try simp only [Act.put, List.setIfInBounds_toArray, List.set_cons_zero, List.set_cons_succ]
        refine held_v 4 (some 8) rfl (by kernel_rfl) (by kernel_rfl) (by kernel_rfl) (by kernel_rfl) (fun c a v w h => HQ2.out c a _ v w h) (by kernel_rfl) (.int .i64 0) (fun W h => by kernel_rfl) hw141 ?_
        try simp only [Act.put, List.setIfInBounds_toArray, List.set_cons_zero, List.set_cons_succ]
        refine wpAnyH_done (by kernel_rfl) ?_ _
        refine HQ1.out _ _ ?_
        clear HQ1 HQ2
        go_wp2_with (refine bodyPost_mid 6 7 8 30 rfl g7 rfl (.int .i64 ov) (.int .i64 0) rfl rfl 30 V2 ex142.1 _ Tryz.underlying30 rfl SV2.out rfl ?_)
        exact HH2.out _ hw141.rd.rd hw141.bel
    · have e1 := hgn hE0
      rw [e1] at HEND0 ⊢
      have t2 : (E == 0) = false := by rw [beq_eq_false_iff_ne]; exact hE0
      have t3 : (E != 0) = true := by rw [bne, t2]; rfl
      obtain ⟨rr, hrr⟩ : ∃ r : Int × Src × Int, (0, t, E) = r := ⟨_, rfl⟩
      have HEND1 : Hid (∀ V0, Below w.heap.size w V0 → ∀ A2 c2 w', Sep V0 A0 A2 → s.tape.length ≤ c2 → c2 ≤ maxLen → RdP A2 s.tape.length s.tape w' → Below V0.heap.size V0 w' → RetLead w s A0 rr (.returned (.tuple #[.int .i64 0, .agg (srcV t A2 c2), .int .i64 E])) w') := by rw [← hrr]; exact HEND0
      rw [hrr]
      obtain ⟨V, hV⟩ : ∃ V, srcV s A0 c0 = V := ⟨_, rfl⟩
      rw [hV] at SV OV ZV HDR0 ⊢
      obtain ⟨zs, hzs⟩ : ∃ zs, s.tape = zs := ⟨_, rfl⟩
      obtain ⟨L, hL⟩ : ∃ L, zs.length = L := ⟨_, rfl⟩
      rw [hzs, hL] at HEND1 HDR0
      rw [hzs, hL] at hRd
      have HDR := HDR0
      have HEND := HEND1
      clear HEND1 HEND0 HDR0 hrr hV hzs hL hri hr hts hrd hrp hc hcm hZ hn hnm a0 a1 HZSS T0 T1 hlt hdr how hgo hgn e1 hov hoe hx hE ht ht2 hN okt hsz hZe z1 z2 q0 q1 q2 hE0
      go_enter Tryz.func7, Tryz.ntmps7
      go_wp2_with (first
        | (with_reducible refine at_any ?_; refine at_dst 3 rfl ?_; refine wpList_box_any rfl 25 (.tmp 0) rfl #[.int .u64 T, .slice A n c] rfl ?_; intro v0 hk0 hs0 hb0; have HB0 := Lib.hid hb0; have HRD0 := Lib.hid ((Rd.below hRd.out hb0).mono hb0.size); have HTB := Lib.hid (tb_later hk0.out); have HPR := Lib.hid (pr_later hPr.out hb0); clear hs0 hb0)
        | (with_reducible refine at_any ?_; refine at_dst 4 rfl ?_; refine wpList_box_any rfl 30 (.tmp 1) rfl V rfl ?_; intro w1 hk1 hs1 hb1)
        | (with_reducible refine at_any ?_; refine at_dst 7 rfl ?_; refine wpList_alloc_any rfl 30 rfl Z HZ0.out ?_; intro w2 hk2 hs2 hb2; have HS2 := DrS.mk2 HRD0.out hk1.out hb1 hk2.out hb2 (Below.refl _ _); have HZ2 := fx1 hk2.out; have HBT := Lib.hid (HTB.out _ HS2.bel); have HPT := Lib.hid (HPR.out _ HS2.bel); clear hs1 hb1 hs2 hb2)
        | (with_reducible refine at_any ?_; refine at_dst 14 rfl ?_; refine wpList_load_tab (by kernel_rfl) (.tmp 3) rfl w.heap.size rfl 25 (.int .u64 T) (.slice A n c) HBT.out ?_)
        | (go_at_call 17; (with_reducible refine (HRT.out _ HPT.out).mono ?_); rintro e w3 ⟨rfl, hb3⟩; have HS := HS2.below hb3; have HZ := HZ2.below hb3; clear hb3 HS2 HZ2))
      obtain ⟨gb, hgb⟩ : ∃ g, w.heap.size = g := ⟨_, rfl⟩
      obtain ⟨g4, hg4⟩ : ∃ g, v0.heap.size = g := ⟨_, rfl⟩
      obtain ⟨g7, hg7⟩ : ∃ g, w1.heap.size = g := ⟨_, rfl⟩
      rw [hg4, hg7] at HS
      rw [hg7] at HZ
      rw [hgb] at HTB HBT
      rw [hgb, hg4, hg7]
      clear hgb hg4 hg7 hk1 hk2 HBT HPT
      have HZ7 := HZ.drew
      refine wp_region_held_drew (S := (DrS v0 g4 g7 V A0 L zs)) (by kernel_rfl) HS.drew (fun hH => ?_)
      refine wpAnyH_letter #[false, false, false, false, false, false, false, false, false, false, false, false, false] (by kernel_rfl) (fun _ _ d _ _ h => by cases d <;> exact h) (fun QL HQ1 HQ2 => ?_)
      refine held_row 0 (some 19) rfl (by kernel_rfl) (by kernel_rfl) (by kernel_rfl) (by kernel_rfl) (fun c a v w h => HQ2.out c a _ v w h) (by kernel_rfl) 30 (.tmp 4) rfl g4 (by kernel_rfl) 30 V (fun _ h => h.blk) _ Tryz.underlying30 rfl SV.out hH ?_
      try simp only [Act.put, List.setIfInBounds_toArray, List.set_cons_zero, List.set_cons_succ]
      refine held_row 1 (some 20) rfl (by kernel_rfl) (by kernel_rfl) (by kernel_rfl) (by kernel_rfl) (fun c a v w h => HQ2.out c a _ v w h) (by kernel_rfl) 25 (.tmp 3) rfl gb (by kernel_rfl) 25 #[.int .u64 T, .slice A n c] (fun _ h => (HTB.out _ (h).bel)) _ Tryz.underlying25 rfl (sizedT _ _) hH ?_
      try simp only [Act.put, List.setIfInBounds_toArray, List.set_cons_zero, List.set_cons_succ]
      refine held_v 3 (some 22) rfl (by kernel_rfl) (by kernel_rfl) (by kernel_rfl) (by kernel_rfl) (fun c a v w h => HQ2.out c a _ v w h) (by kernel_rfl) (.int .i64 a) (fun W h => by kernel_rfl) hH ?_
      try simp only [Act.put, List.setIfInBounds_toArray, List.set_cons_zero, List.set_cons_succ]
      refine wpAnyH_ready (rs := [2, 9]) (by kernel_rfl) (by decide) ?_
      refine AllReadyH.cons rfl (fun K hK => ?_) (AllReadyH.cons rfl (fun K hK => ?_) AllReadyH.nil)
      · refine step_call (some 21) (by kernel_rfl) (by kernel_rfl) _ _ (by kernel_rfl) _ (HSZ.out _ (HPR.out _ hH.bel)) ?_
        rintro e w41 ⟨rfl, hbw41⟩
        have ex42 := HZ7.below hbw41
        refine ⟨_, rfl, ?_⟩
        refine hK.out _ _ (hH.below hbw41) (fun hw41 => ?_)
        clear hK K
        try simp only [Act.put, List.setIfInBounds_toArray, List.set_cons_zero, List.set_cons_succ]
        refine wpAnyH_ready (rs := [4, 9]) (by kernel_rfl) (by decide) ?_
        refine AllReadyH.cons rfl (fun K hK => ?_) (AllReadyH.cons rfl (fun K hK => ?_) AllReadyH.nil)
        · refine step_call (some 23) (by kernel_rfl) (by kernel_rfl) _ _ (by kernel_rfl) _ (HDR.out w41 hw41.rd.rd) ?_
          rintro e w43 ⟨A2, c2, rfl, hrd2, hc2, hm2, hsp2, hbw43⟩
          have hSP : Hid (Sep v0 A0 A2) := Lib.hid (sep_from hsp2 hw41.bel.size)
          have hA27 := Lib.hid (Apt.of_sep hsp2 hw41.apt7 hw41.lt7)
          have hC2 := Lib.hid hc2
          have hM2 := Lib.hid hm2
          have ex44 := ex42.below hbw43
          have ex45 : RdP A2 L zs w43 := hrd2
          clear hrd2 hc2 hm2 hsp2
          refine ⟨_, rfl, ?_⟩
          refine hK.out _ _ (hw41.below hbw43) (fun hw43 => ?_)
          clear hK K
          try simp only [Act.put, List.setIfInBounds_toArray, List.set_cons_zero, List.set_cons_succ]
          refine held_v 5 (some 18) rfl (by kernel_rfl) (by kernel_rfl) (by kernel_rfl) (by kernel_rfl) (fun c a v w h => HQ2.out c a _ v w h) (by kernel_rfl) (.tuple #[.int .u64 x, .agg (srcV t A2 c2), .int .i64 E]) (fun W h => by kernel_rfl) hw43 ?_
          try simp only [Act.put, List.setIfInBounds_toArray, List.set_cons_zero, List.set_cons_succ]
          refine held_v 6 (some 24) rfl (by kernel_rfl) (by kernel_rfl) (by kernel_rfl) (by kernel_rfl) (fun c a v w h => HQ2.out c a _ v w h) (by kernel_rfl) (.int .u64 x) (fun W h => by kernel_rfl) hw43 ?_
          try simp only [Act.put, List.setIfInBounds_toArray, List.set_cons_zero, List.set_cons_succ]
          refine held_v 7 (some 25) rfl (by kernel_rfl) (by kernel_rfl) (by kernel_rfl) (by kernel_rfl) (fun c a v w h => HQ2.out c a _ v w h) (by kernel_rfl) (.agg (srcV t A2 c2)) (fun W h => by kernel_rfl) hw43 ?_
          try simp only [Act.put, List.setIfInBounds_toArray, List.set_cons_zero, List.set_cons_succ]
          refine held_v 8 (some 26) rfl (by kernel_rfl) (by kernel_rfl) (by kernel_rfl) (by kernel_rfl) (fun c a v w h => HQ2.out c a _ v w h) (by kernel_rfl) (.int .i64 E) (fun W h => by kernel_rfl) hw43 ?_
          try simp only [Act.put, List.setIfInBounds_toArray, List.set_cons_zero, List.set_cons_succ]
          refine wpAnyH_ready (rs := [9]) (by kernel_rfl) (by decide) ?_
          refine AllReadyH.cons rfl (fun K hK => ?_) AllReadyH.nil
          refine step_alloc (some 10) (by kernel_rfl) (by kernel_rfl) 30 rfl Z HZ0.out ?_
          intro w46 hkw46 hsw46 hbw46
          obtain ⟨g10, hg10⟩ : ∃ g, w43.heap.size = g := ⟨_, rfl⟩
          have hAo11 := Apt.of_lt (g := g10) hw43.rd.rd (Nat.le_of_eq hg10)
          have hn3 : g4 ≠ g10 := by have := hw43.lt3; omega
          have hn7 : g7 ≠ g10 := by have := hw43.lt7; omega
          have hle11 : v0.heap.size ≤ g10 := by have := hw43.bel.size; omega
          have hA11 := Apt.of_lt (g := g10) ex45.rd (Nat.le_of_eq hg10)
          rw [hg10] at hkw46
          rw [hg10]
          have ex47 := ex44.below hbw46
          have ex48 := ex45.below hbw46
          have ex49 : Fx [.blk g10 30 Z] w46 := ⟨hkw46.out, trivial⟩
          refine hK.out _ _ (hw43.below hbw46) (fun hw46 => ?_)
          clear hK K
          try simp only [Act.put, List.setIfInBounds_toArray, List.set_cons_zero, List.set_cons_succ]
          refine held_v 10 (some 9) rfl (by kernel_rfl) (by kernel_rfl) (by kernel_rfl) (by kernel_rfl) (fun c a v w h => HQ2.out c a _ v w h) (by kernel_rfl) (.int .u64 x) (fun W h => by kernel_rfl) hw46 ?_
          try simp only [Act.put, List.setIfInBounds_toArray, List.set_cons_zero, List.set_cons_succ]
          refine wpAnyH_ready (rs := [11]) (by kernel_rfl) (by decide) ?_
          refine AllReadyH.cons rfl (fun K hK => ?_) AllReadyH.nil
          refine step_store none (by kernel_rfl) (by kernel_rfl) 30 (.tmp 10) (.tmp 25) rfl g10 (by kernel_rfl) 30 Z (srcV t A2 c2) ex49.1 (by kernel_rfl) (ZT.out _ _) (ST.out _ _) (OT.out _ _) ?_
          intro w50 hkw50 hsw50 hbw50 how50
          have ex51 := ex47.store ex49.1 ⟨hn7, trivial⟩ hsw50.out hbw50 how50
          have ex52 := ex48.store ex49.1 hA11 hsw50.out hbw50 how50
          have ex53 : Fx [.blk g10 30 (srcV t A2 c2)] w50 := ⟨hkw50.out, trivial⟩
          refine hK.out _ _ (hw46.store ex49.1 ⟨hn3, hAo11, hle11⟩ hsw50.out hbw50 how50) (fun hw50 => ?_)
          clear hK K
          try simp only [Act.put, List.setIfInBounds_toArray, List.set_cons_zero, List.set_cons_succ]
          refine held_v 12 (some 11) rfl (by kernel_rfl) (by kernel_rfl) (by kernel_rfl) (by kernel_rfl) (fun c a v w h => HQ2.out c a _ v w h) (by kernel_rfl) (.int .i64 E) (fun W h => by kernel_rfl) hw50 ?_
          try simp only [Act.put, List.setIfInBounds_toArray, List.set_cons_zero, List.set_cons_succ]
          refine wpAnyH_done (by kernel_rfl) ?_ _
          refine HQ1.out _ _ ?_
          clear HQ1 HQ2
          have H10' : Hid (Blk w50 g10 30 (srcV t A2 c2)) := Lib.hid ex53.1
          have HH2' := Lib.hid (fun w' h3 h4 => HEND.out _ HB0.out A2 c2 w' hSP.out hC2.out hM2.out h3 h4)
          have SV2' := Lib.hid (ST.out A2 c2)
          have OV2' := Lib.hid (OT.out A2 c2)
          have ZV2' := Lib.hid (ZT.out A2 c2)
          obtain ⟨V2, hV2⟩ : ∃ V2, srcV t A2 c2 = V2 := ⟨_, rfl⟩
          rw [hV2] at H10' HH2' SV2' OV2' ZV2' ⊢
          have H10 := H10'
          have HH2 := HH2'
          have SV2 := SV2'
          have OV2 := OV2'
          have ZV2 := ZV2'
          clear H10' HH2' SV2' OV2' ZV2' hV2
          have HD : DrH v0 g7 g10 V2 A2 L zs w50 := ⟨H10.out, hw50.bel, ex52, hA27.out, fun h => hn7 h.symm, hw50.le7⟩
          have HZ9 := ex51
          have HOB := Lib.hid (HTB.out _ HD.bel)
          have HOP := Lib.hid (HPR.out _ HD.bel)
          go_wp2
          have HZ7 := HZ9.drew
          refine wp_region_held_drew (S := (DrH v0 g7 g10 V2 A2 L zs)) (by kernel_rfl) HD.drew (fun hH => ?_)
          refine wpAnyH_letter #[false, false, false, false, false] (by kernel_rfl) (fun _ _ d _ _ h => by cases d <;> exact h) (fun QL HQ1 HQ2 => ?_)
          refine held_row 0 (some 29) rfl (by kernel_rfl) (by kernel_rfl) (by kernel_rfl) (by kernel_rfl) (fun c a v w h => HQ2.out c a _ v w h) (by kernel_rfl) 30 (.tmp 10) rfl g10 (by kernel_rfl) 30 V2 (fun _ h => h.blk) _ Tryz.underlying30 rfl SV2.out hH ?_
          try simp only [Act.put, List.setIfInBounds_toArray, List.set_cons_zero, List.set_cons_succ]
          refine held_v 1 (some 30) rfl (by kernel_rfl) (by kernel_rfl) (by kernel_rfl) (by kernel_rfl) (fun c a v w h => HQ2.out c a _ v w h) (by kernel_rfl) (.int .i64 E) (fun W h => by kernel_rfl) hH ?_
          try simp only [Act.put, List.setIfInBounds_toArray, List.set_cons_zero, List.set_cons_succ]
          refine held_v 2 (some 6) rfl (by kernel_rfl) (by kernel_rfl) (by kernel_rfl) (by kernel_rfl) (fun c a v w h => HQ2.out c a _ v w h) (by kernel_rfl) (.int .i64 0) (fun W h => by kernel_rfl) hH ?_
          try simp only [Act.put, List.setIfInBounds_toArray, List.set_cons_zero, List.set_cons_succ]
          refine wpAnyH_ready (rs := [3]) (by kernel_rfl) (by decide) ?_
          refine AllReadyH.cons rfl (fun K hK => ?_) AllReadyH.nil
          refine step_store none (by kernel_rfl) (by kernel_rfl) 30 (.tmp 7) (.tmp 29) rfl g7 (by kernel_rfl) 30 Z V2 HZ7.1 (by kernel_rfl) ZV2.out SV2.out OV2.out ?_
          intro w141 hkw141 hsw141 hbw141 how141
          have ex142 : Fx [.blk g7 30 V2] w141 := ⟨hkw141.out, trivial⟩
          refine hK.out _ _ (hH.store HZ7.1 hH.store7 hsw141.out hbw141 how141) (fun hw141 => ?_)
          clear hK K
          try simp only [Act.put, List.setIfInBounds_toArray, List.set_cons_zero, List.set_cons_succ]
          refine held_v 4 (some 8) rfl (by kernel_rfl) (by kernel_rfl) (by kernel_rfl) (by kernel_rfl) (fun c a v w h => HQ2.out c a _ v w h) (by kernel_rfl) (.int .i64 E) (fun W h => by kernel_rfl) hw141 ?_
          try simp only [Act.put, List.setIfInBounds_toArray, List.set_cons_zero, List.set_cons_succ]
          refine wpAnyH_done (by kernel_rfl) ?_ _
          refine HQ1.out _ _ ?_
          clear HQ1 HQ2
          go_wp2_with (refine bodyPost_mid 6 7 8 30 rfl g7 rfl (.int .i64 0) (.int .i64 E) rfl rfl 30 V2 ex142.1 _ Tryz.underlying30 rfl SV2.out rfl ?_)
          exact HH2.out _ hw141.rd.rd hw141.bel
        · refine step_alloc (some 10) (by kernel_rfl) (by kernel_rfl) 30 rfl Z HZ0.out ?_
          intro w54 hkw54 hsw54 hbw54
          obtain ⟨g10, hg10⟩ : ∃ g, w41.heap.size = g := ⟨_, rfl⟩
          have hAo11 := Apt.of_lt (g := g10) hw41.rd.rd (Nat.le_of_eq hg10)
          have hn3 : g4 ≠ g10 := by have := hw41.lt3; omega
          have hn7 : g7 ≠ g10 := by have := hw41.lt7; omega
          have hle11 : v0.heap.size ≤ g10 := by have := hw41.bel.size; omega
          rw [hg10] at hkw54
          rw [hg10]
          have ex55 := ex42.below hbw54
          have ex56 : Fx [.blk g10 30 Z] w54 := ⟨hkw54.out, trivial⟩
          refine hK.out _ _ (hw41.below hbw54) (fun hw54 => ?_)
          clear hK K
          try simp only [Act.put, List.setIfInBounds_toArray, List.set_cons_zero, List.set_cons_succ]
          refine wpAnyH_ready (rs := [4]) (by kernel_rfl) (by decide) ?_
          refine AllReadyH.cons rfl (fun K hK => ?_) AllReadyH.nil
          refine step_call (some 23) (by kernel_rfl) (by kernel_rfl) _ _ (by kernel_rfl) _ (HDR.out w54 hw54.rd.rd) ?_
          rintro e w57 ⟨A2, c2, rfl, hrd2, hc2, hm2, hsp2, hbw57⟩
          have hSP : Hid (Sep v0 A0 A2) := Lib.hid (sep_from hsp2 hw54.bel.size)
          have hA27 := Lib.hid (Apt.of_sep hsp2 hw54.apt7 hw54.lt7)
          have hC2 := Lib.hid hc2
          have hM2 := Lib.hid hm2
          have hA11 := Apt.of_sep hsp2 hAo11 ex56.1.lt
          have ex58 := ex55.below hbw57
          have ex59 := ex56.below hbw57
          have ex60 : RdP A2 L zs w57 := hrd2
          clear hrd2 hc2 hm2 hsp2
          refine ⟨_, rfl, ?_⟩
          refine hK.out _ _ (hw54.below hbw57) (fun hw57 => ?_)
          clear hK K
          try simp only [Act.put, List.setIfInBounds_toArray, List.set_cons_zero, List.set_cons_succ]
          refine held_v 5 (some 18) rfl (by kernel_rfl) (by kernel_rfl) (by kernel_rfl) (by kernel_rfl) (fun c a v w h => HQ2.out c a _ v w h) (by kernel_rfl) (.tuple #[.int .u64 x, .agg (srcV t A2 c2), .int .i64 E]) (fun W h => by kernel_rfl) hw57 ?_
          try simp only [Act.put, List.setIfInBounds_toArray, List.set_cons_zero, List.set_cons_succ]
          refine held_v 6 (some 24) rfl (by kernel_rfl) (by kernel_rfl) (by kernel_rfl) (by kernel_rfl) (fun c a v w h => HQ2.out c a _ v w h) (by kernel_rfl) (.int .u64 x) (fun W h => by kernel_rfl) hw57 ?_
          try simp only [Act.put, List.setIfInBounds_toArray, List.set_cons_zero, List.set_cons_succ]
          refine held_v 7 (some 25) rfl (by kernel_rfl) (by kernel_rfl) (by kernel_rfl) (by kernel_rfl) (fun c a v w h => HQ2.out c a _ v w h) (by kernel_rfl) (.agg (srcV t A2 c2)) (fun W h => by kernel_rfl) hw57 ?_
          try simp only [Act.put, List.setIfInBounds_toArray, List.set_cons_zero, List.set_cons_succ]
          refine held_v 8 (some 26) rfl (by kernel_rfl) (by kernel_rfl) (by kernel_rfl) (by kernel_rfl) (fun c a v w h => HQ2.out c a _ v w h) (by kernel_rfl) (.int .i64 E) (fun W h => by kernel_rfl) hw57 ?_
          try simp only [Act.put, List.setIfInBounds_toArray, List.set_cons_zero, List.set_cons_succ]
          refine held_v 10 (some 9) rfl (by kernel_rfl) (by kernel_rfl) (by kernel_rfl) (by kernel_rfl) (fun c a v w h => HQ2.out c a _ v w h) (by kernel_rfl) (.int .u64 x) (fun W h => by kernel_rfl) hw57 ?_
          try simp only [Act.put, List.setIfInBounds_toArray, List.set_cons_zero, List.set_cons_succ]
          refine wpAnyH_ready (rs := [11]) (by kernel_rfl) (by decide) ?_
          refine AllReadyH.cons rfl (fun K hK => ?_) AllReadyH.nil
          refine step_store none (by kernel_rfl) (by kernel_rfl) 30 (.tmp 10) (.tmp 25) rfl g10 (by kernel_rfl) 30 Z (srcV t A2 c2) ex59.1 (by kernel_rfl) (ZT.out _ _) (ST.out _ _) (OT.out _ _) ?_
          intro w61 hkw61 hsw61 hbw61 how61
          have ex62 := ex58.store ex59.1 ⟨hn7, trivial⟩ hsw61.out hbw61 how61
          have ex63 := ex60.store ex59.1 hA11 hsw61.out hbw61 how61
          have ex64 : Fx [.blk g10 30 (srcV t A2 c2)] w61 := ⟨hkw61.out, trivial⟩
          refine hK.out _ _ (hw57.store ex59.1 ⟨hn3, hAo11, hle11⟩ hsw61.out hbw61 how61) (fun hw61 => ?_)
          clear hK K
          try simp only [Act.put, List.setIfInBounds_toArray, List.set_cons_zero, List.set_cons_succ]
          refine held_v 12 (some 11) rfl (by kernel_rfl) (by kernel_rfl) (by kernel_rfl) (by kernel_rfl) (fun c a v w h => HQ2.out c a _ v w h) (by kernel_rfl) (.int .i64 E) (fun W h => by kernel_rfl) hw61 ?_
          try simp only [Act.put, List.setIfInBounds_toArray, List.set_cons_zero, List.set_cons_succ]
          refine wpAnyH_done (by kernel_rfl) ?_ _
          refine HQ1.out _ _ ?_
          clear HQ1 HQ2
          have H10' : Hid (Blk w61 g10 30 (srcV t A2 c2)) := Lib.hid ex64.1
          have HH2' := Lib.hid (fun w' h3 h4 => HEND.out _ HB0.out A2 c2 w' hSP.out hC2.out hM2.out h3 h4)
          have SV2' := Lib.hid (ST.out A2 c2)
          have OV2' := Lib.hid (OT.out A2 c2)
          have ZV2' := Lib.hid (ZT.out A2 c2)
          obtain ⟨V2, hV2⟩ : ∃ V2, srcV t A2 c2 = V2 := ⟨_, rfl⟩
          rw [hV2] at H10' HH2' SV2' OV2' ZV2' ⊢
          have H10 := H10'
          have HH2 := HH2'
          have SV2 := SV2'
          have OV2 := OV2'
          have ZV2 := ZV2'
          clear H10' HH2' SV2' OV2' ZV2' hV2
          have HD : DrH v0 g7 g10 V2 A2 L zs w61 := ⟨H10.out, hw61.bel, ex63, hA27.out, fun h => hn7 h.symm, hw61.le7⟩
          have HZ9 := ex62
          have HOB := Lib.hid (HTB.out _ HD.bel)
          have HOP := Lib.hid (HPR.out _ HD.bel)
          go_wp2
          have HZ7 := HZ9.drew
          refine wp_region_held_drew (S := (DrH v0 g7 g10 V2 A2 L zs)) (by kernel_rfl) HD.drew (fun hH => ?_)
          refine wpAnyH_letter #[false, false, false, false, false] (by kernel_rfl) (fun _ _ d _ _ h => by cases d <;> exact h) (fun QL HQ1 HQ2 => ?_)
          refine held_row 0 (some 29) rfl (by kernel_rfl) (by kernel_rfl) (by kernel_rfl) (by kernel_rfl) (fun c a v w h => HQ2.out c a _ v w h) (by kernel_rfl) 30 (.tmp 10) rfl g10 (by kernel_rfl) 30 V2 (fun _ h => h.blk) _ Tryz.underlying30 rfl SV2.out hH ?_
          try simp only [Act.put, List.setIfInBounds_toArray, List.set_cons_zero, List.set_cons_succ]
          refine held_v 1 (some 30) rfl (by kernel_rfl) (by kernel_rfl) (by kernel_rfl) (by kernel_rfl) (fun c a v w h => HQ2.out c a _ v w h) (by kernel_rfl) (.int .i64 E) (fun W h => by kernel_rfl) hH ?_
          try simp only [Act.put, List.setIfInBounds_toArray, List.set_cons_zero, List.set_cons_succ]
          refine held_v 2 (some 6) rfl (by kernel_rfl) (by kernel_rfl) (by kernel_rfl) (by kernel_rfl) (fun c a v w h => HQ2.out c a _ v w h) (by kernel_rfl) (.int .i64 0) (fun W h => by kernel_rfl) hH ?_
          try simp only [Act.put, List.setIfInBounds_toArray, List.set_cons_zero, List.set_cons_succ]
          refine wpAnyH_ready (rs := [3]) (by kernel_rfl) (by decide) ?_
          refine AllReadyH.cons rfl (fun K hK => ?_) AllReadyH.nil
          refine step_store none (by kernel_rfl) (by kernel_rfl) 30 (.tmp 7) (.tmp 29) rfl g7 (by kernel_rfl) 30 Z V2 HZ7.1 (by kernel_rfl) ZV2.out SV2.out OV2.out ?_
          intro w141 hkw141 hsw141 hbw141 how141
          have ex142 : Fx [.blk g7 30 V2] w141 := ⟨hkw141.out, trivial⟩
          refine hK.out _ _ (hH.store HZ7.1 hH.store7 hsw141.out hbw141 how141) (fun hw141 => ?_)
          clear hK K
          try simp only [Act.put, List.setIfInBounds_toArray, List.set_cons_zero, List.set_cons_succ]
          refine held_v 4 (some 8) rfl (by kernel_rfl) (by kernel_rfl) (by kernel_rfl) (by kernel_rfl) (fun c a v w h => HQ2.out c a _ v w h) (by kernel_rfl) (.int .i64 E) (fun W h => by kernel_rfl) hw141 ?_
          try simp only [Act.put, List.setIfInBounds_toArray, List.set_cons_zero, List.set_cons_succ]
          refine wpAnyH_done (by kernel_rfl) ?_ _
          refine HQ1.out _ _ ?_
          clear HQ1 HQ2
          go_wp2_with (refine bodyPost_mid 6 7 8 30 rfl g7 rfl (.int .i64 0) (.int .i64 E) rfl rfl 30 V2 ex142.1 _ Tryz.underlying30 rfl SV2.out rfl ?_)
          exact HH2.out _ hw141.rd.rd hw141.bel
      · refine step_alloc (some 10) (by kernel_rfl) (by kernel_rfl) 30 rfl Z HZ0.out ?_
        intro w65 hkw65 hsw65 hbw65
        obtain ⟨g10, hg10⟩ : ∃ g, w3.drew.heap.size = g := ⟨_, rfl⟩
        have hAo11 := Apt.of_lt (g := g10) hH.rd.rd (Nat.le_of_eq hg10)
        have hn3 : g4 ≠ g10 := by have := hH.lt3; omega
        have hn7 : g7 ≠ g10 := by have := hH.lt7; omega
        have hle11 : v0.heap.size ≤ g10 := by have := hH.bel.size; omega
        rw [hg10] at hkw65
        rw [hg10]
        have ex66 := HZ7.below hbw65
        have ex67 : Fx [.blk g10 30 Z] w65 := ⟨hkw65.out, trivial⟩
        refine hK.out _ _ (hH.below hbw65) (fun hw65 => ?_)
        clear hK K
        try simp only [Act.put, List.setIfInBounds_toArray, List.set_cons_zero, List.set_cons_succ]
        refine wpAnyH_ready (rs := [2]) (by kernel_rfl) (by decide) ?_
        refine AllReadyH.cons rfl (fun K hK => ?_) AllReadyH.nil
        refine step_call (some 21) (by kernel_rfl) (by kernel_rfl) _ _ (by kernel_rfl) _ (HSZ.out _ (HPR.out _ hw65.bel)) ?_
        rintro e w68 ⟨rfl, hbw68⟩
        have ex69 := ex66.below hbw68
        have ex70 := ex67.below hbw68
        refine ⟨_, rfl, ?_⟩
        refine hK.out _ _ (hw65.below hbw68) (fun hw68 => ?_)
        clear hK K
        try simp only [Act.put, List.setIfInBounds_toArray, List.set_cons_zero, List.set_cons_succ]
        refine wpAnyH_ready (rs := [4]) (by kernel_rfl) (by decide) ?_
        refine AllReadyH.cons rfl (fun K hK => ?_) AllReadyH.nil
        refine step_call (some 23) (by kernel_rfl) (by kernel_rfl) _ _ (by kernel_rfl) _ (HDR.out w68 hw68.rd.rd) ?_
        rintro e w71 ⟨A2, c2, rfl, hrd2, hc2, hm2, hsp2, hbw71⟩
        have hSP : Hid (Sep v0 A0 A2) := Lib.hid (sep_from hsp2 hw68.bel.size)
        have hA27 := Lib.hid (Apt.of_sep hsp2 hw68.apt7 hw68.lt7)
        have hC2 := Lib.hid hc2
        have hM2 := Lib.hid hm2
        have hA11 := Apt.of_sep hsp2 hAo11 ex70.1.lt
        have ex72 := ex69.below hbw71
        have ex73 := ex70.below hbw71
        have ex74 : RdP A2 L zs w71 := hrd2
        clear hrd2 hc2 hm2 hsp2
        refine ⟨_, rfl, ?_⟩
        refine hK.out _ _ (hw68.below hbw71) (fun hw71 => ?_)
        clear hK K
        try simp only [Act.put, List.setIfInBounds_toArray, List.set_cons_zero, List.set_cons_succ]
        refine held_v 5 (some 18) rfl (by kernel_rfl) (by kernel_rfl) (by kernel_rfl) (by kernel_rfl) (fun c a v w h => HQ2.out c a _ v w h) (by kernel_rfl) (.tuple #[.int .u64 x, .agg (srcV t A2 c2), .int .i64 E]) (fun W h => by kernel_rfl) hw71 ?_
        try simp only [Act.put, List.setIfInBounds_toArray, List.set_cons_zero, List.set_cons_succ]
        refine held_v 6 (some 24) rfl (by kernel_rfl) (by kernel_rfl) (by kernel_rfl) (by kernel_rfl) (fun c a v w h => HQ2.out c a _ v w h) (by kernel_rfl) (.int .u64 x) (fun W h => by kernel_rfl) hw71 ?_
        try simp only [Act.put, List.setIfInBounds_toArray, List.set_cons_zero, List.set_cons_succ]
        refine held_v 7 (some 25) rfl (by kernel_rfl) (by kernel_rfl) (by kernel_rfl) (by kernel_rfl) (fun c a v w h => HQ2.out c a _ v w h) (by kernel_rfl) (.agg (srcV t A2 c2)) (fun W h => by kernel_rfl) hw71 ?_
        try simp only [Act.put, List.setIfInBounds_toArray, List.set_cons_zero, List.set_cons_succ]
        refine held_v 8 (some 26) rfl (by kernel_rfl) (by kernel_rfl) (by kernel_rfl) (by kernel_rfl) (fun c a v w h => HQ2.out c a _ v w h) (by kernel_rfl) (.int .i64 E) (fun W h => by kernel_rfl) hw71 ?_
        try simp only [Act.put, List.setIfInBounds_toArray, List.set_cons_zero, List.set_cons_succ]
        refine held_v 10 (some 9) rfl (by kernel_rfl) (by kernel_rfl) (by kernel_rfl) (by kernel_rfl) (fun c a v w h => HQ2.out c a _ v w h) (by kernel_rfl) (.int .u64 x) (fun W h => by kernel_rfl) hw71 ?_
        try simp only [Act.put, List.setIfInBounds_toArray, List.set_cons_zero, List.set_cons_succ]
        refine wpAnyH_ready (rs := [11]) (by kernel_rfl) (by decide) ?_
        refine AllReadyH.cons rfl (fun K hK => ?_) AllReadyH.nil
        refine step_store none (by kernel_rfl) (by kernel_rfl) 30 (.tmp 10) (.tmp 25) rfl g10 (by kernel_rfl) 30 Z (srcV t A2 c2) ex73.1 (by kernel_rfl) (ZT.out _ _) (ST.out _ _) (OT.out _ _) ?_
        intro w75 hkw75 hsw75 hbw75 how75
        have ex76 := ex72.store ex73.1 ⟨hn7, trivial⟩ hsw75.out hbw75 how75
        have ex77 := ex74.store ex73.1 hA11 hsw75.out hbw75 how75
        have ex78 : Fx [.blk g10 30 (srcV t A2 c2)] w75 := ⟨hkw75.out, trivial⟩
        refine hK.out _ _ (hw71.store ex73.1 ⟨hn3, hAo11, hle11⟩ hsw75.out hbw75 how75) (fun hw75 => ?_)
        clear hK K
        try simp only [Act.put, List.setIfInBounds_toArray, List.set_cons_zero, List.set_cons_succ]
        refine held_v 12 (some 11) rfl (by kernel_rfl) (by kernel_rfl) (by kernel_rfl) (by kernel_rfl) (fun c a v w h => HQ2.out c a _ v w h) (by kernel_rfl) (.int .i64 E) (fun W h => by kernel_rfl) hw75 ?_
        try simp only [Act.put, List.setIfInBounds_toArray, List.set_cons_zero, List.set_cons_succ]
        refine wpAnyH_done (by kernel_rfl) ?_ _
        refine HQ1.out _ _ ?_
        clear HQ1 HQ2
        have H10' : Hid (Blk w75 g10 30 (srcV t A2 c2)) := Lib.hid ex78.1
        have HH2' := Lib.hid (fun w' h3 h4 => HEND.out _ HB0.out A2 c2 w' hSP.out hC2.out hM2.out h3 h4)
        have SV2' := Lib.hid (ST.out A2 c2)
        have OV2' := Lib.hid (OT.out A2 c2)
        have ZV2' := Lib.hid (ZT.out A2 c2)
        obtain ⟨V2, hV2⟩ : ∃ V2, srcV t A2 c2 = V2 := ⟨_, rfl⟩
        rw [hV2] at H10' HH2' SV2' OV2' ZV2' ⊢
        have H10 := H10'
        have HH2 := HH2'
        have SV2 := SV2'
        have OV2 := OV2'
        have ZV2 := ZV2'
        clear H10' HH2' SV2' OV2' ZV2' hV2
        have HD : DrH v0 g7 g10 V2 A2 L zs w75 := ⟨H10.out, hw75.bel, ex77, hA27.out, fun h => hn7 h.symm, hw75.le7⟩
        have HZ9 := ex76
        have HOB := Lib.hid (HTB.out _ HD.bel)
        have HOP := Lib.hid (HPR.out _ HD.bel)
        go_wp2
        have HZ7 := HZ9.drew
        refine wp_region_held_drew (S := (DrH v0 g7 g10 V2 A2 L zs)) (by kernel_rfl) HD.drew (fun hH => ?_)
        refine wpAnyH_letter #[false, false, false, false, false] (by kernel_rfl) (fun _ _ d _ _ h => by cases d <;> exact h) (fun QL HQ1 HQ2 => ?_)
        refine held_row 0 (some 29) rfl (by kernel_rfl) (by kernel_rfl) (by kernel_rfl) (by kernel_rfl) (fun c a v w h => HQ2.out c a _ v w h) (by kernel_rfl) 30 (.tmp 10) rfl g10 (by kernel_rfl) 30 V2 (fun _ h => h.blk) _ Tryz.underlying30 rfl SV2.out hH ?_
        try simp only [Act.put, List.setIfInBounds_toArray, List.set_cons_zero, List.set_cons_succ]
        refine held_v 1 (some 30) rfl (by kernel_rfl) (by kernel_rfl) (by kernel_rfl) (by kernel_rfl) (fun c a v w h => HQ2.out c a _ v w h) (by kernel_rfl) (.int .i64 E) (fun W h => by kernel_rfl) hH ?_
        try simp only [Act.put, List.setIfInBounds_toArray, List.set_cons_zero, List.set_cons_succ]
        refine held_v 2 (some 6) rfl (by kernel_rfl) (by kernel_rfl) (by kernel_rfl) (by kernel_rfl) (fun c a v w h => HQ2.out c a _ v w h) (by kernel_rfl) (.int .i64 0) (fun W h => by kernel_rfl) hH ?_
        try simp only [Act.put, List.setIfInBounds_toArray, List.set_cons_zero, List.set_cons_succ]
        refine wpAnyH_ready (rs := [3]) (by kernel_rfl) (by decide) ?_
        refine AllReadyH.cons rfl (fun K hK => ?_) AllReadyH.nil
        refine step_store none (by kernel_rfl) (by kernel_rfl) 30 (.tmp 7) (.tmp 29) rfl g7 (by kernel_rfl) 30 Z V2 HZ7.1 (by kernel_rfl) ZV2.out SV2.out OV2.out ?_
        intro w141 hkw141 hsw141 hbw141 how141
        have ex142 : Fx [.blk g7 30 V2] w141 := ⟨hkw141.out, trivial⟩
        refine hK.out _ _ (hH.store HZ7.1 hH.store7 hsw141.out hbw141 how141) (fun hw141 => ?_)
        clear hK K
        try simp only [Act.put, List.setIfInBounds_toArray, List.set_cons_zero, List.set_cons_succ]
        refine held_v 4 (some 8) rfl (by kernel_rfl) (by kernel_rfl) (by kernel_rfl) (by kernel_rfl) (fun c a v w h => HQ2.out c a _ v w h) (by kernel_rfl) (.int .i64 E) (fun W h => by kernel_rfl) hw141 ?_
        try simp only [Act.put, List.setIfInBounds_toArray, List.set_cons_zero, List.set_cons_succ]
        refine wpAnyH_done (by kernel_rfl) ?_ _
        refine HQ1.out _ _ ?_
        clear HQ1 HQ2
        go_wp2_with (refine bodyPost_mid 6 7 8 30 rfl g7 rfl (.int .i64 0) (.int .i64 E) rfl rfl 30 V2 ex142.1 _ Tryz.underlying30 rfl SV2.out rfl ?_)
        exact HH2.out _ hw141.rd.rd hw141.bel
end Go.Proofs.YtomkidgmpbjgeaaGreatDoor
/-
  What the reference's List of stage 15 returns, and that memory is left as it was.
  Conditions: the arguments lie in their types' ranges; there are at most 1000 stakes.
-/
set_option maxRecDepth 100000
set_option linter.unusedVariables false
set_option linter.unusedSimpArgs false
namespace Go.Proofs.YtomkidgmpbjgeaaGreatDoor
open Go.ChangeShapes Go.WideShapes Go.ChangeAt Go.RowKit
theorem pr_keepT {v0 : World} {A : Option Addr} {n : Nat} {ts : List (Int × Int)} (h : RdPr .u64 .i64 v0 v0.heap.size A n ts) : ∀ W, Below v0.heap.size v0 W → RdPr .u64 .i64 W W.heap.size A n ts := fun _ hb => h.to hb
set_option maxHeartbeats 16000000 in
theorem r15list_c (l : List Int) (hz : ∀ z ∈ l, 0 ≤ z ∧ z < 18446744073709551616) (AL : Option Addr) (n c : Nat) (hn : n ≤ 1000) (s : Src) (ok : s.Ok) (a : Int) (a0 : -9223372036854775808 ≤ a) (a1 : a < 9223372036854775808) (A0 : Option Addr) (c0 : Nat) (hc : s.tape.length ≤ c0) (hcm : c0 ≤ maxLen) (w : World) (hrl : Rd .u64 w w.heap.size AL n l) (hrd : Rd .u8 w w.heap.size A0 s.tape.length s.tape) :
    Calls Tryz.prog 11 #[.slice AL n c, .agg (srcV s A0 c0), .int .i64 a] w (RetLead w s A0 (pikR l s a)) := by
  have HZ0 := Lib.hid zero_src
  have hRd := Lib.hid hrd
  have HRL : Hid (∀ W, Below w.heap.size w W → Rd .u64 W W.heap.size AL n l) := Lib.hid (fun W hb => (hrl.below hb).mono hb.size)
  have HZSS := Lib.hid (fun (t : Src) (h : t.seed.length = 32) A c => srcV_same Src.zero t rfl h none A 0 c)
  have hlen := hrl.len
  have hz0 : ∀ z ∈ l, 0 ≤ z := fun z h => (hz z h).1
  have hbd := fun W h => r14build_c l hz AL n c hn W h
  obtain ⟨q0, q1, q2, q3⟩ := tb_in hz0
  have hPO := q3 (by omega)
  have hdw := fun A' c' W h1 h2 => r15draw_c (tbT l) q0 (by omega) (tbC l) hPO A' (tbC l).length c' (by omega) s ok a a0 a1 A0 c0 hc hcm W h1 h2
  obtain ⟨Z, hZ⟩ : ∃ Z, srcV Src.zero none 0 = Z := ⟨_, rfl⟩
  rw [hZ] at HZ0 HZSS
  have SV := Lib.hid (sizedS s ok.sl A0 c0)
  have OV := Lib.hid (srcV_ones s A0 c0)
  have ZV := Lib.hid (HZSS.out s ok.sl A0 c0)
  have okX := (pikT_in (tbT l) (tbC l) s a ok).1
  have hgo := pikR_go (l := l) s a
  have her := pikR_err (l := l) s a
  obtain ⟨E, hE⟩ : ∃ E, tbE l = E := ⟨_, rfl⟩
  obtain ⟨T, hT⟩ : ∃ T, tbT l = T := ⟨_, rfl⟩
  obtain ⟨ts, hts⟩ : ∃ ts, tbC l = ts := ⟨_, rfl⟩
  rw [hT, hts, hE] at hbd
  rw [hT, hts] at hdw okX
  rw [hE] at her hgo
  rw [hT, hts] at hgo
  obtain ⟨nn, hnn⟩ : ∃ nn, ts.length = nn := ⟨_, rfl⟩
  rw [hnn] at hbd hdw
  unfold RetTab at hbd
  have HBD := Lib.hid hbd
  by_cases h0 : E = 0
  · rw [hgo h0]
    have t2 : (E == 0) = true := by rw [beq_iff_eq]; exact h0
    have t3 : (E != 0) = false := by rw [bne, t2]; rfl
    obtain ⟨rr, hrr⟩ : ∃ r, pikT T ts s a = r := ⟨_, rfl⟩
    rw [hrr] at hdw okX ⊢
    obtain ⟨x, X, e2⟩ := rr
    have ST := Lib.hid (fun A c => sizedS X okX.sl A c)
    have OT := Lib.hid (fun A c => srcV_ones X A c)
    have ZT := Lib.hid (fun A c => HZSS.out X okX.sl A c)
    unfold RetLead at hdw ⊢
    dsimp only at hdw okX ⊢
    obtain ⟨V, hV⟩ : ∃ V, srcV s A0 c0 = V := ⟨_, rfl⟩
    rw [hV] at SV OV ZV hdw ⊢
    obtain ⟨zs, hzs⟩ : ∃ zs, s.tape = zs := ⟨_, rfl⟩
    obtain ⟨L, hL⟩ : ∃ L, zs.length = L := ⟨_, rfl⟩
    rw [hzs, hL] at hdw ⊢
    rw [hzs, hL] at hRd
    have HDW := Lib.hid hdw
    clear hV hzs hL hdw hbd hgo her hrr okX hT hts hE hnn hZ hz hz0 hrl hrd hc hcm hn hlen q0 q1 q2 q3 hPO HZSS a0 a1 h0 ok
    go_enter Tryz.func11, Tryz.ntmps11
    go_wp2_with (first
      | (with_reducible refine at_any ?_; refine at_dst 4 rfl ?_; refine wpList_box_any rfl 30 (.tmp 1) rfl V rfl ?_; intro w1 hk1 hs1 hb1)
      | (with_reducible refine at_any ?_; refine at_dst 7 rfl ?_; refine wpList_alloc_any rfl 30 rfl Z HZ0.out ?_; intro w2 hk2 hs2 hb2; have HS2 := DrS.mk2 hRd.out hk1.out hb1 hk2.out hb2 (Below.refl _ _); have HZ2 := fx1 hk2.out; clear hs1 hb1 hs2 hb2 hk1 hk2)
      | (go_at_call 13; (with_reducible refine (HBD.out _ (HRL.out _ HS2.bel)).mono ?_); rintro e w3 ⟨A3, c3, rfl, hr3, hl3, hm3, hb3⟩; have HS3 := HS2.below hb3; have HZ3 := HZ2.below hb3; have HP3 := Lib.hid (pr_keepT hr3); clear hb3 hr3 HS2 HZ2)
      | (with_reducible refine at_any ?_; refine at_dst 9 rfl ?_; refine wpList_alloc_any rfl 25 rfl #[.int .u64 0, .slice none 0 0] zero_tabL ?_; intro w4 hk4 hs4 hb4)
      | (with_reducible refine at_any ?_; refine at_store 9 rfl ?_; refine wpList_store_any rfl 25 (.tmp 9) (.tmp 14) rfl w3.heap.size rfl 25 #[.int .u64 0, .slice none 0 0] #[.int .u64 T, .slice A3 nn c3] hk4.out rfl (sameT2 _ _ _ _) (sizedT _ _) (onesT _ _ _ _) ?_; intro w5 hk5 hs5 hb5 ho5; have hb35 := Below.trans hb4 (hb5 _ (Nat.le_refl _)); have HS := HS3.below hb35; have HZ := HZ3.below hb35; have HP := Lib.hid (HP3.out _ hb35); have HT := Lib.hid hk5.out; clear hk4 hs4 hb4 hk5 hs5 hb5 ho5 hb35 HS3 HZ3 HP3)
      | (with_reducible refine at_any ?_; refine at_dst 20 rfl ?_; refine wpList_load_tab (by kernel_rfl) (.tmp 9) rfl w3.heap.size rfl 25 (.int .u64 T) (.slice A3 nn c3) HT.out ?_)
      | (with_reducible refine at_any ?_; refine at_dst 21 rfl ?_; refine wpList_load_blk rfl 30 (.tmp 4) rfl w.heap.size rfl 30 V HS.blk _ Tryz.underlying30 rfl SV.out ?_)
      | (go_at_call 7; (with_reducible refine (HDW.out A3 c3 _ HP.out HS.rd.rd).mono ?_); rintro e w6 ⟨A2, c2, rfl, hr6, hl6, hm6, hp6, hb6⟩; have HS6 := HS.below hb6; have HZ6 := HZ.below hb6; have HR6 : RdP A2 L zs w6 := hr6; have HA6 := Apt.of_sep hp6 HS.apt7 HS.lt7; have HQ6 := Lib.hid (sep_from hp6 HS.bel.size); have SV2 := Lib.hid (ST.out A2 c2); have OV2 := Lib.hid (OT.out A2 c2); have ZV2 := Lib.hid (ZT.out A2 c2); have HL6 := Lib.hid hl6; have HM6 := Lib.hid hm6; clear hr6 hp6 hb6 HS HZ hl6 hm6)
      | (with_reducible refine at_any ?_; refine at_store 7 rfl ?_; refine wpList_store_any rfl 30 (.tmp 7) (.tmp 25) rfl w1.heap.size rfl 30 Z (srcV X A2 c2) (Fx.b0 HZ6) rfl ZV2.out SV2.out OV2.out ?_; intro w7 hk7 hs7 hb7 ho7; have HE7 := Lib.hid (HR6.store (Fx.b0 HZ6) HA6 hs7.out hb7 ho7); have HB7 := Lib.hid (Below.trans HS6.bel (hb7 _ HS6.le7)); have HK7 := Lib.hid hk7.out; clear hk7 hs7 hb7 ho7)
      | (refine bodyPost_mid 6 7 8 30 rfl w1.heap.size rfl (.int .i64 x) (.int .i64 e2) rfl rfl 30 (srcV X A2 c2) HK7.out _ Tryz.underlying30 rfl SV2.out rfl ?_))
    exact ⟨A2, c2, rfl, HE7.out, HL6.out, HM6.out, HQ6.out, HB7.out⟩
  · rw [her h0]
    have t2 : (E == 0) = false := by rw [beq_eq_false_iff_ne]; exact h0
    have t3 : (E != 0) = true := by rw [bne, t2]; rfl
    have HEND0 : Hid (∀ w', RdP A0 s.tape.length s.tape w' → Below w.heap.size w w' → RetLead w s A0 (0, s, E) (.returned (.tuple #[.int .i64 0, .agg (srcV s A0 c0), .int .i64 E])) w') := Lib.hid (fun w' hr hb => ⟨A0, c0, rfl, hr, hc, hcm, .inl rfl, hb⟩)
    obtain ⟨rr, hrr⟩ : ∃ r : Int × Src × Int, (0, s, E) = r := ⟨_, rfl⟩
    rw [hrr] at HEND0 ⊢
    obtain ⟨V, hV⟩ : ∃ V, srcV s A0 c0 = V := ⟨_, rfl⟩
    rw [hV] at SV OV ZV HEND0 ⊢
    obtain ⟨zs, hzs⟩ : ∃ zs, s.tape = zs := ⟨_, rfl⟩
    obtain ⟨L, hL⟩ : ∃ L, zs.length = L := ⟨_, rfl⟩
    rw [hzs, hL] at HEND0
    rw [hzs, hL] at hRd
    have HEND : Hid (∀ (v : World) w', RdP A0 L zs w' → Below w.heap.size w w' → RetLead w s A0 rr (.returned (.tuple #[.int .i64 0, .agg V, .int .i64 E])) w') := Lib.hid (fun _ w' h1 h2 => HEND0.out w' h1 h2)
    clear HEND0 hrr hV hzs hL hdw hbd hgo her okX hT hts hE hnn hZ hz hz0 hrl hrd hc hcm hn hlen q0 q1 q2 q3 hPO HZSS a0 a1 h0 ok
    go_enter Tryz.func11, Tryz.ntmps11
    go_wp2_with (first
      | (with_reducible refine at_any ?_; refine at_dst 4 rfl ?_; refine wpList_box_any rfl 30 (.tmp 1) rfl V rfl ?_; intro w1 hk1 hs1 hb1)
      | (with_reducible refine at_any ?_; refine at_dst 7 rfl ?_; refine wpList_alloc_any rfl 30 rfl Z HZ0.out ?_; intro w2 hk2 hs2 hb2; have HS2 := DrS.mk2 hRd.out hk1.out hb1 hk2.out hb2 (Below.refl _ _); have HZ2 := fx1 hk2.out; clear hs1 hb1 hs2 hb2 hk1 hk2)
      | (go_at_call 13; (with_reducible refine (HBD.out _ (HRL.out _ HS2.bel)).mono ?_); rintro e w3 ⟨A3, c3, rfl, hr3, hl3, hm3, hb3⟩; have HS3 := HS2.below hb3; have HZ3 := HZ2.below hb3; have HP3 := Lib.hid (pr_keepT hr3); clear hb3 hr3 HS2 HZ2)
      | (with_reducible refine at_any ?_; refine at_dst 9 rfl ?_; refine wpList_alloc_any rfl 25 rfl #[.int .u64 0, .slice none 0 0] zero_tabL ?_; intro w4 hk4 hs4 hb4)
      | (with_reducible refine at_any ?_; refine at_store 9 rfl ?_; refine wpList_store_any rfl 25 (.tmp 9) (.tmp 14) rfl w3.heap.size rfl 25 #[.int .u64 0, .slice none 0 0] #[.int .u64 T, .slice A3 nn c3] hk4.out rfl (sameT2 _ _ _ _) (sizedT _ _) (onesT _ _ _ _) ?_; intro w5 hk5 hs5 hb5 ho5; have hb35 := Below.trans hb4 (hb5 _ (Nat.le_refl _)); have HS := HS3.below hb35; have HZ := HZ3.below hb35; have HP := Lib.hid (HP3.out _ hb35); have HT := Lib.hid hk5.out; clear hk4 hs4 hb4 hk5 hs5 hb5 ho5 hb35 HS3 HZ3 HP3))
    obtain ⟨g4, hg4⟩ : ∃ g, w.heap.size = g := ⟨_, rfl⟩
    obtain ⟨g7, hg7⟩ : ∃ g, w1.heap.size = g := ⟨_, rfl⟩
    rw [hg4, hg7] at HS
    rw [hg7] at HZ
    rw [hg4, hg7]
    clear hg4 hg7 HP HT
    have HZ7 := HZ.drew
    refine wp_region_held_drew (S := (DrS w g4 g7 V A0 L zs)) (by kernel_rfl) HS.drew (fun hH => ?_)
    refine wpAnyH_letter #[false, false, false, false, false] (by kernel_rfl) (fun _ _ d _ _ h => by cases d <;> exact h) (fun QL HQ1 HQ2 => ?_)
    refine held_row 0 (some 18) rfl (by kernel_rfl) (by kernel_rfl) (by kernel_rfl) (by kernel_rfl) (fun c a v w h => HQ2.out c a _ v w h) (by kernel_rfl) 30 (.tmp 4) rfl g4 (by kernel_rfl) 30 V (fun _ h => h.blk) _ Tryz.underlying30 rfl SV.out hH ?_
    try simp only [Act.put, List.setIfInBounds_toArray, List.set_cons_zero, List.set_cons_succ]
    refine held_v 1 (some 19) rfl (by kernel_rfl) (by kernel_rfl) (by kernel_rfl) (by kernel_rfl) (fun c a v w h => HQ2.out c a _ v w h) (by kernel_rfl) (.int .i64 E) (fun W h => by kernel_rfl) hH ?_
    try simp only [Act.put, List.setIfInBounds_toArray, List.set_cons_zero, List.set_cons_succ]
    refine held_v 2 (some 6) rfl (by kernel_rfl) (by kernel_rfl) (by kernel_rfl) (by kernel_rfl) (fun c a v w h => HQ2.out c a _ v w h) (by kernel_rfl) (.int .i64 0) (fun W h => by kernel_rfl) hH ?_
    try simp only [Act.put, List.setIfInBounds_toArray, List.set_cons_zero, List.set_cons_succ]
    refine wpAnyH_ready (rs := [3]) (by kernel_rfl) (by decide) ?_
    refine AllReadyH.cons rfl (fun K hK => ?_) AllReadyH.nil
    refine step_store none (by kernel_rfl) (by kernel_rfl) 30 (.tmp 7) (.tmp 18) rfl g7 (by kernel_rfl) 30 Z V HZ7.1 (by kernel_rfl) ZV.out SV.out OV.out ?_
    intro w41 hkw41 hsw41 hbw41 how41
    have ex42 : Fx [.blk g7 30 V] w41 := ⟨hkw41.out, trivial⟩
    refine hK.out _ _ (hH.store HZ7.1 hH.store7 hsw41.out hbw41 how41) (fun hw41 => ?_)
    clear hK K
    try simp only [Act.put, List.setIfInBounds_toArray, List.set_cons_zero, List.set_cons_succ]
    refine held_v 4 (some 8) rfl (by kernel_rfl) (by kernel_rfl) (by kernel_rfl) (by kernel_rfl) (fun c a v w h => HQ2.out c a _ v w h) (by kernel_rfl) (.int .i64 E) (fun W h => by kernel_rfl) hw41 ?_
    try simp only [Act.put, List.setIfInBounds_toArray, List.set_cons_zero, List.set_cons_succ]
    refine wpAnyH_done (by kernel_rfl) ?_ _
    refine HQ1.out _ _ ?_
    clear HQ1 HQ2
    go_wp2_with (refine bodyPost_mid 6 7 8 30 rfl g7 rfl (.int .i64 0) (.int .i64 E) rfl rfl 30 V ex42.1 _ Tryz.underlying30 rfl SV.out rfl ?_)
    exact HEND.out w _ hw41.rd hw41.bel
end Go.Proofs.YtomkidgmpbjgeaaGreatDoor
/-
  What the reference's Great of stage 13 returns.
  Conditions: the arguments lie in their types' ranges.
-/
set_option maxRecDepth 100000
set_option linter.unusedVariables false
set_option linter.unusedSimpArgs false
namespace Go.Proofs.YtomkidgmpbjgeaaGreatDoor
open Go.ChangeShapes Go.WideShapes Go.ChangeAt Go.RowKit
/-- More than is looked at? -/
theorem r13great_c (s : Src) (tl : s.tape.length ≤ 9223372036854775807) (AL : Option Addr) (n c : Nat) (hn : n ≤ maxLen) (A : Option Addr) (c0 : Nat) (w : World) : Calls Tryz.prog 9 #[.slice AL n c, .agg (srcV s A c0)] w fun e w' => e = .returned (.bool (decide (200 < n ∨ 500 < s.tape.length))) ∧ Below w.heap.size w w' := by
  have HC := Lib.hid (fun (W : World) (g : Nat) (h : Blk W g 30 (srcV s A c0)) => (h.cell 1).trans (srcV_tape s A c0))
  have hnm : (n : Int) ≤ 9223372036854775807 := by unfold maxLen at hn; omega
  obtain ⟨V, hV⟩ : ∃ V, srcV s A c0 = V := ⟨_, rfl⟩
  obtain ⟨L, hL⟩ : ∃ x, s.tape.length = x := ⟨_, rfl⟩
  rw [hV, hL] at HC
  rw [hV, hL]
  rw [hL] at tl
  have hL2 : (L : Int) ≤ 9223372036854775807 := by omega
  clear hV hL hn tl
  by_cases h1 : 200 < n
  · rw [decide_eq_true (Or.inl h1)]
    have h2 : (200 : Int) < (n : Int) := by omega
    clear h1
    go_enter Tryz.func9, Tryz.ntmps9
    go_wp2_with (with_reducible refine at_any ?_; refine at_dst 3 rfl ?_; refine wpList_box_any rfl 30 (.tmp 1) rfl V rfl ?_; intro w1 hk1 hs1 hb1; have c1 := HC.out _ _ hk1.out; have HB1 := Lib.hid hb1)
    go_ret
    exact ⟨rfl, HB1.out⟩
  · have h2 : (n : Int) ≤ 200 := by omega
    by_cases h3 : 500 < L
    · rw [decide_eq_true (Or.inr h3)]
      have h4 : (500 : Int) < (L : Int) := by omega
      clear h1 h3
      go_enter Tryz.func9, Tryz.ntmps9
      go_wp2_with (with_reducible refine at_any ?_; refine at_dst 3 rfl ?_; refine wpList_box_any rfl 30 (.tmp 1) rfl V rfl ?_; intro w1 hk1 hs1 hb1; have c1 := HC.out _ _ hk1.out; have HB1 := Lib.hid hb1)
      go_ret
      exact ⟨rfl, HB1.out⟩
    · rw [decide_eq_false (fun h => h.elim h1 h3)]
      have h4 : (L : Int) ≤ 500 := by omega
      have d1 : decide (200 < (n : Int)) = false := decide_eq_false (by omega)
      have d2 : decide (500 < (L : Int)) = false := decide_eq_false (by omega)
      clear h1 h3
      go_enter Tryz.func9, Tryz.ntmps9
      go_wp2_with (with_reducible refine at_any ?_; refine at_dst 3 rfl ?_; refine wpList_box_any rfl 30 (.tmp 1) rfl V rfl ?_; intro w1 hk1 hs1 hb1; have c1 := HC.out _ _ hk1.out; have HB1 := Lib.hid hb1)
      go_ret
      exact ⟨rfl, HB1.out⟩
end Go.Proofs.YtomkidgmpbjgeaaGreatDoor

/-
  Texts of this claim, joined: LawR, OpenA, OpenC, SrcO. What each shows, and its conditions, stand at its own head.
-/
import Derived.Test.YtepclbmcacdhlaaGreatDoorGe
import Derived.Test.YtepclbmcacdhlaaGreatDoorRows
import Derived.ShutString
import Derived.ChangeOld
import Derived.Deep.Matrix
/-
  What stage 13's fixed fact returns.
  Conditions: the table of constants holds what the program's text lays.
-/
set_option maxRecDepth 100000
set_option linter.unusedVariables false
set_option linter.unusedSimpArgs false
namespace Go.Proofs.YtepclbmcacdhlaaGreatDoor
open Go.ChangeShapes Go.WideShapes Go.ChangeAt Go.RowKit
theorem tapeOf_ok1 (zs : List Int) (hl : zs.length ≤ 1000) (hz : ∀ z ∈ zs, 0 ≤ z ∧ z < 256) (b : Int) (b0 : 0 ≤ b) (b1 : b < 18446744073709551616) : (Src.tapeOf zs b).Ok :=
  ⟨(by show (-9223372036854775808 : Int) ≤ 1; omega), (by show (1 : Int) < 9223372036854775808; omega), (by show zs.length ≤ _; omega), hz, b0, b1, rfl, (fun z h => by obtain ⟨_, rfl⟩ := List.mem_replicate.1 h; exact ⟨by omega, by omega⟩), Int.le_refl _, (by show (0 : Int) < 18446744073709551616; omega), Int.le_refl _, (by show (0 : Int) < 18446744073709551616; omega)⟩
set_option maxHeartbeats 8000000 in
theorem alive13_c (w : World) (hkst : Kst w) : Calls Tryz.prog 5 #[] w fun e w' => e = .returned (.bool true) ∧ Below w.heap.size w w' := by
  have ok1 := tapeOf_ok1 [96] (by simp) (by decide) 8 (by omega) (by omega)
  have okt := ok1.to_ 3 (by omega) (by omega)
  have hTP : ∀ A W, Rd .u8 W W.heap.size A 1 [96] → Calls Tryz.prog 14 #[.slice A 1 1, .int .u64 8] W (fun e w' => ∃ A' c', e = .returned (.tuple #[.agg (srcV (Src.tapeOf [96] 8) A' c'), .int .i64 0]) ∧ Rd .u8 w' w'.heap.size A' 1 [96] ∧ 1 ≤ c' ∧ c' ≤ maxLen ∧ Below W.heap.size W w') := fun A W h => rstape_c [96] (by simp) 8 (by omega) (by omega) A 1 1 W h (Nat.le_refl _)
  have hTR := fun A c W h => calls_tree (r11tree_c [3, 0, 2] (by decide) (by decide) A 3 c (by omega) W h) (n := 3) rfl
  have hd1 : ∀ AF c, 3 ≤ c → c ≤ maxLen → ∀ A c0, 1 ≤ c0 → c0 ≤ maxLen → ∀ W, Rd .u64 W W.heap.size AF 3 (treeL [3, 0, 2]) → Rd .u8 W W.heap.size A 1 [96] → Kst W → Calls Tryz.prog 11 #[.agg #[.slice AF 3 c], .agg (srcV (Src.tapeOf [96] 8) A c0), .int .i64 2] W (fun e w' => ∃ A' c', e = .returned (.tuple #[.int .i64 2, .agg (srcV ((Src.tapeOf [96] 8).to 3) A' c'), .int .i64 0]) ∧ Rd .u8 w' w'.heap.size A' 1 [96] ∧ 1 ≤ c' ∧ c' ≤ maxLen ∧ Sep W A A' ∧ Below W.heap.size W w') := fun AF c g1 g2 A c0 h1 h2 W h0 h3 h4 => by
    have h := q13draw_c [3, 0, 2] (by decide) (by decide) (by decide) AF 3 c rfl g1 g2 (Src.tapeOf [96] 8) ok1 2 (by omega) (by omega) A c0 h1 h2 W h0 h3 h4
    unfold RetLead at h
    rw [show ledT [3, 0, 2] (Src.tapeOf [96] 8) 2 = (2, ((Src.tapeOf [96] 8).to 3), 0) by kernel_rfl] at h
    exact h
  have hd3 : ∀ AF c, 3 ≤ c → c ≤ maxLen → ∀ A c0, 1 ≤ c0 → c0 ≤ maxLen → ∀ W, Rd .u64 W W.heap.size AF 3 (treeL [3, 0, 2]) → Rd .u8 W W.heap.size A 1 [96] → Kst W → Calls Tryz.prog 11 #[.agg #[.slice AF 3 c], .agg (srcV ((Src.tapeOf [96] 8).to 3) A c0), .int .i64 9] W (fun e w' => ∃ A' c', e = .returned (.tuple #[.int .i64 0, .agg (srcV ((Src.tapeOf [96] 8).to 6) A' c'), .int .i64 0]) ∧ Rd .u8 w' w'.heap.size A' 1 [96] ∧ 1 ≤ c' ∧ c' ≤ maxLen ∧ Sep W A A' ∧ Below W.heap.size W w') := fun AF c g1 g2 A c0 h1 h2 W h0 h3 h4 => by
    have h := q13draw_c [3, 0, 2] (by decide) (by decide) (by decide) AF 3 c rfl g1 g2 ((Src.tapeOf [96] 8).to 3) okt 9 (by omega) (by omega) A c0 h1 h2 W h0 h3 h4
    unfold RetLead at h
    rw [show ledT [3, 0, 2] ((Src.tapeOf [96] 8).to 3) 9 = (0, ((Src.tapeOf [96] 8).to 6), 0) by kernel_rfl] at h
    exact h
  have hl1 : ∀ AL c, ∀ A c0, 1 ≤ c0 → c0 ≤ maxLen → ∀ W, Rd .u64 W W.heap.size AL 3 [3, 0, 2] → Rd .u8 W W.heap.size A 1 [96] → Kst W → Calls Tryz.prog 7 #[.agg (srcV (Src.tapeOf [96] 8) A c0), .int .i64 2, .slice AL 3 c] W (fun e w' => ∃ A' c', e = .returned (.tuple #[.int .i64 2, .agg (srcV ((Src.tapeOf [96] 8).to 3) A' c'), .int .i64 0]) ∧ Rd .u8 w' w'.heap.size A' 1 [96] ∧ 1 ≤ c' ∧ c' ≤ maxLen ∧ Sep W A A' ∧ Below W.heap.size W w') := fun AL c A c0 h1 h2 W h0 h3 h4 => by
    have h := q13list_c [3, 0, 2] (by decide) AL 3 c (by decide) (Src.tapeOf [96] 8) ok1 2 (by omega) (by omega) A c0 h1 h2 W h0 h3 h4
    unfold RetLead at h
    rw [show ledR [3, 0, 2] (Src.tapeOf [96] 8) 2 = (2, ((Src.tapeOf [96] 8).to 3), 0) by kernel_rfl] at h
    exact h
  have hl2 : ∀ AL c, ∀ A c0, 1 ≤ c0 → c0 ≤ maxLen → ∀ W, Rd .u64 W W.heap.size AL 1 [9223372036854775808] → Rd .u8 W W.heap.size A 1 [96] → Kst W → Calls Tryz.prog 7 #[.agg (srcV (Src.tapeOf [96] 8) A c0), .int .i64 2, .slice AL 1 c] W (fun e w' => ∃ A' c', e = .returned (.tuple #[.int .i64 0, .agg (srcV (Src.tapeOf [96] 8) A' c'), .int .i64 11]) ∧ Rd .u8 w' w'.heap.size A' 1 [96] ∧ 1 ≤ c' ∧ c' ≤ maxLen ∧ Sep W A A' ∧ Below W.heap.size W w') := fun AL c A c0 h1 h2 W h0 h3 h4 => by
    have h := q13list_c [9223372036854775808] (by decide) AL 1 c (by decide) (Src.tapeOf [96] 8) ok1 2 (by omega) (by omega) A c0 h1 h2 W h0 h3 h4
    unfold RetLead at h
    rw [show ledR [9223372036854775808] (Src.tapeOf [96] 8) 2 = (0, (Src.tapeOf [96] 8), 11) by kernel_rfl] at h
    exact h
  have hd2 : ∀ A c0, 1 ≤ c0 → c0 ≤ maxLen → ∀ W, Rd .u8 W W.heap.size A 1 [96] → Kst W → Calls Tryz.prog 11 #[.agg #[.slice none 0 0], .agg (srcV (Src.tapeOf [96] 8) A c0), .int .i64 2] W (fun e w' => ∃ A' c', e = .returned (.tuple #[.int .i64 0, .agg (srcV (Src.tapeOf [96] 8) A' c'), .int .i64 10]) ∧ Rd .u8 w' w'.heap.size A' 1 [96] ∧ 1 ≤ c' ∧ c' ≤ maxLen ∧ Sep W A A' ∧ Below W.heap.size W w') := fun A c0 h1 h2 W h3 h4 => q13draw_c [] (by decide) (by decide) (by decide) none 0 0 rfl (Nat.le_refl _) (Nat.zero_le _) (Src.tapeOf [96] 8) ok1 2 (by omega) (by omega) A c0 h1 h2 W (rd_nil _ _ _ _) h3 h4
  have hc1 := fun (W : World) (g : Nat) A c (h : Blk W g 28 (srcV ((Src.tapeOf [96] 8).to 3) A c)) => (h.cell 36).trans (srcV_at ((Src.tapeOf [96] 8).to 3) rfl A c)
  rw [show ((Src.tapeOf [96] 8).to 3).at_ = 3 from rfl] at hc1
  have hc2 := fun (W : World) (g : Nat) A c (h : Blk W g 28 (srcV (Src.tapeOf [96] 8) A c)) => (h.cell 36).trans (srcV_at (Src.tapeOf [96] 8) rfl A c)
  rw [show (Src.tapeOf [96] 8).at_ = 0 from rfl] at hc2
  have hc3 := fun (W : World) (g : Nat) A c (h : Blk W g 28 (srcV ((Src.tapeOf [96] 8).to 6) A c)) => (h.cell 36).trans (srcV_at ((Src.tapeOf [96] 8).to 6) rfl A c)
  rw [show ((Src.tapeOf [96] 8).to 6).at_ = 6 from rfl] at hc3
  have hl0 : (Src.tapeOf [96] 8).seed.length = 32 := rfl
  have hm1 : ((Src.tapeOf [96] 8).to 3).seed.length = 32 := rfl
  have hm2 : ((Src.tapeOf [96] 8).to 6).seed.length = 32 := rfl
  have HZZ := Lib.hid (fun (s : Src) (h : s.seed.length = 32) (A : Option Addr) (c : Nat) => srcV_same Src.zero s rfl h none A 0 c)
  have HZ0 := Lib.hid zero_src
  obtain ⟨T1, hT1'⟩ : ∃ S, (Src.tapeOf [96] 8).to 3 = S := ⟨_, rfl⟩
  obtain ⟨T2, hT2'⟩ : ∃ S, (Src.tapeOf [96] 8).to 6 = S := ⟨_, rfl⟩
  rw [hT1'] at hd1 hd3 hl1 hc1 hm1
  rw [hT2'] at hd3 hc3 hm2
  obtain ⟨S1, hS1⟩ : ∃ S, Src.tapeOf [96] 8 = S := ⟨_, rfl⟩
  rw [hS1] at hTP hd1 hd2 hl1 hl2 hc2 hl0
  obtain ⟨Z, hZ⟩ : ∃ Z, srcV Src.zero none 0 = Z := ⟨_, rfl⟩
  rw [hZ] at HZ0 HZZ
  obtain ⟨TF, hTF⟩ : ∃ x, treeL [3, 0, 2] = x := ⟨_, rfl⟩
  rw [hTF] at hd1 hd3 hTR
  have HLS1 := Lib.hid hl0
  have HLT1 := Lib.hid hm1
  have HLT2 := Lib.hid hm2
  have HTP := Lib.hid hTP
  have HTR := Lib.hid hTR
  have HD1 := Lib.hid hd1
  have HD2 := Lib.hid hd2
  have HD3 := Lib.hid hd3
  have HL1 := Lib.hid hl1
  have HL2 := Lib.hid hl2
  have HC1 := Lib.hid hc1
  have HC2 := Lib.hid hc2
  have HC3 := Lib.hid hc3
  have HKS := Lib.hid hkst
  have G0 := Lib.hid (Fx.bel0 w)
  clear ok1 okt hTP hTR hd1 hd2 hd3 hl1 hl2 hc1 hc2 hc3 hl0 hm1 hm2 hT1' hT2' hS1 hZ hTF hkst
  go_enter Tryz.func5, Tryz.ntmps5
  go_wp2_with (first
    | (go_at_call 14; (with_reducible refine (HTP.out _ _ (Rd.fit (rd_one _ _ _ _))).mono ?_); rintro e w1 ⟨A1, c1, rfl, hrw1, hlw1, hmw1, hbw1⟩; have lc1 := Lib.hid hlw1; have mc1 := Lib.hid hmw1; have G2 := Lib.hid (Fx.addR (Fx.alloc G0.out _) hbw1 hrw1); clear G0; clear hrw1 hbw1 hlw1 hmw1)
    | (with_reducible refine at_any ?_; refine at_dst 1 rfl ?_; refine wpList_alloc_any rfl 28 rfl Z HZ0.out ?_; intro w3 hkw3 hsw3 hbw3; have U4 := Lib.hid (Fx.under_new G2.out rfl); have G5 := Lib.hid (Fx.newB G2.out hkw3.out hbw3); clear G2; clear hkw3 hsw3 hbw3)
    | (with_reducible refine at_any ?_; refine at_store 1 rfl ?_; refine wpList_store_any rfl 28 (.tmp 1) (.tmp 22) rfl w1.heap.size rfl 28 Z (srcV S1 A1 c1) (Fx.b0 G5.out) rfl (HZZ.out S1 HLS1.out _ _) (sizedS S1 HLS1.out _ _) (srcV_ones _ _ _) ?_; intro w6 hkw6 hsw6 hbw6 how6; have G7 := Lib.hid (Fx.put1B G5.out U4.out hkw6.out hsw6.out hbw6 how6); clear G5; clear hkw6 hsw6 hbw6 how6)
    | (with_reducible refine at_any ?_; refine at_dst 24 rfl ?_; refine wpList_build3 (by kernel_rfl) (.const (.int .u64 3)) (.const (.int .u64 0)) (.const (.int .u64 2)) rfl 3 0 2 rfl rfl rfl ?_; intro gl9 w8 hrw8 hbw8; have G10 := Lib.hid (Fx.addR G7.out hbw8 hrw8); clear G7; clear hrw8 hbw8)
    | (go_at_call 13; (with_reducible refine (HTR.out _ _ _ (Fx.r0 G10.out)).mono ?_); rintro e w11 ⟨A12, c13, rfl, hrw11, hlw11, hmw11, hbw11⟩; have lc13 := Lib.hid hlw11; have mc13 := Lib.hid hmw11; have G14 := Lib.hid (Fx.addR G10.out hbw11 hrw11); clear G10; clear hrw11 hbw11 hlw11 hmw11)
    | (with_reducible refine at_any ?_; refine at_dst 3 rfl ?_; refine wpList_alloc_any rfl 38 rfl #[.slice none 0 0] zero_fen ?_; intro w15 hkw15 hsw15 hbw15; have U16 := Lib.hid (Fx.under_new G14.out rfl); have G17 := Lib.hid (Fx.newB G14.out hkw15.out hbw15); clear G14; clear hkw15 hsw15 hbw15)
    | (with_reducible refine at_any ?_; refine at_store 3 rfl ?_; refine wpList_store_any rfl 38 (.tmp 3) (.tmp 25) rfl w11.heap.size rfl 38 #[.slice none 0 0] (#[.slice A12 3 c13]) (Fx.b0 G17.out) rfl (size1 _ _) (sizedF _) (fen_ones _ _ _) ?_; intro w18 hkw18 hsw18 hbw18 how18; have G19 := Lib.hid (Fx.put1B G17.out U16.out hkw18.out hsw18.out hbw18 how18); clear G17; clear hkw18 hsw18 hbw18 how18)
    | (with_reducible refine at_any ?_; refine at_dst 27 rfl ?_; refine wpList_load_fen (by kernel_rfl) (.tmp 3) rfl w11.heap.size rfl 38 (.slice A12 3 c13) (Fx.b0 G19.out) ?_)
    | (with_reducible refine at_any ?_; refine at_dst 28 rfl ?_; refine wpList_load_blk rfl 28 (.tmp 1) rfl w1.heap.size rfl 28 (srcV S1 A1 c1) (Fx.b3 G19.out) _ Tryz.underlying28 rfl (sizedS S1 HLS1.out _ _) ?_)
    | (go_at_call 11; (with_reducible refine (HD1.out _ _ lc13.out mc13.out _ _ lc1.out mc1.out _ (Fx.r1 G19.out) (Fx.r4 G19.out) (HKS.out.below (Fx.e5 G19.out))).mono ?_); rintro e w20 ⟨A21, c22, rfl, hrw20, hlw20, hmw20, _, hbw20⟩; have lc22 := Lib.hid hlw20; have mc22 := Lib.hid hmw20; have G23 := Lib.hid (Fx.addR G19.out hbw20 hrw20); clear G19; clear hrw20 hbw20 hlw20 hmw20)
    | (with_reducible refine at_any ?_; refine at_dst 5 rfl ?_; refine wpList_alloc_any rfl 28 rfl Z HZ0.out ?_; intro w24 hkw24 hsw24 hbw24; have U25 := Lib.hid (Fx.under_new G23.out rfl); have G26 := Lib.hid (Fx.newB G23.out hkw24.out hbw24); clear G23; clear hkw24 hsw24 hbw24)
    | (with_reducible refine at_any ?_; refine at_store 5 rfl ?_; refine wpList_store_any rfl 28 (.tmp 5) (.tmp 31) rfl w20.heap.size rfl 28 Z (srcV T1 A21 c22) (Fx.b0 G26.out) rfl (HZZ.out T1 HLT1.out _ _) (sizedS T1 HLT1.out _ _) (srcV_ones _ _ _) ?_; intro w27 hkw27 hsw27 hbw27 how27; have G28 := Lib.hid (Fx.put1B G26.out U25.out hkw27.out hsw27.out hbw27 how27); clear G26; clear hkw27 hsw27 hbw27 how27)
    | (with_reducible refine at_any ?_; refine at_dst 34 rfl ?_; refine wpList_load_blk rfl 28 (.tmp 1) rfl w1.heap.size rfl 28 (srcV S1 A1 c1) (Fx.b5 G28.out) _ Tryz.underlying28 rfl (sizedS S1 HLS1.out _ _) ?_)
    | (with_reducible refine at_any ?_; refine at_dst 35 rfl ?_; refine wpList_build3 (by kernel_rfl) (.const (.int .u64 3)) (.const (.int .u64 0)) (.const (.int .u64 2)) rfl 3 0 2 rfl rfl rfl ?_; intro gl30 w29 hrw29 hbw29; have G31 := Lib.hid (Fx.addR G28.out hbw29 hrw29); clear G28; clear hrw29 hbw29)
    | (go_at_call 7; (with_reducible refine (HL1.out _ _ _ _ lc1.out mc1.out _ (Fx.r0 G31.out) (Fx.r7 G31.out) (HKS.out.below (Fx.e8 G31.out))).mono ?_); rintro e w32 ⟨A33, c34, rfl, hrw32, hlw32, hmw32, _, hbw32⟩; have lc34 := Lib.hid hlw32; have mc34 := Lib.hid hmw32; have G35 := Lib.hid (Fx.addR G31.out hbw32 hrw32); clear G31; clear hrw32 hbw32 hlw32 hmw32)
    | (with_reducible refine at_any ?_; refine at_dst 8 rfl ?_; refine wpList_alloc_any rfl 28 rfl Z HZ0.out ?_; intro w36 hkw36 hsw36 hbw36; have U37 := Lib.hid (Fx.under_new G35.out rfl); have G38 := Lib.hid (Fx.newB G35.out hkw36.out hbw36); clear G35; clear hkw36 hsw36 hbw36)
    | (with_reducible refine at_any ?_; refine at_store 8 rfl ?_; refine wpList_store_any rfl 28 (.tmp 8) (.tmp 38) rfl w32.heap.size rfl 28 Z (srcV T1 A33 c34) (Fx.b0 G38.out) rfl (HZZ.out T1 HLT1.out _ _) (sizedS T1 HLT1.out _ _) (srcV_ones _ _ _) ?_; intro w39 hkw39 hsw39 hbw39 how39; have G40 := Lib.hid (Fx.put1B G38.out U37.out hkw39.out hsw39.out hbw39 how39); clear G38; clear hkw39 hsw39 hbw39 how39)
    | (with_reducible refine at_any ?_; refine at_dst 41 rfl ?_; refine wpList_val rfl (.agg #[.slice none 0 0]) (build_fen0 _ rfl) ?_)
    | (with_reducible refine at_any ?_; refine at_dst 42 rfl ?_; refine wpList_load_blk rfl 28 (.tmp 1) rfl w1.heap.size rfl 28 (srcV S1 A1 c1) (Fx.b8 G40.out) _ Tryz.underlying28 rfl (sizedS S1 HLS1.out _ _) ?_)
    | (go_at_call 11; (with_reducible refine (HD2.out _ _ lc1.out mc1.out _ (Fx.r9 G40.out) (HKS.out.below (Fx.e10 G40.out))).mono ?_); rintro e w41 ⟨A42, c43, rfl, hrw41, hlw41, hmw41, _, hbw41⟩; have lc43 := Lib.hid hlw41; have mc43 := Lib.hid hmw41; have G44 := Lib.hid (Fx.addR G40.out hbw41 hrw41); clear G40; clear hrw41 hbw41 hlw41 hmw41)
    | (with_reducible refine at_any ?_; refine at_dst 11 rfl ?_; refine wpList_alloc_any rfl 28 rfl Z HZ0.out ?_; intro w45 hkw45 hsw45 hbw45; have U46 := Lib.hid (Fx.under_new G44.out rfl); have G47 := Lib.hid (Fx.newB G44.out hkw45.out hbw45); clear G44; clear hkw45 hsw45 hbw45)
    | (with_reducible refine at_any ?_; refine at_store 11 rfl ?_; refine wpList_store_any rfl 28 (.tmp 11) (.tmp 45) rfl w41.heap.size rfl 28 Z (srcV S1 A42 c43) (Fx.b0 G47.out) rfl (HZZ.out S1 HLS1.out _ _) (sizedS S1 HLS1.out _ _) (srcV_ones _ _ _) ?_; intro w48 hkw48 hsw48 hbw48 how48; have G49 := Lib.hid (Fx.put1B G47.out U46.out hkw48.out hsw48.out hbw48 how48); clear G47; clear hkw48 hsw48 hbw48 how48)
    | (with_reducible refine at_any ?_; refine at_dst 48 rfl ?_; refine wpList_load_blk rfl 28 (.tmp 1) rfl w1.heap.size rfl 28 (srcV S1 A1 c1) (Fx.b10 G49.out) _ Tryz.underlying28 rfl (sizedS S1 HLS1.out _ _) ?_)
    | (with_reducible refine at_any ?_; refine at_dst 49 rfl ?_; refine wpList_build1 (by kernel_rfl) (.const (.int .u64 9223372036854775808)) rfl 9223372036854775808 rfl ?_; intro gl51 w50 hrw50 hbw50; have G52 := Lib.hid (Fx.addR G49.out hbw50 hrw50); clear G49; clear hrw50 hbw50)
    | (go_at_call 7; (with_reducible refine (HL2.out _ _ _ _ lc1.out mc1.out _ (Fx.r0 G52.out) (Fx.r12 G52.out) (HKS.out.below (Fx.e13 G52.out))).mono ?_); rintro e w53 ⟨A54, c55, rfl, hrw53, hlw53, hmw53, _, hbw53⟩; have lc55 := Lib.hid hlw53; have mc55 := Lib.hid hmw53; have G56 := Lib.hid (Fx.addR G52.out hbw53 hrw53); clear G52; clear hrw53 hbw53 hlw53 hmw53)
    | (with_reducible refine at_any ?_; refine at_dst 14 rfl ?_; refine wpList_alloc_any rfl 28 rfl Z HZ0.out ?_; intro w57 hkw57 hsw57 hbw57; have U58 := Lib.hid (Fx.under_new G56.out rfl); have G59 := Lib.hid (Fx.newB G56.out hkw57.out hbw57); clear G56; clear hkw57 hsw57 hbw57)
    | (with_reducible refine at_any ?_; refine at_store 14 rfl ?_; refine wpList_store_any rfl 28 (.tmp 14) (.tmp 52) rfl w53.heap.size rfl 28 Z (srcV S1 A54 c55) (Fx.b0 G59.out) rfl (HZZ.out S1 HLS1.out _ _) (sizedS S1 HLS1.out _ _) (srcV_ones _ _ _) ?_; intro w60 hkw60 hsw60 hbw60 how60; have G61 := Lib.hid (Fx.put1B G59.out U58.out hkw60.out hsw60.out hbw60 how60); clear G59; clear hkw60 hsw60 hbw60 how60)
    | (with_reducible refine at_any ?_; refine at_dst 55 rfl ?_; refine wpList_load_fen (by kernel_rfl) (.tmp 3) rfl w11.heap.size rfl 38 (.slice A12 3 c13) (Fx.b10 G61.out) ?_)
    | (with_reducible refine at_any ?_; refine at_dst 56 rfl ?_; refine wpList_load_blk rfl 28 (.tmp 5) rfl w20.heap.size rfl 28 (srcV T1 A21 c22) (Fx.b8 G61.out) _ Tryz.underlying28 rfl (sizedS T1 HLT1.out _ _) ?_)
    | (go_at_call 11; (with_reducible refine (HD3.out _ _ lc13.out mc13.out _ _ lc22.out mc22.out _ (Fx.r11 G61.out) (Fx.r9 G61.out) (HKS.out.below (Fx.e15 G61.out))).mono ?_); rintro e w62 ⟨A63, c64, rfl, hrw62, hlw62, hmw62, _, hbw62⟩; have lc64 := Lib.hid hlw62; have mc64 := Lib.hid hmw62; have G65 := Lib.hid (Fx.addR G61.out hbw62 hrw62); clear G61; clear hrw62 hbw62 hlw62 hmw62)
    | (with_reducible refine at_any ?_; refine at_dst 17 rfl ?_; refine wpList_alloc_any rfl 28 rfl Z HZ0.out ?_; intro w66 hkw66 hsw66 hbw66; have U67 := Lib.hid (Fx.under_new G65.out rfl); have G68 := Lib.hid (Fx.newB G65.out hkw66.out hbw66); clear G65; clear hkw66 hsw66 hbw66)
    | (with_reducible refine at_any ?_; refine at_store 17 rfl ?_; refine wpList_store_any rfl 28 (.tmp 17) (.tmp 59) rfl w62.heap.size rfl 28 Z (srcV T2 A63 c64) (Fx.b0 G68.out) rfl (HZZ.out T2 HLT2.out _ _) (sizedS T2 HLT2.out _ _) (srcV_ones _ _ _) ?_; intro w69 hkw69 hsw69 hbw69 how69; have G70 := Lib.hid (Fx.put1B G68.out U67.out hkw69.out hsw69.out hbw69 how69); clear G68; clear hkw69 hsw69 hbw69 how69; have z5 := HC1.out _ _ A21 c22 (Fx.b10 G70.out); have z11 := HC2.out _ _ A42 c43 (Fx.b5 G70.out); have z17 := HC3.out _ _ A63 c64 (Fx.b0 G70.out)))
  go_ret
  exact ⟨rfl, (Fx.e17 G70.out)⟩
end Go.Proofs.YtepclbmcacdhlaaGreatDoor
/-
  A law's argument that is a slice of integers, opened.
  Conditions: the element's type is an integer type of one cell.
-/
set_option maxRecDepth 100000
namespace Go.Proofs.YtepclbmcacdhlaaGreatDoor
open Go.ChangeShapes Go.WideShapes Go.ChangeAt Go.RowKit
theorem open_rd {H : Type} {enc : TypeId × Value → H} {P : Program} {w : World} {base : Nat} {spare : Nat → Bool} {held : Bool} {t e : TypeId} {k : IntKind} {a : Option Addr} {len cap : Nat} {d : DataW H} {p : List MemPlace}
    (ht : P.underlying t = some (.slice e)) (he : P.underlying e = some (.int k)) (hc : P.cellsOf e = 1) (h : DataW.Trod enc P w base spare held t (.slice a len cap) d p) :
    ∃ zs : List Int, Rd k w w.heap.size a len zs ∧ len ≤ cap ∧ cap ≤ maxLen ∧ ∀ z ∈ zs, (Lit.int k z).wf = true := by
  obtain ⟨fuel, hf⟩ := h
  rcases open_ints ht he hc hf with ⟨hcs, _⟩ | ⟨x, l, c, zs, hcs, _, hl, hm, hz, _, hcell, hwz⟩
  · simp [Value.cells] at hcs
    obtain ⟨rfl, rfl, rfl⟩ := hcs
    exact ⟨[], Rd.none_, Nat.le_refl _, by simp [maxLen], fun _ h => by cases h⟩
  · simp [Value.cells] at hcs
    obtain ⟨rfl, rfl, rfl⟩ := hcs
    refine ⟨zs.take len, ⟨?_, fun hn => ?_⟩, hl, hm, fun z hz' => hwz z (List.mem_of_mem_take hz')⟩
    · have : len ≤ zs.length := by rw [hz]; split <;> omega
      rw [List.length_take]; omega
    · have hlen : len ≤ zs.length := by rw [hz]; split <;> omega
      obtain ⟨b, off, spot⟩ := x
      have h0 := hcell 0 (by omega)
      have hspot : spot = none := by simpa [Addr.add] using World.cell?_spot h0
      subst hspot
      have h1 : w.cell? ⟨b, off, none⟩ = some (.int k (zs.getD 0 0)) := by simpa [Addr.add] using h0
      refine ⟨b, off, rfl, World.block_lt_of_cell? w _ h1, fun j hj => ?_⟩
      have h2 := hcell j (by omega)
      rw [add_flat] at h2
      rw [h2]
      congr 2
      simp only [List.getD_eq_getElem?_getD, List.getElem?_take]
      rw [if_pos hj]
end Go.Proofs.YtepclbmcacdhlaaGreatDoor
/-
  A law's arguments, opened: a slice of slices of bytes; the cells of an array.
  Conditions: those that each theorem names.
-/
set_option maxRecDepth 100000
set_option linter.unusedVariables false
set_option linter.unusedSimpArgs false
namespace Go.Proofs.YtepclbmcacdhlaaGreatDoor
open Go.ChangeShapes Go.WideShapes Go.ChangeAt Go.RowKit
theorem rd_of_cells {k : IntKind} {w : World} {A : Option Addr} {L C : Nat} {Z : List Int} (hl : L ≤ C) (hz : Z.length = C) (h0 : A = none → C = 0) (hc : ∀ a', A = some a' → ∀ c, c < C → w.cell? (a'.add c) = some (.int k (Z.getD c 0))) : Rd k w w.heap.size A L (Z.take L) := by
  refine ⟨by rw [List.length_take]; omega, fun hn => ?_⟩
  rcases A with _ | ⟨b, off, spot⟩
  · have := h0 rfl; omega
  · have h1 := hc _ rfl 0 (by omega)
    have hspot : spot = none := by simpa [Addr.add] using World.cell?_spot h1
    subst hspot
    have h2 : w.cell? ⟨b, off, none⟩ = some (.int k (Z.getD 0 0)) := by simpa [Addr.add] using h1
    refine ⟨b, off, rfl, World.block_lt_of_cell? w _ h2, fun j hj => ?_⟩
    have h3 := hc _ rfl j (by omega)
    rw [add_flat] at h3
    rw [h3]
    congr 2
    simp only [List.getD_eq_getElem?_getD, List.getElem?_take]
    rw [if_pos hj]
theorem open_rows {H : Type} {enc : TypeId × Value → H} {P : Program} {w : World} {base : Nat} {held : Bool} {t e q : TypeId} {a : Option Addr} {len cap : Nat} {d : DataW H} {p : List MemPlace}
    (ht : P.underlying t = some (.slice e)) (he : P.underlying e = some (.slice q)) (hq : P.underlying q = some (.int .u8)) (ce : P.cellsOf e = 1) (cq : P.cellsOf q = 1) (h : DataW.Trod enc P w base (fun _ => true) held t (.slice a len cap) d p) :
    ∃ rs : List Row, RdRows w w.heap.size a len rs ∧ len ≤ cap ∧ cap ≤ maxLen ∧ ∀ r ∈ rs, r.n ≤ maxLen ∧ r.zs.length = r.n ∧ ∀ z ∈ r.zs, (Lit.int .u8 z).wf = true := by
  obtain ⟨fuel, hf⟩ := h
  rcases Go.Deep.open_int_rows ht he hq ce cq hf with ⟨hcs, _⟩ | ⟨x, l, c, A, L, C, Z, hcs, _, hl, hm, _, hr⟩
  · simp [Value.cells] at hcs
    obtain ⟨rfl, rfl, rfl⟩ := hcs
    exact ⟨[], ⟨rfl, fun h => absurd h (by omega), fun _ h => by cases h⟩, Nat.le_refl _, by simp [maxLen], fun _ h => by cases h⟩
  · simp [Value.cells] at hcs
    obtain ⟨rfl, rfl, rfl⟩ := hcs
    have hrd : ∀ r, r < len → Rd .u8 w w.heap.size (A r) (L r) ((Z r).take (L r)) := fun r h => by
      obtain ⟨_, h1, _, h3, _, h5, h6⟩ := hr r (by omega)
      exact rd_of_cells h1 h3 h5 (fun a' e' => (h6 a' e').2)
    refine ⟨(List.range len).map fun r => ⟨A r, L r, C r, (Z r).take (L r)⟩, ⟨by simp, fun hn => ?_, fun r hr' => ?_⟩, hl, hm, fun r hr' => ?_⟩
    · obtain ⟨b, off, spot⟩ := x
      have h0 := (hr 0 (by omega)).1
      have hspot : spot = none := by simpa [Addr.add] using World.cell?_spot h0
      subst hspot
      have h1 : w.cell? ⟨b, off, none⟩ = some (.slice (A 0) (L 0) (C 0)) := by simpa [Addr.add] using h0
      refine ⟨b, off, rfl, World.block_lt_of_cell? w _ h1, fun j r hj => ?_⟩
      rw [List.getElem?_map] at hj
      have hjl : j < len := by
        rcases Nat.lt_or_ge j len with h2 | h2
        · exact h2
        · rw [List.getElem?_eq_none (by simpa using h2)] at hj; cases hj
      rw [List.getElem?_range hjl] at hj
      injection hj with hj
      subst hj
      have h2 := (hr j (by omega)).1
      rw [add_flat] at h2
      exact h2
    · obtain ⟨i, hi, rfl⟩ := List.mem_map.1 hr'
      have hi' := List.mem_range.1 hi
      exact ⟨hrd i hi', (hr i (by omega)).2.1⟩
    · obtain ⟨i, hi, rfl⟩ := List.mem_map.1 hr'
      have hi' := List.mem_range.1 hi
      obtain ⟨_, h1, h2, h3, h4, _⟩ := hr i (by omega)
      exact ⟨by dsimp only; omega, (hrd i hi').1, fun z hz => h4 z (List.mem_of_mem_take hz)⟩
section
variable {H : Type} {enc : TypeId × Value → H} {P : Program} {w : World} {base : Nat} {spare : Nat → Bool} {held : Bool}
/-- The cells of an array of integers. -/
theorem trod_ints {fuel n : Nat} {t e : TypeId} {q : IntKind} {cs : List Value} {x : DataW H × List MemPlace} (ht : P.underlying t = some (.array n e)) (he : P.underlying e = some (.int q)) (hc : P.cellsOf e = 1) (hC : P.cellsOf t = n)
    (hf : DataW.trod enc P w base spare held fuel t cs = some x) : ∃ zs : List Int, zs.length = n ∧ cs = zs.map (Value.int q) ∧ ∀ z ∈ zs, (Lit.int q z).wf = true := by
  obtain ⟨xs, m, _, hx, hl, hxl, hat⟩ := DataW.trod_array ht hf
  rw [hC] at hl
  rw [hc] at hat
  have hz : ∀ i (hi : i < n), ∃ z : Int, cs[i]? = some (.int q z) ∧ (Lit.int q z).wf = true := by
    intro i hi
    have h1 := hat i hi
    have e1 : List.take 1 (List.drop (i * 1) cs) = [cs[i]'(by omega)] := by
      rw [Nat.mul_one, List.drop_eq_getElem_cons (show i < cs.length by omega), List.take_succ_cons, List.take_zero]
    rw [e1] at h1
    have hxi : xs[i]? = some (xs[i]'(by omega)) := List.getElem?_eq_getElem (by omega)
    rw [hxi] at h1
    obtain ⟨a, ea, _, wa⟩ := DataW.trod_int he h1
    refine ⟨a, ?_, wa⟩
    rw [List.getElem?_eq_getElem (by omega)]
    simpa using ea
  obtain ⟨zs, hzl, hzs⟩ := list_of n hz
  refine ⟨zs, hzl, ?_, ?_⟩
  · apply List.ext_getElem?
    intro i
    by_cases hi : i < n
    · obtain ⟨z, e1, e2, _⟩ := hzs i hi
      rw [e2, List.getElem?_map, e1]
      rfl
    · rw [List.getElem?_eq_none (by omega), List.getElem?_eq_none (by simp; omega)]
  · intro z hz'
    obtain ⟨i, hi, e⟩ := List.mem_iff_getElem.1 hz'
    obtain ⟨z', e1, _, e4⟩ := hzs i (by omega)
    rw [List.getElem?_eq_getElem hi, e] at e1
    injection e1 with e1
    rw [e1]
    exact e4
end
end Go.Proofs.YtepclbmcacdhlaaGreatDoor
/-
  A law's argument that is a source, opened.
  Conditions: those that the theorem names.
-/
set_option maxRecDepth 100000
set_option linter.unusedVariables false
set_option linter.unusedSimpArgs false
namespace Go.Proofs.YtepclbmcacdhlaaGreatDoor
open Go.ChangeShapes Go.WideShapes Go.ChangeAt Go.RowKit
theorem Src.ok_mk {kd bt dm at_ : Int} {zs sd : List Int} (k0 : -9223372036854775808 ≤ kd) (k1 : kd < 9223372036854775808) (ti : ∀ z ∈ zs, 0 ≤ z ∧ z < 256) (b0 : 0 ≤ bt) (b1 : bt < 18446744073709551616) (sl : sd.length = 32) (si : ∀ z ∈ sd, 0 ≤ z ∧ z < 256) (d0 : 0 ≤ dm) (d1 : dm < 18446744073709551616) (a0 : 0 ≤ at_) (a1 : at_ < 18446744073709551616) :
    (⟨kd, zs, bt, sd, dm, at_⟩ : Src).tape.length ≤ 140737488355328 → (⟨kd, zs, bt, sd, dm, at_⟩ : Src).Ok := fun tl => ⟨k0, k1, tl, ti, b0, b1, sl, si, d0, d1, a0, a1⟩
set_option maxHeartbeats 1000000 in
theorem open_src {H : Type} {enc : TypeId × Value → H} {w : World} {base b0 : Nat} {spare : Nat → Bool} {held : Bool} {r : Reach} {v : Value} {d : DataW H} {p : List MemPlace}
    (hv : Value.okWide Tryz.prog w r b0 28 v) (h : DataW.Trod enc Tryz.prog w base spare held 28 v d p) :
    ∃ (s : Src) (A : Option Addr) (c : Nat), v = .agg (srcV s A c) ∧ (s.tape.length ≤ 140737488355328 → s.Ok) ∧ Rd .u8 w w.heap.size A s.tape.length s.tape ∧ s.tape.length ≤ c ∧ c ≤ maxLen ∧ s.seed.length = 32 := by
  have hv' : ∃ cs : Array Value, v = .agg cs := by
    simp only [Value.okWide, Tryz.underlying28] at hv
    obtain ⟨cs, h1, _⟩ := hv
    exact ⟨cs, h1⟩
  obtain ⟨cs, rfl⟩ := hv'
  obtain ⟨fuel, hf⟩ := h
  obtain ⟨xs, m, _, _, hl, hxl, hat⟩ := DataW.trod_struct Tryz.underlying28 hf
  have hC : Tryz.prog.cellsOf 28 = 37 := by kernel_rfl
  rw [hC] at hl
  obtain ⟨ls, hls⟩ : ∃ ls, (Value.cells (.agg cs)).toList = ls := ⟨_, rfl⟩
  have hcs : cs = ls.toArray := by rw [← hls]; rfl
  rw [hls] at hl hat
  have ci : Tryz.prog.cellsOf 3 = 1 := by kernel_rfl
  have cl : Tryz.prog.cellsOf 23 = 1 := by kernel_rfl
  have cu : Tryz.prog.cellsOf 24 = 1 := by kernel_rfl
  have ch : Tryz.prog.cellsOf 26 = 32 := by kernel_rfl
  have g0 := hat 0 _ rfl
  have g1 := hat 1 _ rfl
  have g2 := hat 2 _ rfl
  have g3 := hat 3 _ rfl
  have g4 := hat 4 _ rfl
  have g5 := hat 5 _ rfl
  change DataW.trod enc Tryz.prog w base spare held m 3 (List.take (Tryz.prog.cellsOf 3) (List.drop 0 ls)) = xs[0]? at g0
  change DataW.trod enc Tryz.prog w base spare held m 23 (List.take (Tryz.prog.cellsOf 23) (List.drop 1 ls)) = xs[1]? at g1
  change DataW.trod enc Tryz.prog w base spare held m 24 (List.take (Tryz.prog.cellsOf 24) (List.drop 2 ls)) = xs[2]? at g2
  change DataW.trod enc Tryz.prog w base spare held m 26 (List.take (Tryz.prog.cellsOf 26) (List.drop 3 ls)) = xs[3]? at g3
  change DataW.trod enc Tryz.prog w base spare held m 24 (List.take (Tryz.prog.cellsOf 24) (List.drop 35 ls)) = xs[4]? at g4
  change DataW.trod enc Tryz.prog w base spare held m 24 (List.take (Tryz.prog.cellsOf 24) (List.drop 36 ls)) = xs[5]? at g5
  have hx6 : xs.length = 6 := hxl
  rw [ci, List.drop_zero, List.getElem?_eq_getElem (show 0 < xs.length by omega)] at g0
  rw [cl, List.getElem?_eq_getElem (show 1 < xs.length by omega)] at g1
  rw [cu, List.getElem?_eq_getElem (show 2 < xs.length by omega)] at g2
  rw [ch, List.getElem?_eq_getElem (show 3 < xs.length by omega)] at g3
  rw [cu, List.getElem?_eq_getElem (show 4 < xs.length by omega)] at g4
  rw [cu, List.getElem?_eq_getElem (show 5 < xs.length by omega)] at g5
  have one : ∀ i, i < 37 → List.take 1 (List.drop i ls) = [ls.getD i undef] := fun i hi => by
    rw [List.drop_eq_getElem_cons (show i < ls.length by omega), List.take_succ_cons, List.take_zero, List.getD_eq_getElem?_getD, List.getElem?_eq_getElem (show i < ls.length by omega), Option.getD_some]
  have g0' : DataW.trod enc Tryz.prog w base spare held m 3 [ls.getD 0 undef] = some (xs[0]'(by omega)) := by rw [← one 0 (by omega), List.drop_zero]; exact g0
  rw [one 1 (by omega)] at g1
  rw [one 2 (by omega)] at g2
  rw [one 35 (by omega)] at g4
  rw [one 36 (by omega)] at g5
  obtain ⟨kd, hk, _, wk⟩ := DataW.trod_int Tryz.underlying3 g0'
  obtain ⟨bt, hb, _, wb⟩ := DataW.trod_int Tryz.underlying24 g2
  obtain ⟨dm, hd, _, wd⟩ := DataW.trod_int Tryz.underlying24 g4
  obtain ⟨at_, ha, _, wa⟩ := DataW.trod_int Tryz.underlying24 g5
  injection hk with hk _
  injection hb with hb _
  injection hd with hd _
  injection ha with ha _
  obtain ⟨sd, hsl, hs, hsw⟩ := trod_ints Tryz.underlying26 Tryz.underlying5 (by kernel_rfl) (by kernel_rfl) g3
  have hsplit : ls = [ls.getD 0 undef, ls.getD 1 undef, ls.getD 2 undef] ++ (List.take 32 (List.drop 3 ls) ++ [ls.getD 35 undef, ls.getD 36 undef]) := by
    have e1 : ls = ls.take 3 ++ ls.drop 3 := (List.take_append_drop 3 ls).symm
    have e2 : ls.drop 3 = (ls.drop 3).take 32 ++ (ls.drop 3).drop 32 := (List.take_append_drop 32 _).symm
    have e3 : ls.take 3 = [ls.getD 0 undef, ls.getD 1 undef, ls.getD 2 undef] := by
      match ls, hl with
      | a :: b :: c :: l, _ => rfl
    have e4 : (ls.drop 3).drop 32 = [ls.getD 35 undef, ls.getD 36 undef] := by
      rw [List.drop_drop, List.drop_eq_getElem_cons (show 3 + 32 < ls.length by omega), List.drop_eq_getElem_cons (show 3 + 32 + 1 < ls.length by omega), List.drop_eq_nil_of_le (by omega)]
      simp [List.getD_eq_getElem?_getD, List.getElem?_eq_getElem (show 35 < ls.length by omega), List.getElem?_eq_getElem (show 36 < ls.length by omega)]
    conv => lhs; rw [e1, e2, e3, e4]
  have bk := bounds_i64 wk
  have bb := bounds_u64 wb
  have bd := bounds_u64 wd
  have ba := bounds_u64 wa
  rcases open_ints Tryz.underlying23 Tryz.underlying5 (by kernel_rfl) g1 with ⟨hcs1, _⟩ | ⟨x, l, c, zs, hcs1, _, hl1, hm1, hz1, _, hcell, hwz⟩
  · injection hcs1 with hcs1 _
    refine ⟨⟨kd, [], bt, sd, dm, at_⟩, none, 0, ?_, Src.ok_mk (by omega) (by omega) (fun _ h => (by cases h)) (by omega) (by omega) hsl (u8b hsw) (by omega) (by omega) (by omega) (by omega), Rd.none_, Nat.le_refl _, by simp [maxLen], hsl⟩
    rw [hcs, hsplit, hs, hk, hcs1, hb, hd, ha]
    rfl
  · injection hcs1 with hcs1 _
    have hlz : l ≤ zs.length := by rw [hz1]; split <;> omega
    have htl : (zs.take l).length = l := by rw [List.length_take]; omega
    refine ⟨⟨kd, zs.take l, bt, sd, dm, at_⟩, some x, c, ?_, Src.ok_mk (by omega) (by omega) (fun z hz => u8b hwz z (List.mem_of_mem_take hz)) (by omega) (by omega) hsl (u8b hsw) (by omega) (by omega) (by omega) (by omega), ?_, by rw [htl]; exact hl1, hm1, hsl⟩
    · rw [hcs, hsplit, hs, hk, hcs1, hb, hd, ha]
      unfold srcV
      rw [htl]
    · rw [htl]
      exact rd_of_cells hlz rfl (fun h => by cases h) (fun a' e' c' hc' => by injection e' with e'; subst e'; exact hcell c' hc')
end Go.Proofs.YtepclbmcacdhlaaGreatDoor

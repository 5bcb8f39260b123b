/-
  A stream draws what the tape of its first bytes draws, by the tree, and by the table; of up to 60 stakes.
  Conditions: the program's tables read, when the call begins, as its text lays them (the card ties that).
-/
import Derived.Test.YtkhlkggdibaefaaGreatDoorHGf
import Derived.ShutString
import Derived.Test.YtkhlkggdibaefaaGreatDoorTie
import Derived.Test.YtkhlkggdibaefaaGreatDoorCards
import Derived.SevenTiedAt
import Derived.ChangeOld
namespace Go.Proofs.YtkhlkggdibaefaaGreatDoor.wholeStream
open Go.ChangeShapes Go.WideShapes Go.ChangeAt Go.RowKit
set_option linter.unusedVariables false
set_option linter.unusedSimpArgs false
set_option maxRecDepth 100000

theorem own : ownKnob Tryz.prog.godebug = none := by kernel_rfl
theorem laidOut : laidOutB Tryz.prog = true := by kernel_rfl

theorem ledR_inX (l : List Int) (s : Src) (a : Int) (ok : s.Ok) : (ledR l s a).2.1.Ok := by
  unfold ledR
  split
  · exact (ledT_in l s a ok).1
  · exact ok
theorem newBI {l : List Fact} {w w' : World} {t : TypeId} {k : IntKind} {zs : List Int} (h : Fx l w) (hk : BlkI w' w.heap.size t k zs) (hb : Below w.heap.size w w') : Fx (.blk w.heap.size t (intsA k zs) :: l) w' := Fx.newB h hk hb
theorem strm_okX (s : List Int) (d : Int) (hl : s.length = 32) (hs : ∀ z ∈ s, 0 ≤ z ∧ z < 256) (d0 : 0 ≤ d) (d1 : d < 18446744073709551616) : (Src.strm s d).Ok :=
  ⟨(show (-9223372036854775808 : Int) ≤ 2 by decide), (show (2 : Int) < 9223372036854775808 by decide), Nat.zero_le _, fun _ h => (by cases h), Int.le_refl 0, (show (0 : Int) < 18446744073709551616 by decide), hl, hs, d0, d1, Int.le_refl 0, (show (0 : Int) < 18446744073709551616 by decide)⟩
set_option maxHeartbeats 16000000 in
theorem walk (a0 : List Int) (a1 : Int) (a2 : Option Addr) (n c : Nat) (zs : List Int) (w : World) (l0 : a0.length = 32) (w0 : ∀ z ∈ a0, (Lit.int .u8 z).wf = true) (w1 : (Lit.int .u64 a1).wf = true) (hrz : Rd .u64 w w.heap.size a2 n zs) (lc : n ≤ c) (cm : c ≤ maxLen) (hw : ∀ z ∈ zs, (Lit.int .u64 z).wf = true) (hkst : Kst w) :
    Calls Tryz.prog 8 #[.agg (intsA .u8 a0), .int .u64 a1, .slice a2 n c] w fun e w' => e = .returned (.bool true) ∧ Below w.heap.size w w' := by
  have HKS := Lib.hid hkst
  have hsi := u8b w0
  have hb := bounds_u64 w1
  have SS := Lib.hid (show (Tryz.prog.info? 38).map (·.size) = some a0.length by rw [l0]; exact (show (Tryz.prog.info? 38).map (·.size) = some 32 by kernel_rfl))
  have G0 : Hid (Fx [.rdb .u64 w.heap.size a2 n zs, .bel w] w) := Lib.hid ⟨⟨hrz, Nat.le_refl _⟩, Below.refl _ _, trivial⟩
  have hz : ∀ z ∈ zs, 0 ≤ z ∧ z < 18446744073709551616 := fun z h => by
    obtain ⟨h1, h2⟩ := bounds_u64 (hw z h)
    omega
  have hcm : (c : Int) ≤ 9223372036854775807 := by unfold maxLen at cm; omega
  have hnc : (n : Int) ≤ (c : Int) := by omega
  obtain ⟨sd, hsd⟩ : ∃ x, a0 = x := ⟨_, rfl⟩
  rw [hsd] at SS l0 hsi ⊢
  by_cases hbig : 60 < n
  · have hb1 : (60 : Int) < (n : Int) := by omega
    clear hrz hw w0 w1 hz hsi hkst l0 hsd hb cm lc
    go_enter Tryz.func8, Tryz.ntmps8
    go_wp2_with (first
      | (with_reducible refine at_any ?_; refine at_dst 3 rfl ?_; refine wpList_box_ints rfl 38 (.tmp 0) rfl .u8 sd rfl ?_; intro w1 hkw1 hsw1 hbw1; have G2 := Lib.hid (newBI G0.out hkw1.out hbw1); clear G0; clear hkw1 hsw1 hbw1)
      | (go_at_call 9; (with_reducible refine (aliveT_c _ (HKS.out.below (Fx.e2 G2.out))).mono ?_); rintro e w3 ⟨rfl, hbw3⟩; have G4 := Lib.hid (Fx.below G2.out hbw3); clear G2; clear hbw3))
    go_ret
    exact ⟨rfl, (Fx.e2 G4.out)⟩
  have hb1 : ¬ (60 : Int) < (n : Int) := by omega
  have okS := strm_okX sd a1 l0 hsi (by omega) (by omega)
  have hby : ∀ W, Kst W → Calls Tryz.prog 39 #[.agg (intsA .u8 sd), .int .u64 a1, .int .i64 600] W (RetBy W (bytL sd a1 600) 600) := fun W hk => qbytes_c sd a1 600 l0 hsi (by omega) (by omega) (by omega) W hk
  have hsm := fun W => qsstream_c sd l0 a1 W
  unfold RetBy at hby
  unfold RetStrm at hsm
  have hl6 := bytL_len sd a1 600
  have htp := fun A c W (h : Rd .u8 W W.heap.size A 600 (bytL sd a1 600)) (hc : 600 ≤ c) => qstape_c (bytL sd a1 600) (by rw [hl6]; omega) 4800 (by omega) (by omega) A 600 c W h hc
  unfold RetTape at htp
  have hcond : (4800 : Int) ≤ 8 * ((bytL sd a1 600).length : Int) := by rw [hl6]; decide
  simp only [if_pos hcond] at htp
  rw [hl6] at htp
  have okT : (Src.tapeOf (bytL sd a1 600) 4800).Ok := tapeOf_okX _ (by rw [hl6]; omega) (bytL_in sd a1 600) 4800 (by omega) (by omega)
  have LK := like_strm sd a1
  have hlt : (Src.tapeOf (bytL sd a1 600) 4800).tape.length = 600 := hl6
  obtain ⟨S1, hS1⟩ : ∃ S, Src.strm sd a1 = S := ⟨_, rfl⟩
  have hst : S1.tape = [] := by rw [← hS1]; rfl
  obtain ⟨S2, hS2⟩ : ∃ S, Src.tapeOf (bytL sd a1 600) 4800 = S := ⟨_, rfl⟩
  rw [hS1] at LK hsm okS
  rw [hS2] at LK htp okT hlt
  obtain ⟨by6, hby6⟩ : ∃ x, bytL sd a1 600 = x := ⟨_, rfl⟩
  have htz : S2.tape = by6 := by rw [← hS2, ← hby6]; rfl
  rw [hby6] at hby htp
  have hL1 := fun A c0 (h1 : c0 ≤ maxLen) W (h2 : Rd .u64 W W.heap.size a2 n zs) (h3 : Kst W) => q13list_c zs hz a2 n c (by omega) S1 okS 64 (by omega) (by omega) A c0 (by rw [hst]; exact Nat.zero_le _) h1 W h2 (by rw [hst]; exact rd_nil _ _ _ _) h3
  have hL2 := fun A c0 (h0 : 600 ≤ c0) (h1 : c0 ≤ maxLen) W (h2 : Rd .u64 W W.heap.size a2 n zs) (h4 : Rd .u8 W W.heap.size A 600 by6) (h3 : Kst W) => q13list_c zs hz a2 n c (by omega) S2 okT 64 (by omega) (by omega) A c0 (by rw [hlt]; exact h0) h1 W h2 (by rw [hlt, htz]; exact h4) h3
  have hP1 := fun A c0 (h1 : c0 ≤ maxLen) W (h2 : Rd .u64 W W.heap.size a2 n zs) (h3 : Kst W) => q15list_c zs hz a2 n c (by omega) S1 okS 64 (by omega) (by omega) A c0 (by rw [hst]; exact Nat.zero_le _) h1 W h2 (by rw [hst]; exact rd_nil _ _ _ _) h3
  have hP2 := fun A c0 (h0 : 600 ≤ c0) (h1 : c0 ≤ maxLen) W (h2 : Rd .u64 W W.heap.size a2 n zs) (h4 : Rd .u8 W W.heap.size A 600 by6) (h3 : Kst W) => q15list_c zs hz a2 n c (by omega) S2 okT 64 (by omega) (by omega) A c0 (by rw [hlt]; exact h0) h1 W h2 (by rw [hlt, htz]; exact h4) h3
  obtain ⟨s1, s2, s3⟩ := led_sim LK (by omega) zs
  obtain ⟨p1, p2, p3⟩ := pik_sim LK (by omega) zs
  have ou1 := (ledR_inX zs S1 64 okS).sl
  have ou2 := (ledR_inX zs S2 64 okT).sl
  have ou3 := (pikR_in zs S1 64 okS).1.sl
  have ou4 := (pikR_in zs S2 64 okT).1.sl
  unfold RetLead at hL1 hL2 hP1 hP2
  rw [hst] at hL1 hP1
  rw [hlt, htz] at hL2 hP2
  obtain ⟨r1, hr1⟩ : ∃ r, ledR zs S1 64 = r := ⟨_, rfl⟩
  obtain ⟨r2, hr2⟩ : ∃ r, ledR zs S2 64 = r := ⟨_, rfl⟩
  obtain ⟨r3, hr3⟩ : ∃ r, pikR zs S1 64 = r := ⟨_, rfl⟩
  obtain ⟨r4, hr4⟩ : ∃ r, pikR zs S2 64 = r := ⟨_, rfl⟩
  rw [hr1] at hL1 s1 s2 s3 ou1
  rw [hr2] at hL2 s1 s2 s3 ou2
  rw [hr3] at hP1 p1 p2 p3 ou3
  rw [hr4] at hP2 p1 p2 p3 ou4
  obtain ⟨i1, U1, f1⟩ := r1
  obtain ⟨i2, U2, f2⟩ := r2
  obtain ⟨i3, U3, f3⟩ := r3
  obtain ⟨i4, U4, f4⟩ := r4
  simp only at hL1 hL2 hP1 hP2 s1 s2 s3 p1 p2 p3 ou1 ou2 ou3 ou4
  subst s1 s3 p1 p3
  have hc1 := fun (W : World) (g : Nat) A c (h : Blk W g 40 (srcV U1 A c)) => (h.cell 36).trans (srcV_at U1 ou1 A c)
  have hc2 := fun (W : World) (g : Nat) A c (h : Blk W g 40 (srcV U2 A c)) => (h.cell 36).trans (srcV_at U2 ou2 A c)
  have hc3 := fun (W : World) (g : Nat) A c (h : Blk W g 40 (srcV U3 A c)) => (h.cell 36).trans (srcV_at U3 ou3 A c)
  have hc4 := fun (W : World) (g : Nat) A c (h : Blk W g 40 (srcV U4 A c)) => (h.cell 36).trans (srcV_at U4 ou4 A c)
  obtain ⟨t1, ht1⟩ : ∃ x, U1.at_ = x := ⟨_, rfl⟩
  obtain ⟨t3, ht3⟩ : ∃ x, U3.at_ = x := ⟨_, rfl⟩
  rw [ht1] at s2
  rw [ht3] at p2
  rw [ht1] at hc1
  rw [← s2] at hc2
  rw [ht3] at hc3
  rw [← p2] at hc4
  have HZZ := Lib.hid (fun (s : Src) (h : s.seed.length = 32) (A : Option Addr) (c : Nat) => srcV_same Src.zero s rfl h none A 0 c)
  have HZ0 := Lib.hid zero_src
  obtain ⟨Z, hZ⟩ : ∃ Z, srcV Src.zero none 0 = Z := ⟨_, rfl⟩
  rw [hZ] at HZ0 HZZ
  have HLS1 := Lib.hid okS.sl
  have HLS2 := Lib.hid okT.sl
  have HLU1 := Lib.hid ou1
  have HLU2 := Lib.hid ou2
  have HLU3 := Lib.hid ou3
  have HLU4 := Lib.hid ou4
  have HBY := Lib.hid hby
  have HSM := Lib.hid hsm
  have HTP := Lib.hid htp
  have HL1 := Lib.hid hL1
  have HL2 := Lib.hid hL2
  have HP1 := Lib.hid hP1
  have HP2 := Lib.hid hP2
  have HC1 := Lib.hid hc1
  have HC2 := Lib.hid hc2
  have HC3 := Lib.hid hc3
  have HC4 := Lib.hid hc4
  have e1 : (i1 == i1) = true := by simp
  have e2 : (f1 == f1) = true := by simp
  have e3 : (t1 == t1) = true := by simp
  have e4 : (i3 == i3) = true := by simp
  have e5 : (f3 == f3) = true := by simp
  have e6 : (t3 == t3) = true := by simp
  clear hrz hw w0 w1 hz hsi hkst l0 hsd hb cm lc okS okT hby hsm htp hL1 hL2 hP1 hP2 hc1 hc2 hc3 hc4 LK hst hlt htz hS1 hS2 hby6 s2 p2 ht1 ht3 hr1 hr2 hr3 hr4 ou1 ou2 ou3 ou4 hZ hl6 hbig
  go_enter Tryz.func8, Tryz.ntmps8
  go_wp2_with (first
    | (with_reducible refine at_any ?_; refine at_dst 3 rfl ?_; refine wpList_box_ints rfl 38 (.tmp 0) rfl .u8 sd rfl ?_; intro w1 hkw1 hsw1 hbw1; have G2 := Lib.hid (newBI G0.out hkw1.out hbw1); clear G0; clear hkw1 hsw1 hbw1)
    | (go_at_call 9; (with_reducible refine (aliveT_c _ (HKS.out.below (Fx.e2 G2.out))).mono ?_); rintro e w3 ⟨rfl, hbw3⟩; have G4 := Lib.hid (Fx.below G2.out hbw3); clear G2; clear hbw3)
    | (with_reducible refine at_any ?_; refine at_dst 28 rfl ?_; refine wpList_load_ints rfl 38 (.tmp 3) rfl w.heap.size rfl 38 .u8 sd (Fx.i0 G4.out) _ Tryz.underlying38 rfl SS.out ?_)
    | (go_at_call 39; (with_reducible refine (HBY.out _ (HKS.out.below (Fx.e2 G4.out))).mono ?_); rintro e w5 ⟨A6, c7, rfl, hlw5, hmw5, hrw5, hbw5⟩; have lc7 := Lib.hid hlw5; have mc7 := Lib.hid hmw5; have G8 := Lib.hid (Fx.addR G4.out hbw5 hrw5); clear G4; clear hrw5 hbw5 hlw5 hmw5)
    | (with_reducible refine at_any ?_; refine at_dst 31 rfl ?_; refine wpList_load_ints rfl 38 (.tmp 3) rfl w.heap.size rfl 38 .u8 sd (Fx.i1 G8.out) _ Tryz.underlying38 rfl SS.out ?_)
    | (go_at_call 40; (with_reducible refine (HSM.out _).mono ?_); rintro e w9 ⟨A8, c8, rfl, hmw9, hbw9⟩; have m8 := Lib.hid hmw9; have G10 := Lib.hid (Fx.below G8.out hbw9); clear G8; clear hbw9 hmw9)
    | (with_reducible refine at_any ?_; refine at_dst 8 rfl ?_; refine wpList_alloc_any rfl 40 rfl Z HZ0.out ?_; intro w11 hkw11 hsw11 hbw11; have U12 := Lib.hid (Fx.under_new G10.out rfl); have G13 := Lib.hid (Fx.newB G10.out hkw11.out hbw11); clear G10; clear hkw11 hsw11 hbw11)
    | (with_reducible refine at_any ?_; refine at_store 8 rfl ?_; refine wpList_store_any rfl 40 (.tmp 8) (.tmp 33) rfl w9.heap.size rfl 40 Z (srcV S1 A8 c8) (Fx.b0 G13.out) rfl (HZZ.out S1 HLS1.out _ _) (sizedS S1 HLS1.out _ _) (srcV_ones _ _ _) ?_; intro w14 hkw14 hsw14 hbw14 how14; have G15 := Lib.hid (Fx.put1B G13.out U12.out hkw14.out hsw14.out hbw14 how14); clear G13; clear hkw14 hsw14 hbw14 how14)
    | (go_at_call 41; (with_reducible refine (HTP.out _ _ _ (Fx.r1 G15.out) lc7.out).mono ?_); rintro e w16 ⟨A17, c18, rfl, hrw16, hlw16, hmw16, hbw16⟩; have lc18 := Lib.hid hlw16; have mc18 := Lib.hid hmw16; have G19 := Lib.hid (Fx.addR G15.out hbw16 hrw16); clear G15; clear hrw16 hbw16 hlw16 hmw16)
    | (with_reducible refine at_any ?_; refine at_dst 9 rfl ?_; refine wpList_alloc_any rfl 40 rfl Z HZ0.out ?_; intro w20 hkw20 hsw20 hbw20; have U21 := Lib.hid (Fx.under_new G19.out rfl); have G22 := Lib.hid (Fx.newB G19.out hkw20.out hbw20); clear G19; clear hkw20 hsw20 hbw20)
    | (with_reducible refine at_any ?_; refine at_store 9 rfl ?_; refine wpList_store_any rfl 40 (.tmp 9) (.tmp 41) rfl w16.heap.size rfl 40 Z (srcV S2 A17 c18) (Fx.b0 G22.out) rfl (HZZ.out S2 HLS2.out _ _) (sizedS S2 HLS2.out _ _) (srcV_ones _ _ _) ?_; intro w23 hkw23 hsw23 hbw23 how23; have G24 := Lib.hid (Fx.put1B G22.out U21.out hkw23.out hsw23.out hbw23 how23); clear G22; clear hkw23 hsw23 hbw23 how23)
    | (with_reducible refine at_any ?_; refine at_dst 46 rfl ?_; refine wpList_load_blk rfl 40 (.tmp 8) rfl w9.heap.size rfl 40 (srcV S1 A8 c8) (Fx.b2 G24.out) _ Tryz.underlying40 rfl (sizedS S1 HLS1.out _ _) ?_)
    | (go_at_call 42; (with_reducible refine (HL1.out _ _ m8.out _ (Fx.r5 G24.out) (HKS.out.below (Fx.e6 G24.out))).mono ?_); rintro e w25 ⟨A26, c27, rfl, hrw25, hlw25, hmw25, _, hbw25⟩; have lc27 := Lib.hid hlw25; have mc27 := Lib.hid hmw25; have G28 := Lib.hid (Fx.addR G24.out hbw25 hrw25); clear G24; clear hrw25 hbw25 hlw25 hmw25)
    | (with_reducible refine at_any ?_; refine at_dst 12 rfl ?_; refine wpList_alloc_any rfl 40 rfl Z HZ0.out ?_; intro w29 hkw29 hsw29 hbw29; have U30 := Lib.hid (Fx.under_new G28.out rfl); have G31 := Lib.hid (Fx.newB G28.out hkw29.out hbw29); clear G28; clear hkw29 hsw29 hbw29)
    | (with_reducible refine at_any ?_; refine at_store 12 rfl ?_; refine wpList_store_any rfl 40 (.tmp 12) (.tmp 50) rfl w25.heap.size rfl 40 Z (srcV U1 A26 c27) (Fx.b0 G31.out) rfl (HZZ.out U1 HLU1.out _ _) (sizedS U1 HLU1.out _ _) (srcV_ones _ _ _) ?_; intro w32 hkw32 hsw32 hbw32 how32; have G33 := Lib.hid (Fx.put1B G31.out U30.out hkw32.out hsw32.out hbw32 how32); clear G31; clear hkw32 hsw32 hbw32 how32)
    | (with_reducible refine at_any ?_; refine at_dst 53 rfl ?_; refine wpList_load_blk rfl 40 (.tmp 9) rfl w16.heap.size rfl 40 (srcV S2 A17 c18) (Fx.b2 G33.out) _ Tryz.underlying40 rfl (sizedS S2 HLS2.out _ _) ?_)
    | (go_at_call 42; (with_reducible refine (HL2.out _ _ lc18.out mc18.out _ (Fx.r7 G33.out) (Fx.r3 G33.out) (HKS.out.below (Fx.e8 G33.out))).mono ?_); rintro e w34 ⟨A35, c36, rfl, hrw34, hlw34, hmw34, _, hbw34⟩; have lc36 := Lib.hid hlw34; have mc36 := Lib.hid hmw34; have G37 := Lib.hid (Fx.addR G33.out hbw34 hrw34); clear G33; clear hrw34 hbw34 hlw34 hmw34)
    | (with_reducible refine at_any ?_; refine at_dst 15 rfl ?_; refine wpList_alloc_any rfl 40 rfl Z HZ0.out ?_; intro w38 hkw38 hsw38 hbw38; have U39 := Lib.hid (Fx.under_new G37.out rfl); have G40 := Lib.hid (Fx.newB G37.out hkw38.out hbw38); clear G37; clear hkw38 hsw38 hbw38)
    | (with_reducible refine at_any ?_; refine at_store 15 rfl ?_; refine wpList_store_any rfl 40 (.tmp 15) (.tmp 57) rfl w34.heap.size rfl 40 Z (srcV U2 A35 c36) (Fx.b0 G40.out) rfl (HZZ.out U2 HLU2.out _ _) (sizedS U2 HLU2.out _ _) (srcV_ones _ _ _) ?_; intro w41 hkw41 hsw41 hbw41 how41; have G42 := Lib.hid (Fx.put1B G40.out U39.out hkw41.out hsw41.out hbw41 how41); clear G40; clear hkw41 hsw41 hbw41 how41)
    | (with_reducible refine at_any ?_; refine at_dst 60 rfl ?_; refine wpList_load_blk rfl 40 (.tmp 8) rfl w9.heap.size rfl 40 (srcV S1 A8 c8) (Fx.b6 G42.out) _ Tryz.underlying40 rfl (sizedS S1 HLS1.out _ _) ?_)
    | (go_at_call 43; (with_reducible refine (HP1.out _ _ m8.out _ (Fx.r9 G42.out) (HKS.out.below (Fx.e10 G42.out))).mono ?_); rintro e w43 ⟨A44, c45, rfl, hrw43, hlw43, hmw43, _, hbw43⟩; have lc45 := Lib.hid hlw43; have mc45 := Lib.hid hmw43; have G46 := Lib.hid (Fx.addR G42.out hbw43 hrw43); clear G42; clear hrw43 hbw43 hlw43 hmw43)
    | (with_reducible refine at_any ?_; refine at_dst 18 rfl ?_; refine wpList_alloc_any rfl 40 rfl Z HZ0.out ?_; intro w47 hkw47 hsw47 hbw47; have U48 := Lib.hid (Fx.under_new G46.out rfl); have G49 := Lib.hid (Fx.newB G46.out hkw47.out hbw47); clear G46; clear hkw47 hsw47 hbw47)
    | (with_reducible refine at_any ?_; refine at_store 18 rfl ?_; refine wpList_store_any rfl 40 (.tmp 18) (.tmp 64) rfl w43.heap.size rfl 40 Z (srcV U3 A44 c45) (Fx.b0 G49.out) rfl (HZZ.out U3 HLU3.out _ _) (sizedS U3 HLU3.out _ _) (srcV_ones _ _ _) ?_; intro w50 hkw50 hsw50 hbw50 how50; have G51 := Lib.hid (Fx.put1B G49.out U48.out hkw50.out hsw50.out hbw50 how50); clear G49; clear hkw50 hsw50 hbw50 how50)
    | (with_reducible refine at_any ?_; refine at_dst 67 rfl ?_; refine wpList_load_blk rfl 40 (.tmp 9) rfl w16.heap.size rfl 40 (srcV S2 A17 c18) (Fx.b6 G51.out) _ Tryz.underlying40 rfl (sizedS S2 HLS2.out _ _) ?_)
    | (go_at_call 43; (with_reducible refine (HP2.out _ _ lc18.out mc18.out _ (Fx.r11 G51.out) (Fx.r7 G51.out) (HKS.out.below (Fx.e12 G51.out))).mono ?_); rintro e w52 ⟨A53, c54, rfl, hrw52, hlw52, hmw52, _, hbw52⟩; have lc54 := Lib.hid hlw52; have mc54 := Lib.hid hmw52; have G55 := Lib.hid (Fx.addR G51.out hbw52 hrw52); clear G51; clear hrw52 hbw52 hlw52 hmw52)
    | (with_reducible refine at_any ?_; refine at_dst 21 rfl ?_; refine wpList_alloc_any rfl 40 rfl Z HZ0.out ?_; intro w56 hkw56 hsw56 hbw56; have U57 := Lib.hid (Fx.under_new G55.out rfl); have G58 := Lib.hid (Fx.newB G55.out hkw56.out hbw56); clear G55; clear hkw56 hsw56 hbw56)
    | (with_reducible refine at_any ?_; refine at_store 21 rfl ?_; refine wpList_store_any rfl 40 (.tmp 21) (.tmp 71) rfl w52.heap.size rfl 40 Z (srcV U4 A53 c54) (Fx.b0 G58.out) rfl (HZZ.out U4 HLU4.out _ _) (sizedS U4 HLU4.out _ _) (srcV_ones _ _ _) ?_; intro w59 hkw59 hsw59 hbw59 how59; have G60 := Lib.hid (Fx.put1B G58.out U57.out hkw59.out hsw59.out hbw59 how59); clear G58; clear hkw59 hsw59 hbw59 how59; have z1 := HC1.out _ _ A26 c27 (Fx.b6 G60.out); have z2 := HC2.out _ _ A35 c36 (Fx.b4 G60.out); have z3 := HC3.out _ _ A44 c45 (Fx.b2 G60.out); have z4 := HC4.out _ _ A53 c54 (Fx.b0 G60.out)))
  go_ret
  exact ⟨rfl, (Fx.e14 G60.out)⟩


set_option maxRecDepth 100000 in
theorem lifted (os : Os) (started : os.Started) (H : Type) (enc : TypeId × Value → H) :
    ReturnsInHanded {} Tryz.checked os 8 .any (fun w args => (Rows.wholeStreamSpec.pre enc Tryz.prog Tryz.f8 [] false w args ∧ laidMetH Tryz.prog laidK w) ∧ sizedMet enc Tryz.prog Tryz.f8 (OpenSpec.ofChange Rows.wholeStreamSpec) false w args) (Rows.wholeStreamSpec.post enc Tryz.prog Tryz.f8 false true false false) := by
  refine returnsInHanded_of_change_and (C := Tryz.checked) (X := fun w _ => laidMetH Tryz.prog laidK w) (fun _ _ _ hh h => h.of_heap hh) own started (by kernel_rfl) Tryz.func8
    (ChangeSpec.witness_shaped (enc := enc) (C := Tryz.checked) (os := os) (X := fun w _ => laidMetH Tryz.prog laidK w) false (World.doorLaid Tryz.prog 400 os) #[.agg #[.int .u8 0, .int .u8 0, .int .u8 0, .int .u8 0, .int .u8 0, .int .u8 0, .int .u8 0, .int .u8 0, .int .u8 0, .int .u8 0, .int .u8 0, .int .u8 0, .int .u8 0, .int .u8 0, .int .u8 0, .int .u8 0, .int .u8 0, .int .u8 0, .int .u8 0, .int .u8 0, .int .u8 0, .int .u8 0, .int .u8 0, .int .u8 0, .int .u8 0, .int .u8 0, .int .u8 0, .int .u8 0, .int .u8 0, .int .u8 0, .int .u8 0, .int .u8 0], .int .u64 0, .slice none 0 0] 8 rfl (World.shaped_of_RefB (by kernel_rfl) (by kernel_rfl)) (by kernel_rfl) (by kernel_rfl) (by kernel_rfl) (door_met os _)) ?_
  intro W base args ds gs before hval0 hW _ _ hL _
  have hval : ∀ (j : Nat) t v, Tryz.f8.params[j]? = some t → args[j]? = some v → Value.okWide Tryz.prog W .any base t v := hval0
  have hW' := hW
  obtain ⟨p, q, hA0, hV, rfl, hfz, hnd⟩ := hW
  have hA : DataW.TrodAll enc Tryz.prog W 0 (fun _ => true) true Tryz.f8.params.toList args.toList ds p := hA0
  rw [Tryz.params8] at hA hval
  obtain ⟨v0, vs0, d0, ds0, p0, q0, hargs, rfl, rfl, h0, r0⟩ := trodAll_cons hA
  obtain ⟨v1, vs1, d1, ds1, p1, q1, rfl, rfl, rfl, h1, r1⟩ := trodAll_cons r0
  obtain ⟨v2, vs2, d2, ds2, p2, q2, rfl, rfl, rfl, h2, r2⟩ := trodAll_cons r1
  obtain ⟨rfl, rfl, rfl⟩ := trodAll_nil r2
  obtain rfl : args = #[v0, v1, v2] := by cases args; simp_all
  obtain ⟨rfl, rfl⟩ := trodVars_none hV
  obtain ⟨a0, l0, rfl, rfl, rfl, w0⟩ := open_arr_ints Tryz.underlying38 Tryz.underlying5 (by kernel_rfl) (by kernel_rfl) (hval 0 38 v0 rfl rfl) h0
  obtain ⟨a1, rfl, rfl, rfl, w1⟩ := open_int Tryz.underlying24 (hval 1 24 v1 rfl rfl) h1
  obtain ⟨a2, n2, c2, rfl⟩ := okWide_slice Tryz.underlying22 (hval 2 22 v2 rfl rfl)
  have k2 := h2
  have lt2 : ∀ x ∈ p2, x.block < W.heap.size := by obtain ⟨m, hm⟩ := k2; exact DataW.trod_lt m _ _ _ hm
  obtain ⟨z2, rd2, lc2, cm2, w2⟩ := open_rd Tryz.underlying22 Tryz.underlying24 (by kernel_rfl) h2
  clear hA0 hval0
  refine (walk a0 a1 a2 n2 c2 z2 W l0 w0 w1 rd2 lc2 cm2 w2 (kst_of_laid hL)).mono fun e W' ⟨he, bel⟩ => ?_
  subst he
  exact ⟨_, rfl, _, _, _, [], _, [], hW', trodAll_mk1 (shut_bool Tryz.underlying4 _), (trodAll_cons_mk (shut_arr_ints Tryz.underlying38 Tryz.underlying5 (by kernel_rfl) (by kernel_rfl) l0 w0) (trodAll_cons_mk (shut_int Tryz.underlying24 w1) (trodAll_cons_mk (Below.trod laidOut (by kernel_rfl) (of_decide_eq_true (by kernel_rfl)) k2 bel lt2) trodAll_mk0))), rfl, bel.frame _, fun h => by cases h⟩

theorem over : Rows.wholeStreamRow.holds Tryz.pinned (OpenSpec.ofChange Rows.wholeStreamSpec) :=
  OpenClaim.holds_of_wide 8 Tryz.f8 rfl rfl rfl rfl rfl rfl rfl ⟨rfl, rfl, rfl, rfl, rfl⟩ rfl rfl rfl rfl rfl (by kernel_rfl) Tryz.func8 (by kernel_rfl)
    (of_decide_eq_true (by kernel_rfl)) (by unfold Func.isWrapper; first | (rw [if_pos (by decide +kernel)]; kernel_rfl) | (rw [if_neg (by decide +kernel)]; exact ⟨rfl, rfl⟩))
    (fun os started H enc _ => lifted os started H enc)

end Go.Proofs.YtkhlkggdibaefaaGreatDoor.wholeStream
namespace Go.Proofs.YtkhlkggdibaefaaGreatDoor
theorem wholeStream_holds : Rows.WholeStreamCardSaid :=
  Claim7.holds_tied_plain_at .later [] kindsK true _ false
    wholeStream.over (fun _ h => by cases h) (by kernel_rfl) (fun _ h => by cases h) wholeStream_row_tie rfl ⟨rfl, rfl⟩ (by kernel_rfl) rfl
    (fun f fn hf hfn => by
      obtain rfl : f = 8 := Option.some.inj ((show Tryz.prog.funcNamed "drawlot/drawlottop.WholeStream" = some 8 by kernel_rfl).symm.trans hf) |>.symm
      obtain rfl : fn = Tryz.f8 := (Option.some.inj (Tryz.func8.symm.trans hfn)).symm
      exact ⟨by kernel_rfl, fun j t ht => by
        rw [Tryz.params8] at ht
        have hm : t ∈ [38, 24, 22] := by simpa using Array.mem_of_getElem? ht
        have hall : ([38, 24, 22].all fun u => !Tryz.prog.wantsStandIn u) = true := by kernel_rfl
        exact (show Tryz.prog.wantsStandIn t = false by simpa using List.all_eq_true.1 hall t hm)⟩)
    (by kernel_rfl)
#print axioms wholeStream_holds
end Go.Proofs.YtkhlkggdibaefaaGreatDoor

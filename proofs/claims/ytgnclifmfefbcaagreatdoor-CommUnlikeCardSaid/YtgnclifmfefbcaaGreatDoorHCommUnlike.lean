/-
  Members are unlike, and each has a stake; with one fewer it is the same but for the last one; of up to 200 stakes.
  Conditions: the program's tables read, when the call begins, as its text lays them (the card ties that).
-/
import Derived.Test.YtgnclifmfefbcaaGreatDoorHGf
import Derived.ShutString
import Derived.Test.YtgnclifmfefbcaaGreatDoorTie
import Derived.Test.YtgnclifmfefbcaaGreatDoorCards
import Derived.SevenTiedAt
import Derived.ChangeOld
namespace Go.Proofs.YtgnclifmfefbcaaGreatDoor.commUnlike
open Go.ChangeShapes Go.WideShapes Go.ChangeAt Go.RowKit
set_option linter.unusedVariables false
set_option linter.unusedSimpArgs false
set_option maxRecDepth 100000

theorem own : ownKnob Tryz.prog.godebug = none := by kernel_rfl
theorem laidOut : laidOutB Tryz.prog = true := by kernel_rfl

set_option maxHeartbeats 16000000 in
theorem walk (a0 : Option Addr) (n c : Nat) (zs : List Int) (a : Int) (s : Src) (A : Option Addr) (d : Nat) (w : World) (hrz : Rd .u64 w w.heap.size a0 n zs) (lc : n ≤ c) (cm : c ≤ maxLen) (hw : ∀ z ∈ zs, (Lit.int .u64 z).wf = true) (w2 : (Lit.int .u8 a).wf = true) (ok0 : s.tape.length ≤ 140737488355328 → s.Ok) (hrs : Rd .u8 w w.heap.size A s.tape.length s.tape) (ld : s.tape.length ≤ d) (dm : d ≤ maxLen) (sl : s.seed.length = 32) (hkst : Kst w) :
    Calls Tryz.prog 5 #[.slice a0 n c, .int .u8 a, .agg (srcV s A d)] w fun e w' => e = .returned (.bool true) ∧ Below w.heap.size w w' := by
  have HZ0 := Lib.hid zero_src
  have HZL := Lib.hid (show Src.zero.seed.length = 32 from rfl)
  have HKS := Lib.hid hkst
  have HLs := Lib.hid sl
  have G0 : Hid (Fx [.rdb .u64 w.heap.size a0 n zs, .rdb .u8 w.heap.size A s.tape.length s.tape, .bel w] w) := Lib.hid ⟨⟨hrz, Nat.le_refl _⟩, ⟨hrs, Nat.le_refl _⟩, Below.refl _ _, trivial⟩
  have hlen := hrz.len
  have hz : ∀ z ∈ zs, 0 ≤ z ∧ z < 18446744073709551616 := fun z h => by
    obtain ⟨h1, h2⟩ := bounds_u64 (hw z h)
    omega
  have hnm : n ≤ maxLen := Nat.le_trans lc cm
  have hgr := fun W => r13great_c s (by have h1 := Nat.le_trans ld dm; unfold maxLen at h1; omega) a0 n c hnm A d W
  have b0 : 0 ≤ a := (bounds_u8 w2).1
  have b1 : a < 256 := by have := (bounds_u8 w2).2; omega
  by_cases hg : 200 < n ∨ 500 < s.tape.length
  · rw [decide_eq_true hg] at hgr
    have HGR := Lib.hid hgr
    clear hgr hrz hw hrs hz hg hkst ok0 sl
    go_enter Tryz.func5, Tryz.ntmps5
    go_wp2_with (first
      | (with_reducible refine at_any ?_; refine at_dst 5 rfl ?_; refine wpList_box_any rfl 28 (.tmp 2) rfl (srcV s A d) rfl ?_; intro w1 hkw1 hsw1 hbw1; have G2 := Lib.hid (Fx.newB G0.out hkw1.out hbw1); clear G0; clear hkw1 hsw1 hbw1)
      | (go_at_call 8; (with_reducible refine (alive17_c _ (HKS.out.below (Fx.e3 G2.out))).mono ?_); rintro e w3 ⟨rfl, hbw3⟩; have G4 := Lib.hid (Fx.below G2.out hbw3); clear G2; clear hbw3)
      | (with_reducible refine at_any ?_; refine at_dst 18 rfl ?_; refine wpList_load_blk rfl 28 (.tmp 5) rfl w.heap.size rfl 28 (srcV s A d) (Fx.b0 G4.out) _ Tryz.underlying28 rfl (sizedS s HLs.out _ _) ?_)
      | (go_at_call 9; (with_reducible refine (HGR.out _).mono ?_); rintro e w5 ⟨rfl, hbw5⟩; have G6 := Lib.hid (Fx.below G4.out hbw5); clear G4; clear hbw5))
    go_ret
    exact ⟨rfl, (Fx.e3 G6.out)⟩
  rw [decide_eq_false hg] at hgr
  have HGR := Lib.hid hgr
  have hg1 : n ≤ 200 := Nat.le_of_not_lt fun h => hg (.inl h)
  have hg2 : s.tape.length ≤ 500 := Nat.le_of_not_lt fun h => hg (.inr h)
  have hg3 : (n : Int) ≤ 200 := by omega
  have oks : s.Ok := ok0 (by omega)
  have hz0 : ∀ z ∈ zs, 0 ≤ z := fun z h => (hz z h).1
  have hq := fun (C : Int) (h0 : -1 ≤ C) (h1 : C < 256) AL c W h1 h2 k => q17list_c zs hz AL n c (by omega) C (by omega) (by omega) s oks 64 (by omega) (by omega) A d ld dm W h1 h2 k
  obtain ⟨okX, -⟩ := comL_src (l := zs) (c := a) (a := 64) oks
  have hno := comL_err (l := zs) (c := a) (s := s) (a := 64)
  have hyes := comL_ok (c := a) (s := s) (a := 64) hz0
  have hpre := fun h => comL_pre (c := a) (s := s) (a := 64) hz0 h
  have hq1 := hq a (by omega) b1
  obtain ⟨rr, hrr⟩ : ∃ r, comL zs a s 64 = r := ⟨_, rfl⟩
  rw [hrr] at okX hno hyes hpre hq1
  obtain ⟨M, X, e⟩ := rr
  dsimp only at okX hno hyes hpre hq1
  have HLX := Lib.hid okX.sl
  have HCX := Lib.hid (fun (W : World) (g : Nat) (A' : Option Addr) (c' : Nat) (h : Blk W g 28 (srcV X A' c')) => (h.cell 36).trans (srcV_at X okX.sl A' c'))
  have HCS := Lib.hid (fun (W : World) (g : Nat) (h : Blk W g 28 (srcV s A d)) => (h.cell 36).trans (srcV_at s oks.sl A d))
  by_cases he : e = 0
  · subst he
    obtain ⟨-, hMl, hin, hnd, hat⟩ := hyes rfl
    obtain ⟨C, rfl⟩ : ∃ C : Nat, a = (C : Int) := ⟨a.toNat, by omega⟩
    rw [Int.toNat_natCast] at hMl
    have HQ := Lib.hid (fun AL c W h1 h2 k => (hq1 AL c W h1 h2 k).mono fun _ _ h => com_uP hMl h)
    have HIN := Lib.hid (fun i (hi : i < C) => hin _ (getD_in (l := M) (k := i) (by omega)))
    have HND := Lib.hid (fun i j (hj : j < i) (hi : i < C) => nodup_at hnd hj (show i < M.length by omega))
    have HPRE := Lib.hid hpre
    have HQA := Lib.hid hq
    have HML := Lib.hid hMl
    have HOK := Lib.hid oks
    obtain ⟨p, hpp⟩ : ∃ p, X.at_ = p := ⟨_, rfl⟩
    obtain ⟨q, hqq⟩ : ∃ q, s.at_ = q := ⟨_, rfl⟩
    have HPP := Lib.hid hpp
    rw [hpp] at hat HCX
    rw [hqq] at hat HCS
    have hC : (C : Int) < 256 := b1
    have tC : ((C : Int) != (C : Int)) = false := by simp
    clear hq hq1 hrr okX hno hyes hpre hin hnd hMl hpp hqq b0 b1 hgr hrz hw hrs hz hz0 hg hkst ok0 sl oks hg1 hg2 w2 lc cm ld dm hnm
    go_enter Tryz.func5, Tryz.ntmps5
    go_wp2_with (first
      | (with_reducible refine at_any ?_; refine at_dst 5 rfl ?_; refine wpList_box_any rfl 28 (.tmp 2) rfl (srcV s A d) rfl ?_; intro w1 hkw1 hsw1 hbw1; have G2 := Lib.hid (Fx.newB G0.out hkw1.out hbw1); clear G0; clear hkw1 hsw1 hbw1)
      | (go_at_call 8; (with_reducible refine (alive17_c _ (HKS.out.below (Fx.e3 G2.out))).mono ?_); rintro e w3 ⟨rfl, hbw3⟩; have G4 := Lib.hid (Fx.below G2.out hbw3); clear G2; clear hbw3)
      | (with_reducible refine at_any ?_; refine at_dst 18 rfl ?_; refine wpList_load_blk rfl 28 (.tmp 5) rfl w.heap.size rfl 28 (srcV s A d) (Fx.b0 G4.out) _ Tryz.underlying28 rfl (sizedS s HLs.out _ _) ?_)
      | (go_at_call 9; (with_reducible refine (HGR.out _).mono ?_); rintro e w5 ⟨rfl, hbw5⟩; have G6 := Lib.hid (Fx.below G4.out hbw5); clear G4; clear hbw5)
      | (with_reducible refine at_any ?_; refine at_dst 23 rfl ?_; refine wpList_load_blk rfl 28 (.tmp 5) rfl w.heap.size rfl 28 (srcV s A d) (Fx.b0 G6.out) _ Tryz.underlying28 rfl (sizedS s HLs.out _ _) ?_)
      | (go_at_call 10; (with_reducible refine (HQ.out _ _ _ (Fx.r1 G6.out) (Fx.r2 G6.out) (HKS.out.below (Fx.e3 G6.out))).mono ?_); rintro e w7 ⟨A8, c9, M10, d11, rfl, hnw7, hcw7, hdw7, _, hrw7, hlw7, hmw7, _, hbw7⟩; have lc9 := Lib.hid hlw7; have mc9 := Lib.hid hmw7; have ld11 := Lib.hid hcw7; have md11 := Lib.hid hdw7; have G12 := Lib.hid (Fx.addR (Fx.addR G6.out hbw7 hrw7) (Below.refl _ _) hnw7); clear G6; clear hrw7 hbw7 hlw7 hmw7 hnw7 hcw7 hdw7)
      | (with_reducible refine at_any ?_; refine at_dst 8 rfl ?_; refine wpList_alloc_any rfl 28 rfl (srcV Src.zero none 0) HZ0.out ?_; intro w13 hkw13 hsw13 hbw13; have U14 := Lib.hid (Fx.under_new G12.out rfl); have G15 := Lib.hid (Fx.newB G12.out hkw13.out hbw13); clear G12; clear hkw13 hsw13 hbw13)
      | (with_reducible refine at_any ?_; refine at_store 8 rfl ?_; refine wpList_store_any rfl 28 (.tmp 8) (.tmp 27) rfl w7.heap.size rfl 28 (srcV Src.zero none 0) (srcV X A8 c9) (Fx.b0 G15.out) rfl (srcV_same _ X HZL.out HLX.out _ _ _ _) (sizedS X HLX.out _ _) (srcV_ones _ _ _) ?_; intro w16 hkw16 hsw16 hbw16 how16; have G17 := Lib.hid (Fx.put1B G15.out U14.out hkw16.out hsw16.out hbw16 how16); clear G15; clear hkw16 hsw16 hbw16 how16; have z8 := HCX.out _ _ A8 c9 (Fx.b0 G17.out); have z5 := HCS.out _ _ (Fx.b3 G17.out)))
    go_loopw [10] (fun ii wr => ∃ i : Nat, i ≤ C ∧ ii = .int .i64 (i : Int) ∧ Fx [.blk w7.heap.size 28 (srcV X A8 c9), .rdb .i64 w7.heap.size M10 C M, .rdb .u8 w7.heap.size A8 s.tape.length s.tape, .blk w.heap.size 28 (srcV s A d), .rdb .u64 w.heap.size a0 n zs, .rdb .u8 w.heap.size A s.tape.length s.tape, .bel w] wr) (fun ii _ => C - (intOf ii).toNat)
    case atStart => exact ⟨0, by omega, rfl, G17.out⟩
    case round =>
      clear G17
      obtain ⟨i, hi, rfl, hG⟩ := hrel
      have G9 := Lib.hid hG
      clear hG
      by_cases hlt : i < C
      · obtain ⟨b1, o1, e1, -, -⟩ := (Fx.r1 G9.out).at_ (show 0 < C by omega)
        obtain ⟨k, hkn, hMk, hpos⟩ := HIN.out i hlt
        obtain ⟨b2, o2, e2, -, hc2⟩ := (Fx.r4 G9.out).at_ (show 0 < n by omega)
        have hkn : k < n := by have := (Fx.r4 G9.out).len; omega
        have hk2 := hc2 k hkn
        subst e1 e2
        have HMC := Lib.hid (mem_cells (b := b1) (o := o1) (n := C) (M := M) (k := .i64))
        have hk1 := HMC.out _ (Fx.r1 G9.out) i hlt
        rw [hMk] at hk1
        obtain ⟨y, hy⟩ : ∃ y, zs.getD k 0 = y := ⟨_, rfl⟩
        rw [hy] at hk2 hpos
        have i0 : (0 : Int) ≤ (i : Int) := by omega
        have i1 : (i : Int) < (C : Int) := by omega
        have k0 : (0 : Int) ≤ (k : Int) := by omega
        have k1 : (k : Int) < (n : Int) := by omega
        have t1 : (y == 0) = false := by rw [beq_eq_false_iff_ne]; omega
        clear hc2 hy
        go_wp2
        go_loopw [11] (fun jj wr => ∃ j : Nat, j ≤ i ∧ jj = .int .i64 (j : Int) ∧ Fx [.blk w7.heap.size 28 (srcV X A8 c9), .rdb .i64 w7.heap.size (some ⟨b1, o1, none⟩) C M, .rdb .u8 w7.heap.size A8 s.tape.length s.tape, .blk w.heap.size 28 (srcV s A d), .rdb .u64 w.heap.size (some ⟨b2, o2, none⟩) n zs, .rdb .u8 w.heap.size A s.tape.length s.tape, .bel w] wr) (fun jj _ => i - (intOf jj).toNat)
        case atStart => exact ⟨0, by omega, rfl, G9.out⟩
        case round =>
          clear G9 hk1 hk2
          obtain ⟨j, hj, rfl, hG⟩ := hrel
          have G8 := Lib.hid hG
          clear hG
          by_cases hlj : j < i
          · obtain ⟨m, hm, hMj, -⟩ := HIN.out j (by omega)
            have hk1 := HMC.out _ (Fx.r1 G8.out) i hlt
            have hk3 := HMC.out _ (Fx.r1 G8.out) j (by omega)
            have hne := HND.out i j hlj hlt
            rw [hMk] at hk1 hne
            rw [hMj] at hk3 hne
            have j0 : (0 : Int) ≤ (j : Int) := by omega
            have j1 : (j : Int) < (i : Int) := by omega
            have j2 : (j : Int) < (C : Int) := by omega
            have t2 : ((m : Int) == (k : Int)) = false := by rw [beq_eq_false_iff_ne]; exact hne
            clear hne hMj hm
            go_wp2
            go_quiet (fail)
            go_wp2
            go_roundw
            case rel => exact ⟨j + 1, by omega, by go_num, Fx.below G8.out (below_drewN (Below.refl _ _) _)⟩
            case measure => simp [intOf]; omega
          · obtain rfl : j = i := by omega
            go_wp2
            go_roundw
            case rel => exact ⟨j + 1, by omega, by go_num, G8.out⟩
            case measure => simp [intOf]; omega
      · obtain rfl : i = C := by omega
        by_cases hC0 : i = 0
        · subst hC0
          go_wp2
          go_ret
          exact ⟨rfl, Fx.e6 G9.out⟩
        · obtain ⟨P, hP⟩ : ∃ P : Nat, (i : Int) - 1 = (P : Int) := ⟨i - 1, by omega⟩
          obtain ⟨h1, h2, h3⟩ := HPRE.out (by omega) (by first | trivial | rfl)
          obtain ⟨ok2, -⟩ := comL_src (l := zs) (c := (i : Int) - 1) (a := 64) HOK.out
          have hq2 := HQA.out ((i : Int) - 1) (by omega) (by omega)
          rw [hP] at h1 h2 h3 hq2 ok2
          rw [Int.toNat_natCast] at h2
          obtain ⟨rr, hrr⟩ : ∃ r, comL zs (P : Int) s 64 = r := ⟨_, rfl⟩
          rw [hrr] at h1 h2 h3 hq2 ok2
          obtain ⟨Y, X2, e2⟩ := rr
          dsimp only at h1 h2 h3 hq2 ok2
          subst h1
          have hYl : Y.length = P := by rw [h2, List.length_take, HML.out]; omega
          have HQ2 := Lib.hid (fun AL c W h1 h2 k => (hq2 AL c W h1 h2 k).mono fun _ _ h => com_uP hYl h)
          have HLX2 := Lib.hid ok2.sl
          have HCX2 := Lib.hid (fun (W : World) (g : Nat) (A' : Option Addr) (c' : Nat) (h : Blk W g 28 (srcV X2 A' c')) => (h.cell 36).trans (srcV_at X2 ok2.sl A' c'))
          obtain ⟨p2, hp2⟩ : ∃ p, X2.at_ = p := ⟨_, rfl⟩
          rw [hp2] at HCX2 h3
          rw [HPP.out] at h3
          have HUP := Lib.hid (fun W (h : Rd .i64 W W.heap.size M10 i M) => (show Rd .i64 W W.heap.size M10 P Y by have := h.upto (show P ≤ i by omega); rwa [← h2] at this))
          have hs := fun A B c d (W : World) (h1 : Rd .i64 W W.heap.size A P Y) (h2 : Rd .i64 W W.heap.size B P Y) => r17same_c Y Y A B P P c d (by unfold maxLen; omega) (by unfold maxLen; omega) W h1 h2
          rw [decide_eq_true (rfl : Y = Y)] at hs
          have HS := Lib.hid hs
          have p0 : (0 : Int) ≤ (P : Int) := by omega
          have p1 : (P : Int) < 256 := by omega
          have hcap : (P : Int) ≤ (d11 : Int) := by have := ld11.out; omega
          have tI : ((i : Int) == 0) = false := by rw [beq_eq_false_iff_ne]; omega
          clear hq2 hrr ok2 h2 hYl hp2 hs HPRE HQA HOK HIN HND HPP HML hC0 hi hlt
          go_wp2_with (first
            | (with_reducible refine at_any ?_; refine at_dst 97 rfl ?_; refine wpList_load_blk rfl 28 (.tmp 5) rfl w.heap.size rfl 28 (srcV s A d) (Fx.b3 G9.out) _ Tryz.underlying28 rfl (sizedS s HLs.out _ _) ?_)
            | (go_at_call 10; (with_reducible refine (HQ2.out _ _ _ (Fx.r4 G9.out) (Fx.r5 G9.out) (HKS.out.below (Fx.e6 G9.out))).mono ?_); rintro e w601 ⟨A602, c603, M604, d605, rfl, hnw601, hcw601, hdw601, _, hrw601, hlw601, hmw601, _, hbw601⟩; have lc603 := Lib.hid hlw601; have mc603 := Lib.hid hmw601; have ld605 := Lib.hid hcw601; have md605 := Lib.hid hdw601; have G606 := Lib.hid (Fx.addR (Fx.addR G9.out hbw601 hrw601) (Below.refl _ _) hnw601); clear G9; clear hrw601 hbw601 hlw601 hmw601 hnw601 hcw601 hdw601)
            | (with_reducible refine at_any ?_; refine at_dst 13 rfl ?_; refine wpList_alloc_any rfl 28 rfl (srcV Src.zero none 0) HZ0.out ?_; intro w607 hkw607 hsw607 hbw607; have U608 := Lib.hid (Fx.under_new G606.out rfl); have G609 := Lib.hid (Fx.newB G606.out hkw607.out hbw607); clear G606; clear hkw607 hsw607 hbw607)
            | (with_reducible refine at_any ?_; refine at_store 13 rfl ?_; refine wpList_store_any rfl 28 (.tmp 13) (.tmp 101) rfl w601.heap.size rfl 28 (srcV Src.zero none 0) (srcV X2 A602 c603) (Fx.b0 G609.out) rfl (srcV_same _ X2 HZL.out HLX2.out _ _ _ _) (sizedS X2 HLX2.out _ _) (srcV_ones _ _ _) ?_; intro w610 hkw610 hsw610 hbw610 how610; have G611 := Lib.hid (Fx.put1B G609.out U608.out hkw610.out hsw610.out hbw610 how610); clear G609; clear hkw610 hsw610 hbw610 how610)
            | (go_at_call 12; (with_reducible refine (HS.out _ _ _ _ _ (Fx.r1 G611.out) (HUP.out _ (Fx.r4 G611.out))).mono ?_); rintro e w612 ⟨rfl, hbw612⟩; have G613 := Lib.hid (Fx.below G611.out hbw612); clear G611; clear hbw612; have y13 := HCX2.out _ _ A602 c603 (Fx.b0 G613.out); have y8 := HCX.out _ _ A8 c9 (Fx.b3 G613.out)))
          go_ret
          exact ⟨rfl, (Fx.e9 G613.out)⟩
  · have hx0 : M = [] := hno he
    subst hx0
    have t1 : (e == 0) = false := by rw [beq_eq_false_iff_ne]; exact he
    have t2 : (e != 0) = true := by rw [bne, t1]; rfl
    have HQ := Lib.hid (fun AL c W h1 h2 k => (hq1 AL c W h1 h2 k).mono fun _ _ h => com_uP (n := 0) rfl h)
    clear hq hq1 hrr okX hno hyes hpre hgr hrz hw hrs hz hz0 hg hkst ok0 sl oks hg1 hg2 w2 lc cm ld dm hnm
    go_enter Tryz.func5, Tryz.ntmps5
    go_wp2_with (first
      | (with_reducible refine at_any ?_; refine at_dst 5 rfl ?_; refine wpList_box_any rfl 28 (.tmp 2) rfl (srcV s A d) rfl ?_; intro w1 hkw1 hsw1 hbw1; have G2 := Lib.hid (Fx.newB G0.out hkw1.out hbw1); clear G0; clear hkw1 hsw1 hbw1)
      | (go_at_call 8; (with_reducible refine (alive17_c _ (HKS.out.below (Fx.e3 G2.out))).mono ?_); rintro e w3 ⟨rfl, hbw3⟩; have G4 := Lib.hid (Fx.below G2.out hbw3); clear G2; clear hbw3)
      | (with_reducible refine at_any ?_; refine at_dst 18 rfl ?_; refine wpList_load_blk rfl 28 (.tmp 5) rfl w.heap.size rfl 28 (srcV s A d) (Fx.b0 G4.out) _ Tryz.underlying28 rfl (sizedS s HLs.out _ _) ?_)
      | (go_at_call 9; (with_reducible refine (HGR.out _).mono ?_); rintro e w5 ⟨rfl, hbw5⟩; have G6 := Lib.hid (Fx.below G4.out hbw5); clear G4; clear hbw5)
      | (with_reducible refine at_any ?_; refine at_dst 23 rfl ?_; refine wpList_load_blk rfl 28 (.tmp 5) rfl w.heap.size rfl 28 (srcV s A d) (Fx.b0 G6.out) _ Tryz.underlying28 rfl (sizedS s HLs.out _ _) ?_)
      | (go_at_call 10; (with_reducible refine (HQ.out _ _ _ (Fx.r1 G6.out) (Fx.r2 G6.out) (HKS.out.below (Fx.e3 G6.out))).mono ?_); rintro e w7 ⟨A8, c9, M10, d11, rfl, hnw7, hcw7, hdw7, _, hrw7, hlw7, hmw7, _, hbw7⟩; have lc9 := Lib.hid hlw7; have mc9 := Lib.hid hmw7; have ld11 := Lib.hid hcw7; have md11 := Lib.hid hdw7; have G12 := Lib.hid (Fx.addR (Fx.addR G6.out hbw7 hrw7) (Below.refl _ _) hnw7); clear G6; clear hrw7 hbw7 hlw7 hmw7 hnw7 hcw7 hdw7)
      | (with_reducible refine at_any ?_; refine at_dst 8 rfl ?_; refine wpList_alloc_any rfl 28 rfl (srcV Src.zero none 0) HZ0.out ?_; intro w13 hkw13 hsw13 hbw13; have U14 := Lib.hid (Fx.under_new G12.out rfl); have G15 := Lib.hid (Fx.newB G12.out hkw13.out hbw13); clear G12; clear hkw13 hsw13 hbw13)
      | (with_reducible refine at_any ?_; refine at_store 8 rfl ?_; refine wpList_store_any rfl 28 (.tmp 8) (.tmp 27) rfl w7.heap.size rfl 28 (srcV Src.zero none 0) (srcV X A8 c9) (Fx.b0 G15.out) rfl (srcV_same _ X HZL.out HLX.out _ _ _ _) (sizedS X HLX.out _ _) (srcV_ones _ _ _) ?_; intro w16 hkw16 hsw16 hbw16 how16; have G17 := Lib.hid (Fx.put1B G15.out U14.out hkw16.out hsw16.out hbw16 how16); clear G15; clear hkw16 hsw16 hbw16 how16))
    go_ret
    exact ⟨rfl, (Fx.e6 G17.out)⟩


set_option maxRecDepth 100000 in
theorem lifted (os : Os) (started : os.Started) (H : Type) (enc : TypeId × Value → H) :
    ReturnsInHanded {} Tryz.checked os 5 .any (fun w args => (Rows.commUnlikeSpec.pre enc Tryz.prog Tryz.f5 [] false w args ∧ laidMetH Tryz.prog laidK w) ∧ sizedMet enc Tryz.prog Tryz.f5 (OpenSpec.ofChange Rows.commUnlikeSpec) false w args) (Rows.commUnlikeSpec.post enc Tryz.prog Tryz.f5 false true false false) := by
  refine returnsInHanded_of_change_and (C := Tryz.checked) (X := fun w _ => laidMetH Tryz.prog laidK w) (fun _ _ _ hh h => h.of_heap hh) own started (by kernel_rfl) Tryz.func5
    (ChangeSpec.witness_shaped (enc := enc) (C := Tryz.checked) (os := os) (X := fun w _ => laidMetH Tryz.prog laidK w) false (World.doorLaid Tryz.prog 400 os) #[.slice none 0 0, .int .u8 0, .agg #[.int .i64 0, .slice none 0 0, .int .u64 0, .int .u8 0, .int .u8 0, .int .u8 0, .int .u8 0, .int .u8 0, .int .u8 0, .int .u8 0, .int .u8 0, .int .u8 0, .int .u8 0, .int .u8 0, .int .u8 0, .int .u8 0, .int .u8 0, .int .u8 0, .int .u8 0, .int .u8 0, .int .u8 0, .int .u8 0, .int .u8 0, .int .u8 0, .int .u8 0, .int .u8 0, .int .u8 0, .int .u8 0, .int .u8 0, .int .u8 0, .int .u8 0, .int .u8 0, .int .u8 0, .int .u8 0, .int .u8 0, .int .u64 0, .int .u64 0]] 8 rfl (World.shaped_of_RefB (by kernel_rfl) (by kernel_rfl)) (by kernel_rfl) (by kernel_rfl) (by kernel_rfl) (door_met os _)) ?_
  intro W base args ds gs before hval0 hW _ _ hL _
  have hval : ∀ (j : Nat) t v, Tryz.f5.params[j]? = some t → args[j]? = some v → Value.okWide Tryz.prog W .any base t v := hval0
  have hW' := hW
  obtain ⟨p, q, hA0, hV, rfl, hfz, hnd⟩ := hW
  have hA : DataW.TrodAll enc Tryz.prog W 0 (fun _ => true) true Tryz.f5.params.toList args.toList ds p := hA0
  rw [Tryz.params5] at hA hval
  obtain ⟨v0, vs0, d0, ds0, p0, q0, hargs, rfl, rfl, h0, r0⟩ := trodAll_cons hA
  obtain ⟨v1, vs1, d1, ds1, p1, q1, rfl, rfl, rfl, h1, r1⟩ := trodAll_cons r0
  obtain ⟨v2, vs2, d2, ds2, p2, q2, rfl, rfl, rfl, h2, r2⟩ := trodAll_cons r1
  obtain ⟨rfl, rfl, rfl⟩ := trodAll_nil r2
  obtain rfl : args = #[v0, v1, v2] := by cases args; simp_all
  obtain ⟨rfl, rfl⟩ := trodVars_none hV
  obtain ⟨a0, n0, c0, rfl⟩ := okWide_slice Tryz.underlying22 (hval 0 22 v0 rfl rfl)
  have k0 := h0
  have lt0 : ∀ x ∈ p0, x.block < W.heap.size := by obtain ⟨m, hm⟩ := k0; exact DataW.trod_lt m _ _ _ hm
  obtain ⟨z0, rd0, lc0, cm0, w0⟩ := open_rd Tryz.underlying22 Tryz.underlying24 (by kernel_rfl) h0
  obtain ⟨a1, rfl, rfl, rfl, w1⟩ := open_int Tryz.underlying5 (hval 1 5 v1 rfl rfl) h1
  have k2 := h2
  have lt2 : ∀ x ∈ p2, x.block < W.heap.size := by obtain ⟨m, hm⟩ := k2; exact DataW.trod_lt m _ _ _ hm
  obtain ⟨s2, a2, c2, rfl, ok2, rd2, lc2, cm2, sl2⟩ := open_src (hval 2 28 v2 rfl rfl) h2
  clear hA0 hval0
  refine (walk a0 n0 c0 z0 a1 s2 a2 c2 W rd0 lc0 cm0 w0 w1 ok2 rd2 lc2 cm2 sl2 (kst_of_laid hL)).mono fun e W' ⟨he, bel⟩ => ?_
  subst he
  exact ⟨_, rfl, _, _, _, [], _, [], hW', trodAll_mk1 (shut_bool Tryz.underlying4 _), (trodAll_cons_mk (Below.trod laidOut (by kernel_rfl) (of_decide_eq_true (by kernel_rfl)) k0 bel lt0) (trodAll_cons_mk (shut_int Tryz.underlying5 w1) (trodAll_cons_mk (Below.trod laidOut (by kernel_rfl) (of_decide_eq_true (by kernel_rfl)) k2 bel lt2) trodAll_mk0))), rfl, bel.frame _, fun h => by cases h⟩

theorem over : Rows.commUnlikeRow.holds Tryz.pinned (OpenSpec.ofChange Rows.commUnlikeSpec) :=
  OpenClaim.holds_of_wide 5 Tryz.f5 rfl rfl rfl rfl rfl rfl rfl ⟨rfl, rfl, rfl, rfl, rfl⟩ rfl rfl rfl rfl rfl (by kernel_rfl) Tryz.func5 (by kernel_rfl)
    (of_decide_eq_true (by kernel_rfl)) (by unfold Func.isWrapper; first | (rw [if_pos (by decide +kernel)]; kernel_rfl) | (rw [if_neg (by decide +kernel)]; exact ⟨rfl, rfl⟩))
    (fun os started H enc _ => lifted os started H enc)

end Go.Proofs.YtgnclifmfefbcaaGreatDoor.commUnlike
namespace Go.Proofs.YtgnclifmfefbcaaGreatDoor
theorem commUnlike_holds : Rows.CommUnlikeCardSaid :=
  Claim7.holds_tied_plain_at .later [] kindsK true _ false
    commUnlike.over (fun _ h => by cases h) (by kernel_rfl) (fun _ h => by cases h) commUnlike_row_tie rfl ⟨rfl, rfl⟩ (by kernel_rfl) rfl
    (fun f fn hf hfn => by
      obtain rfl : f = 5 := Option.some.inj ((show Tryz.prog.funcNamed "drawlot/drawlotlaw17.CommUnlike" = some 5 by kernel_rfl).symm.trans hf) |>.symm
      obtain rfl : fn = Tryz.f5 := (Option.some.inj (Tryz.func5.symm.trans hfn)).symm
      exact ⟨by kernel_rfl, fun j t ht => by
        rw [Tryz.params5] at ht
        have hm : t ∈ [22, 5, 28] := by simpa using Array.mem_of_getElem? ht
        have hall : ([22, 5, 28].all fun u => !Tryz.prog.wantsStandIn u) = true := by kernel_rfl
        exact (show Tryz.prog.wantsStandIn t = false by simpa using List.all_eq_true.1 hall t hm)⟩)
    (by kernel_rfl)
#print axioms commUnlike_holds
end Go.Proofs.YtgnclifmfefbcaaGreatDoor

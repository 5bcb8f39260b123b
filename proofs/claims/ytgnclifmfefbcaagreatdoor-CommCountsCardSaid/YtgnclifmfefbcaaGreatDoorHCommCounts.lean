/-
  Of all tapes just as many draw a committee as its ways; of up to 5 stakes up to 4, 3 members, and tapes of up to 9 bits.
  Conditions: the program's tables read, when the call begins, as its text lays them (the card ties that).
-/
import Derived.Test.YtgnclifmfefbcaaGreatDoorHGf
import Derived.ShutString
import Derived.Test.YtgnclifmfefbcaaGreatDoorTie
import Derived.Test.YtgnclifmfefbcaaGreatDoorCards
import Derived.SevenTiedAt
import Derived.ChangeOld
namespace Go.Proofs.YtgnclifmfefbcaaGreatDoor.commCounts
open Go.ChangeShapes Go.WideShapes Go.ChangeAt Go.RowKit
set_option linter.unusedVariables false
set_option linter.unusedSimpArgs false
set_option maxRecDepth 100000

theorem own : ownKnob Tryz.prog.godebug = none := by kernel_rfl
theorem laidOut : laidOutB Tryz.prog = true := by kernel_rfl

set_option maxHeartbeats 32000000 in
theorem walk (a0 : Option Addr) (n0 c0 : Nat) (M : List Int) (tw : List Int) (a2 : Option Addr) (n c : Nat) (zs : List Int) (w : World) (hrm : Rd .i64 w w.heap.size a0 n0 M) (lc0 : n0 ≤ c0) (cm0 : c0 ≤ maxLen) (hwm : ∀ z ∈ M, (Lit.int .i64 z).wf = true) (ltw : tw.length = 2) (wtw : ∀ z ∈ tw, (Lit.int .u8 z).wf = true) (hrd : Rd .u64 w w.heap.size a2 n zs) (lc : n ≤ c) (cm : c ≤ maxLen) (hw : ∀ z ∈ zs, (Lit.int .u64 z).wf = true) (hkst : Kst w) :
    Calls Tryz.prog 7 #[.slice a0 n0 c0, .agg (tw.map (Value.int .u8)).toArray, .slice a2 n c] w fun e w' => e = .returned (.bool true) ∧ Below w.heap.size w w' := by
  obtain ⟨ti, hti, hz0, hz1, hzb⟩ := info_parts info_u64d
  have HKS := Lib.hid hkst
  have HR := Lib.hid hrd
  have HRM := Lib.hid hrm
  have hlen := hrd.len
  have hlm := hrm.len
  have hnm : (n : Int) ≤ 9223372036854775807 := by unfold maxLen at cm; omega
  have hnm0 : (n0 : Int) ≤ 9223372036854775807 := by unfold maxLen at cm0; omega
  obtain ⟨x1, x2, rfl⟩ : ∃ x y, tw = [x, y] := by
    match tw, ltw with
    | [x, y], _ => exact ⟨x, y, rfl⟩
  have u1 := bounds_u8 (wtw x1 (by simp))
  have u2 := bounds_u8 (wtw x2 (by simp))
  obtain ⟨V2, hV2⟩ : ∃ V, ([x1, x2].map (Value.int .u8)).toArray = V := ⟨_, rfl⟩
  rw [hV2]
  by_cases hg : 5 < n
  · have hg2 : (5 : Int) < (n : Int) := by omega
    clear hrd hrm hw hg hkst wtw hwm
    go_enter Tryz.func7, Tryz.ntmps7
    go_wp2_with (first
      | (with_reducible refine at_any ?_; refine at_dst 4 rfl ?_; refine wpList_box_any rfl 55 (.tmp 1) rfl V2 rfl ?_; intro w0 hk0 hs0 hb0; have HK0 := hk0; have HB0 := Lib.hid hb0; clear hk0 hs0 hb0)
      | (go_at_call 8; (with_reducible refine (alive17_c _ (HKS.out.below HB0.out)).mono ?_); rintro e w1 ⟨rfl, hb1⟩; have HK1 := Lib.hid (Blk.below HK0.out hb1 (Blk.lt HK0.out)); have HB1 := Lib.hid (HB0.out.trans (hb1.mono HB0.out.size)); clear hb1))
    go_ret
    exact ⟨rfl, HB1.out⟩
  have hg2 : (n : Int) ≤ 5 := by omega
  by_cases hg3 : 3 < n0
  · have hg4 : (3 : Int) < (n0 : Int) := by omega
    clear hrd hrm hw hg hkst wtw hwm
    go_enter Tryz.func7, Tryz.ntmps7
    go_wp2_with (first
      | (with_reducible refine at_any ?_; refine at_dst 4 rfl ?_; refine wpList_box_any rfl 55 (.tmp 1) rfl V2 rfl ?_; intro w0 hk0 hs0 hb0; have HK0 := hk0; have HB0 := Lib.hid hb0; clear hk0 hs0 hb0)
      | (go_at_call 8; (with_reducible refine (alive17_c _ (HKS.out.below HB0.out)).mono ?_); rintro e w1 ⟨rfl, hb1⟩; have HK1 := Lib.hid (Blk.below HK0.out hb1 (Blk.lt HK0.out)); have HB1 := Lib.hid (HB0.out.trans (hb1.mono HB0.out.size)); clear hb1))
    go_ret
    exact ⟨rfl, HB1.out⟩
  have hg4 : (n0 : Int) ≤ 3 := by omega
  have HZ : Hid (∀ k, k < n → 0 ≤ zs.getD k 0 ∧ zs.getD k 0 < 18446744073709551616) := Lib.hid (fun k h => by
    obtain ⟨h1, h2⟩ := bounds_u64 (hw _ (getD_in (l := zs) (k := k) (by omega)))
    omega)
  have HTK := Lib.hid (fun i (h : i < n) => modK_take (d := 5) (l := zs) (i := i) (by omega))
  have hS : ∀ z ∈ modK 5 zs, 0 ≤ z ∧ z < 5 := modK_in (by omega)
  have hS24 : sumL (modK 5 zs) ≤ 20 := by
    have := modK_sum5 zs
    omega
  have hlS : (modK 5 zs).length = n := (modK_len 5 zs).trans hlen
  obtain ⟨S, hSS⟩ : ∃ S, modK 5 zs = S := ⟨_, rfl⟩
  rw [hSS] at HTK hS hlS hS24
  have HS0 : Hid (∀ z ∈ S, 0 ≤ z) := Lib.hid (fun z h => (hS z h).1)
  have HSU : Hid (∀ z ∈ S, 0 ≤ z ∧ z < 18446744073709551616) := Lib.hid (fun z h => by have := hS z h; omega)
  have HSS : Hid (sumL S < 9223372036854775808) := Lib.hid (by omega)
  have HLS := Lib.hid hlS
  have HLM := Lib.hid hlm
  have HMW : Hid (∀ z ∈ M, -9223372036854775808 ≤ z ∧ z < 9223372036854775808) := Lib.hid (fun z h => by have := bounds_i64 (hwm z h); omega)
  have HLEN : Hid (∀ i, i ≤ n → (S.take i).length = i) := Lib.hid (fun i h => by rw [List.length_take]; omega)
  have htB : x1.tmod 10 = x1 % 10 := Int.tmod_eq_emod_of_nonneg u1.1
  have htm : x2.tmod 3 = x2 % 3 := Int.tmod_eq_emod_of_nonneg u2.1
  obtain ⟨B, hB⟩ : ∃ B : Nat, x1 % 10 = (B : Int) := ⟨(x1 % 10).toNat, by omega⟩
  obtain ⟨q, hq⟩ : ∃ q : Nat, x2 % 3 = (q : Int) := ⟨(x2 % 3).toNat, by omega⟩
  obtain ⟨m, hm⟩ : ∃ m : Nat, 1 + (q : Int) = (m : Int) := ⟨1 + q, by omega⟩
  have hB9 : B ≤ 9 := by omega
  have hm1 : 1 ≤ m := by omega
  have hm3 : m ≤ 3 := by omega
  rw [hB] at htB
  rw [hq] at htm
  have HV1 := Lib.hid (fun (W : World) (g : Nat) (h : Blk W g 55 V2) => (show W.cell? ⟨g, 0, none⟩ = some (.int .u8 x1) ∧ W.cell? ⟨g, 1, none⟩ = some (.int .u8 x2) by rw [h.cell 0, h.cell 1, ← hV2]; exact ⟨rfl, rfl⟩))
  have eB : IntKind.i64.wrap (B : Int) = (B : Int) := by rw [IntWalk.i64_in _ (by omega)]
  have eq' : IntKind.i64.wrap (q : Int) = (q : Int) := by rw [IntWalk.i64_in _ (by omega)]
  have em : IntKind.i64.wrap (m : Int) = (m : Int) := by rw [IntWalk.i64_in _ (by omega)]
  have eU : IntKind.u64.wrap (B : Int) = (B : Int) := by rw [IntKind.wrap_u64]; omega
  have uB : IntKind.u8.wrap (B : Int) = (B : Int) := by rw [IntKind.wrap_u8]; omega
  have uq : IntKind.u8.wrap (q : Int) = (q : Int) := by rw [IntKind.wrap_u8]; omega
  have HLC0 := Lib.hid lc0
  have HCM0 := Lib.hid cm0
  clear hrd hrm hw hwm hSS hS hlS hS24 lc cm lc0 cm0 hlen hlm wtw hV2 u1 u2 hB hq hkst hg hg3
  go_enter Tryz.func7, Tryz.ntmps7
  go_wp2_with (first
    | (with_reducible refine at_any ?_; refine at_dst 4 rfl ?_; refine wpList_box_any rfl 55 (.tmp 1) rfl V2 rfl ?_; intro w0 hk0 hs0 hb0; have HK0 := hk0; have HB0 := Lib.hid hb0; clear hk0 hs0 hb0)
    | (go_at_call 8; (with_reducible refine (alive17_c _ (HKS.out.below HB0.out)).mono ?_); rintro e w1 ⟨rfl, hb1⟩; have HK1 := Lib.hid (Blk.below HK0.out hb1 (Blk.lt HK0.out)); have HB1 := Lib.hid (HB0.out.trans (hb1.mono HB0.out.size)); clear hb1))
  have HR1A := Lib.hid (HR1 HR.out HB1.out)
  have HRMA := Lib.hid ((HRM.out.below HB1.out).mono HB1.out.size)
  go_loopw [7, 8] (fun v ii wr => ∃ j : Nat, j ≤ n ∧ ii = .int .i64 (j : Int) ∧ OwnI wr w1.heap.size 24 .u64 v (S.take j) ∧ Below w1.heap.size w1 wr) (fun _ ii _ => n - (intOf ii).toNat)
  case atStart => exact ⟨0, by omega, rfl, OwnI.empty _ _ _ _, Below.refl _ _⟩
  case round =>
    obtain ⟨j, hj, rfl, hown, hb⟩ := hrel
    obtain ⟨A5, c5, rfl, hl5, hm5⟩ := hown.form
    rw [HLEN.out j hj] at hown hl5 ⊢
    by_cases hlt : j < n
    · have hlt2 : (j : Int) < (n : Int) := by omega
      obtain ⟨g, off, ha0, -, hc⟩ := (HR1 HR1A.out hb).at_ (by omega)
      subst ha0
      have hck := hc j (by omega)
      have htk := HTK.out j hlt
      have hzk := HZ.out j hlt
      obtain ⟨z, hz⟩ : ∃ z, zs.getD j 0 = z := ⟨_, rfl⟩
      rw [hz] at hck htk hzk
      obtain ⟨z00, z01⟩ := hzk
      have htz : z.tmod 5 = z % 5 := Int.tmod_eq_emod_of_nonneg z00
      obtain ⟨y, hy⟩ : ∃ y, z % 5 = y := ⟨_, rfl⟩
      have y0 : 0 ≤ y := by rw [← hy]; exact Int.emod_nonneg _ (by omega)
      have y1 : y < 5 := by rw [← hy]; exact Int.emod_lt_of_pos _ (by omega)
      rw [hy] at htz htk
      have HN2 := Lib.hid htk.symm
      have HON := Lib.hid hown
      have HBN := Lib.hid hb
      have HLJ := Lib.hid (HLEN.out j hj)
      have hj40 : j ≤ 5 := by omega
      clear hc htk hz hy hown hb
      clear htB htm eB eq' em eU uB uq hm
      go_wp2_with (first
        | (at_builtin; refine wpList_append_ints _ rfl (.tmp 37) (.tmp 43) 22 rfl w1.heap.size 24 ti _ 8 .u64 Tryz.underlying22 hti hz0 hz1 hzb rfl _ (S.take j) rfl (HON.out.alloc _) (wr.heap.size + 1) (some ⟨wr.heap.size, 0, none⟩) 1 1 [y] rfl (rd_one wr 24 .u64 y) (by rw [HLJ.out]; simp only [maxLen]; omega) (by rw [HLJ.out]; omega) (by have := HBN.out.size; simp; omega) ?_; intro v6 w6 hown6 hg6 hat6; have hb6 : Below w1.heap.size w1 w6 := (HON.out.alloc _).below_ (HBN.out.alloc HBN.out.size _) (by have := HBN.out.size; simp; omega) hg6; rw [HN2.out] at hown6; have HO6 := Lib.hid hown6; have HB6 := Lib.hid hb6; clear hown6 hg6 hat6 hb6))
      go_roundw
      case rel => exact ⟨j + 1, by omega, by go_num, HO6.out, HB6.out⟩
      case measure => simp [intOf]; omega
    · obtain rfl : j = n := by omega
      have HRS := hown.rd (HLEN.out _ (Nat.le_refl _))
      rw [show S.take j = S from List.take_of_length_le (by rw [HLS.out]; exact Nat.le_refl _)] at HRS
      obtain ⟨n, hn⟩ : ∃ n, n = j := ⟨_, rfl⟩
      subst hn
      have HBX := Lib.hid (HV1.out _ _ (HK1.out.below hb (Blk.lt HK1.out)))
      obtain ⟨hx1, hx2⟩ := HBX.out
      obtain ⟨w2, hw2⟩ : ∃ w2, w2 = wr := ⟨_, rfl⟩
      subst hw2
      have GP : Hid (Fx [.rdb .u64 w2.heap.size A5 n S, .rdb .i64 w2.heap.size a0 n0 M, .bel w] w2) := Lib.hid ⟨⟨HRS, Nat.le_refl _⟩, ⟨(HRMA.out.below hb).mono hb.size, Nat.le_refl _⟩, HB1.out.trans (hb.mono HB1.out.size), trivial⟩
      clear hown hb hl5 hlt hj HRS HTK HZ HR HR1A HRM HRMA HB1 HBX HV1 HK1 HK0 HB0
      go_wp2
      go_quiet (fail)
      have G0 := Lib.hid (Fx.below GP.out (below_drewN (Below.refl _ _) nq))
      clear GP hx1 hx2 htB htm eB eq' em uB uq hm
      have hWays := fun d c W h1 h2 (k : Kst W) (h4 : n0 ≤ d) (h5 : d ≤ maxLen) => q17ways_c M HMW.out a0 n0 d h4 h5 (B : Int) (m : Int) (by omega) (by omega) (by omega) (by omega) S HSU.out A5 n c (by omega) W h1 h2
      have e1 : wayR M (B : Int) (m : Int) S = (0, natL (wayN m M S B)) := by
        unfold wayR wayOk
        rw [if_pos (decide_eq_true ⟨by rw [HLM.out]; omega, by omega, by omega, by omega, by omega⟩), if_pos HSS.out, Int.toNat_natCast, Int.toNat_natCast]
      rw [e1] at hWays
      unfold RetNE at hWays
      dsimp only at hWays
      have hCNT := com_count m B hm1 (by omega) M S (by rw [HLM.out]; omega) HS0.out HSS.out
      rw [← hCNT] at hWays
      have htr := fun A c W h => calls_tree (r11tree_c S HS0.out HSS.out A n c (by omega) W h) HLS.out
      have hdr := fun AF c (hc : n ≤ c) (hm : c ≤ maxLen) x A c0 h1 h2 W h3 h4 h5 => q17draw_c S HS0.out HSS.out (by rw [HLS.out]; omega) AF n c HLS.out hc hm (n0 : Int) (by omega) (by omega) (numT x B) (numT_ok x B (by omega)) (m : Int) (by omega) (by omega) A c0 h1 h2 W h3 h4 h5
      have hP2 := fun W => r8pow_c 2 B (fun i hi => Nat.lt_of_le_of_lt (Nat.pow_le_pow_right (by decide) (show i ≤ 9 by omega)) (by decide)) (by omega) W
      rw [show ((2 : Nat) : Int) = 2 from rfl] at hP2
      have hN9 : 2 ^ B ≤ 512 := Nat.le_trans (Nat.pow_le_pow_right (by decide) (show B ≤ 9 by omega)) (by decide)
      obtain ⟨P, hP⟩ : ∃ P, comZ M S m B = P := ⟨_, rfl⟩
      have hPx : ∀ x, P x = decide ((comR S (n0 : Int) (numT x B) (m : Int)).2.2 = 0 ∧ (comR S (n0 : Int) (numT x B) (m : Int)).1 = M) := fun x => by rw [← hP]; unfold comZ; rw [HLM.out]
      have hbd := fun x => comR_bd x B m hm1 (by omega) (n0 : Int) S HS0.out HSS.out
      rw [hP] at hWays
      obtain ⟨N, hN⟩ : ∃ N, 2 ^ B = N := ⟨_, rfl⟩
      rw [hN] at hWays hP2 hN9
      have hC9 := cnt_le P N
      have hCx := fun x (h : x ≤ N) => Nat.le_trans (cnt_le P x) h
      obtain ⟨WL, hWL⟩ : ∃ x, natL (cnt P N) = x := ⟨_, rfl⟩
      obtain ⟨LW, hLW⟩ : ∃ x, WL.length = x := ⟨_, rfl⟩
      rw [hWL, hLW] at hWays
      obtain ⟨T, hT⟩ : ∃ x, treeL S = x := ⟨_, rfl⟩
      rw [hT] at htr hdr
      have HWL := Lib.hid hWL
      have HLW := Lib.hid hLW
      have HW := Lib.hid hWays
      have HTR := Lib.hid htr
      have HDR := Lib.hid hdr
      have HP2 := Lib.hid hP2
      have HPX := Lib.hid hPx
      have HBD := Lib.hid hbd
      have HCX9 := Lib.hid hCx
      have HZ0 := Lib.hid zero_src
      have HZL := Lib.hid (show Src.zero.seed.length = 32 from rfl)
      have eU2 : IntKind.u64.wrap (B : Int) = (B : Int) := eU
      have c00 : cnt P 0 = 0 := rfl
      clear hWays e1 hCNT htr hdr hP2 hP hPx hbd hN hWL hLW hT hCx hC9
      go_wp2_with (first
        | (go_at_call 19; (with_reducible refine (HW.out _ _ _ (Fx.r1 G0.out) (Fx.r0 G0.out) (HKS.out.below (Fx.e2 G0.out)) HLC0.out HCM0.out).mono ?_); rintro e w101 ⟨A102, c103, rfl, hlw101, hmw101, hrw101, hbw101⟩; have lc103 := Lib.hid hlw101; have mc103 := Lib.hid hmw101; have G104 := Lib.hid (Fx.addR G0.out hbw101 hrw101); clear G0; clear hrw101 hbw101 hlw101 hmw101)
        | (go_at_call 18; (with_reducible refine (HTR.out _ _ _ (Fx.r1 G104.out)).mono ?_); rintro e w105 ⟨A106, c107, rfl, hrw105, hlw105, hmw105, hbw105⟩; have lc107 := Lib.hid hlw105; have mc107 := Lib.hid hmw105; have G108 := Lib.hid (Fx.addR G104.out hbw105 hrw105); clear G104; clear hrw105 hbw105 hlw105 hmw105)
        | (with_reducible refine at_any ?_; refine at_dst 13 rfl ?_; refine wpList_alloc_any rfl 40 rfl #[.slice none 0 0] zero_fen ?_; intro w109 hkw109 hsw109 hbw109; have U110 := Lib.hid (Fx.under_new G108.out rfl); have G111 := Lib.hid (Fx.newB G108.out hkw109.out hbw109); clear G108; clear hkw109 hsw109 hbw109)
        | (with_reducible refine at_any ?_; refine at_store 13 rfl ?_; refine wpList_store_any rfl 40 (.tmp 13) (.tmp 63) rfl w105.heap.size rfl 40 #[.slice none 0 0] (#[.slice A106 n c107]) (Fx.b0 G111.out) rfl (size1 _ _) (sizedF _) (fen_ones _ _ _) ?_; intro w112 hkw112 hsw112 hbw112 how112; have G113 := Lib.hid (Fx.put1B G111.out U110.out hkw112.out hsw112.out hbw112 how112); clear G111; clear hkw112 hsw112 hbw112 how112))
      go_loopw [14, 15] (fun nn xx wr => ∃ x : Nat, x ≤ N ∧ nn = .int .u64 ((cnt P x : Nat) : Int) ∧ xx = .int .u64 (x : Int) ∧ Fx [.blk w105.heap.size 40 #[.slice A106 n c107], .rdb .u64 w105.heap.size A106 n T, .rdb .u32 w101.heap.size A102 LW WL, .rdb .u64 w2.heap.size A5 n S, .rdb .i64 w2.heap.size a0 n0 M, .bel w] wr) (fun _ xx _ => N - (intOf xx).toNat)
      case atStart => exact ⟨0, by omega, rfl, rfl, G113.out⟩
      case round =>
        clear G113 c00 HW HTR
        obtain ⟨x, hx, rfl, rfl, hrel⟩ := hrel
        have G9 := Lib.hid hrel
        clear hrel
        have hcx9 := HCX9.out x hx
        by_cases hlt : x < N
        · have okS := numT_ok x B (by omega)
          have hB : ∀ W, Calls Tryz.prog 24 #[.int .u64 (x : Int), .int .i64 (B : Int)] W (RetSl W (bytesB x B B)) := fun W => r8bytes_c x B (by omega) (by omega) W
          have hZl := bytesB_len x B B
          have hTp : ∀ A c W, Rd .u8 W W.heap.size A (bytesB x B B).length (bytesB x B B) → (bytesB x B B).length ≤ c → Calls Tryz.prog 23 #[.slice A (bytesB x B B).length c, .int .u64 (B : Int)] W (fun e w' => ∃ A' c', e = .returned (.tuple #[.agg (srcV (numT x B) A' c'), .int .i64 0]) ∧ Rd .u8 w' w'.heap.size A' (bytesB x B B).length (bytesB x B B) ∧ (bytesB x B B).length ≤ c' ∧ c' ≤ maxLen ∧ Below W.heap.size W w') := fun A c W h1 h2 => by
            refine (rstape_c (bytesB x B B) (by omega) (B : Int) (by omega) (by omega) A _ c W h1 h2).mono fun _ _ h => ?_
            unfold RetTape at h
            rw [if_pos (by omega)] at h
            exact h
          obtain ⟨q9, hq9, hX9⟩ := HBD.out x
          have hQ := fun AF c hc hm => HDR.out AF c hc hm x
          have hpx := HPX.out x
          obtain ⟨rr, hrr⟩ : ∃ r, comR S (n0 : Int) (numT x B) (m : Int) = r := ⟨_, rfl⟩
          rw [hrr] at hQ hX9 hpx
          obtain ⟨K, X, e⟩ := rr
          dsimp only at hQ hX9 hpx
          have okX : X.Ok := by rw [hX9]; exact okS.to_ _ (by omega) (by omega)
          have hat : X.at_ = (q9 : Int) := by rw [hX9]; rfl
          have hcs : ∀ (W : World) (g : Nat) A c (h : Blk W g 28 (srcV (numT x B) A c)), W.cell? ⟨g, 2, none⟩ = some (.int .u64 (B : Int)) := fun W g A c h => (h.cell 2).trans (srcV_bits (numT x B) A c)
          have hcx : ∀ (W : World) (g : Nat) A c (h : Blk W g 28 (srcV X A c)), W.cell? ⟨g, 36, none⟩ = some (.int .u64 (q9 : Int)) := fun W g A c h => by rw [(h.cell 36).trans (srcV_at X okX.sl A c), hat]
          have htl : (numT x B).tape = bytesB x B B := rfl
          obtain ⟨NK, hNK⟩ : ∃ k, K.length = k := ⟨_, rfl⟩
          have hQ2 := fun AF c hc hm A c0 h1 h2 W h3 h4 h5 => (hQ AF c hc hm A c0 h1 h2 W h3 h4 h5).mono fun _ _ h => com_uP hNK h
          rw [htl] at hQ2
          obtain ⟨Z, hZ⟩ : ∃ Z, bytesB x B B = Z := ⟨_, rfl⟩
          obtain ⟨S0, hS0⟩ : ∃ S, numT x B = S := ⟨_, rfl⟩
          have hLS := okS.sl
          rw [hZ] at hB hTp hQ2 hZl
          rw [hS0] at hTp hQ2 hcs hLS
          have HBY := Lib.hid hB
          have HTP := Lib.hid hTp
          have HQ := Lib.hid hQ2
          have HCS := Lib.hid hcs
          have HCX := Lib.hid hcx
          have HLS0 := Lib.hid hLS
          have HLX := Lib.hid okX.sl
          have hsm := fun A B c d (hK : NK ≤ maxLen) (W : World) (h1 : Rd .i64 W W.heap.size A NK K) (h2 : Rd .i64 W W.heap.size B n0 M) => r17same_c K M A B NK n0 c d hK (by unfold maxLen; omega) W h1 h2
          have hx2 : (x : Int) < (N : Int) := by omega
          have hx1 : (x : Int) < 512 := by omega
          have nq9 : ¬ ((B : Int) < (q9 : Int)) := by omega
          by_cases hhit : e = 0 ∧ K = M
          · obtain ⟨rfl, rfl⟩ := hhit
            rw [decide_eq_true ⟨rfl, rfl⟩] at hpx
            have HNM := Lib.hid (cnt_hit hpx)
            rw [decide_eq_true rfl] at hsm
            have HSM := Lib.hid hsm
            obtain ⟨Y, hY⟩ : ∃ Y, cnt P x = Y := ⟨_, rfl⟩
            rw [hY] at HNM hcx9 ⊢
            have hY1 : (Y : Int) ≤ 512 := by omega
            clear hB hTp hQ hQ2 hcs hcx hLS okS okX hX9 hpx hrr hat htl hNK hZ hS0 hsm hY hZl hq9 hlt
            go_wp2_with (first
              | (go_at_call 22; (with_reducible refine (HP2.out _).mono ?_); rintro e _ ⟨rfl, rfl⟩)
              | (go_at_call 24; (with_reducible refine (HBY.out _).mono ?_); rintro e w301 ⟨A302, c303, rfl, hlw301, hmw301, hrw301, hbw301⟩; have lc303 := Lib.hid hlw301; have mc303 := Lib.hid hmw301; have G304 := Lib.hid (Fx.addR G9.out hbw301 hrw301); clear G9; clear hrw301 hbw301 hlw301 hmw301)
              | (go_at_call 23; (with_reducible refine (HTP.out A302 c303 _ (Fx.r0 G304.out) lc303.out).mono ?_); rintro e w305 ⟨A306, c307, rfl, hrw305, hlw305, hmw305, hbw305⟩; have lc307 := Lib.hid hlw305; have mc307 := Lib.hid hmw305; have G308 := Lib.hid (Fx.addR G304.out hbw305 hrw305); clear G304; clear hrw305 hbw305 hlw305 hmw305)
              | (with_reducible refine at_any ?_; refine at_dst 16 rfl ?_; refine wpList_alloc_any rfl 28 rfl (srcV Src.zero none 0) HZ0.out ?_; intro w309 hkw309 hsw309 hbw309; have U310 := Lib.hid (Fx.under_new G308.out rfl); have G311 := Lib.hid (Fx.newB G308.out hkw309.out hbw309); clear G308; clear hkw309 hsw309 hbw309)
              | (with_reducible refine at_any ?_; refine at_store 16 rfl ?_; refine wpList_store_any rfl 28 (.tmp 16) (.tmp 77) rfl w305.heap.size rfl 28 (srcV Src.zero none 0) (srcV S0 A306 c307) (Fx.b0 G311.out) rfl (srcV_same _ S0 HZL.out HLS0.out _ _ _ _) (sizedS S0 HLS0.out _ _) (srcV_ones _ _ _) ?_; intro w312 hkw312 hsw312 hbw312 how312; have G313 := Lib.hid (Fx.put1B G311.out U310.out hkw312.out hsw312.out hbw312 how312); clear G311; clear hkw312 hsw312 hbw312 how312)
              | (with_reducible refine at_any ?_; refine at_dst 80 rfl ?_; refine wpList_load_fen (by kernel_rfl) (.tmp 13) rfl w105.heap.size rfl 40 (.slice A106 n c107) (Fx.b3 G313.out) ?_)
              | (with_reducible refine at_any ?_; refine at_dst 83 rfl ?_; refine wpList_load_blk rfl 28 (.tmp 16) rfl w305.heap.size rfl 28 (srcV S0 A306 c307) (Fx.b0 G313.out) _ Tryz.underlying28 rfl (sizedS S0 HLS0.out _ _) ?_)
              | (go_at_call 15; (with_reducible refine (HQ.out _ _ lc107.out mc107.out A306 c307 lc307.out mc307.out _ (Fx.r4 G313.out) (Fx.r1 G313.out) (HKS.out.below (Fx.e8 G313.out))).mono ?_); rintro e w314 ⟨A315, c316, M317, d318, rfl, hnw314, hcw314, hdw314, _, hrw314, hlw314, hmw314, _, hbw314⟩; have lc316 := Lib.hid hlw314; have mc316 := Lib.hid hmw314; have ld318 := Lib.hid hcw314; have md318 := Lib.hid hdw314; have G319 := Lib.hid (Fx.addR (Fx.addR G313.out hbw314 hrw314) (Below.refl _ _) hnw314); clear G313; clear hrw314 hbw314 hlw314 hmw314 hnw314 hcw314 hdw314)
              | (with_reducible refine at_any ?_; refine at_dst 19 rfl ?_; refine wpList_alloc_any rfl 28 rfl (srcV Src.zero none 0) HZ0.out ?_; intro w320 hkw320 hsw320 hbw320; have U321 := Lib.hid (Fx.under_new G319.out rfl); have G322 := Lib.hid (Fx.newB G319.out hkw320.out hbw320); clear G319; clear hkw320 hsw320 hbw320)
              | (with_reducible refine at_any ?_; refine at_store 19 rfl ?_; refine wpList_store_any rfl 28 (.tmp 19) (.tmp 87) rfl w314.heap.size rfl 28 (srcV Src.zero none 0) (srcV X A315 c316) (Fx.b0 G322.out) rfl (srcV_same _ X HZL.out HLX.out _ _ _ _) (sizedS X HLX.out _ _) (srcV_ones _ _ _) ?_; intro w323 hkw323 hsw323 hbw323 how323; have G324 := Lib.hid (Fx.put1B G322.out U321.out hkw323.out hsw323.out hbw323 how323); clear G322; clear hkw323 hsw323 hbw323 how323; have cx := HCX.out _ _ _ _ (Fx.b0 G324.out); have cs := HCS.out _ _ _ _ (Fx.b3 G324.out))
              | (go_at_call 12; (with_reducible refine (HSM.out _ _ _ _ (Nat.le_trans ld318.out md318.out) _ (Fx.r1 G324.out) (Fx.r10 G324.out)).mono ?_); rintro e w325 ⟨rfl, hbw325⟩; have G326 := Lib.hid (Fx.below G324.out hbw325); clear G324; clear hbw325))
            go_roundw
            case rel => exact ⟨x + 1, by omega, by rw [HNM.out]; go_num, by go_num, G326.out.2.2.2.2.2.2⟩
            case measure => simp [intOf]; omega
          · rw [decide_eq_false hhit] at hpx
            have HNM := Lib.hid (cnt_miss hpx)
            by_cases he : e = 0
            · subst he
              have hKM : ¬ K = M := fun h => hhit ⟨rfl, h⟩
              rw [decide_eq_false hKM] at hsm
              have HSM := Lib.hid hsm
              obtain ⟨Y, hY⟩ : ∃ Y, cnt P x = Y := ⟨_, rfl⟩
              rw [hY] at HNM hcx9 ⊢
              have hY1 : (Y : Int) ≤ 512 := by omega
              clear hB hTp hQ hQ2 hcs hcx hLS okS okX hX9 hpx hrr hat htl hNK hZ hS0 hsm hY hZl hq9 hlt hhit hKM
              go_wp2_with (first
                | (go_at_call 22; (with_reducible refine (HP2.out _).mono ?_); rintro e _ ⟨rfl, rfl⟩)
                | (go_at_call 24; (with_reducible refine (HBY.out _).mono ?_); rintro e w301 ⟨A302, c303, rfl, hlw301, hmw301, hrw301, hbw301⟩; have lc303 := Lib.hid hlw301; have mc303 := Lib.hid hmw301; have G304 := Lib.hid (Fx.addR G9.out hbw301 hrw301); clear G9; clear hrw301 hbw301 hlw301 hmw301)
                | (go_at_call 23; (with_reducible refine (HTP.out A302 c303 _ (Fx.r0 G304.out) lc303.out).mono ?_); rintro e w305 ⟨A306, c307, rfl, hrw305, hlw305, hmw305, hbw305⟩; have lc307 := Lib.hid hlw305; have mc307 := Lib.hid hmw305; have G308 := Lib.hid (Fx.addR G304.out hbw305 hrw305); clear G304; clear hrw305 hbw305 hlw305 hmw305)
                | (with_reducible refine at_any ?_; refine at_dst 16 rfl ?_; refine wpList_alloc_any rfl 28 rfl (srcV Src.zero none 0) HZ0.out ?_; intro w309 hkw309 hsw309 hbw309; have U310 := Lib.hid (Fx.under_new G308.out rfl); have G311 := Lib.hid (Fx.newB G308.out hkw309.out hbw309); clear G308; clear hkw309 hsw309 hbw309)
                | (with_reducible refine at_any ?_; refine at_store 16 rfl ?_; refine wpList_store_any rfl 28 (.tmp 16) (.tmp 77) rfl w305.heap.size rfl 28 (srcV Src.zero none 0) (srcV S0 A306 c307) (Fx.b0 G311.out) rfl (srcV_same _ S0 HZL.out HLS0.out _ _ _ _) (sizedS S0 HLS0.out _ _) (srcV_ones _ _ _) ?_; intro w312 hkw312 hsw312 hbw312 how312; have G313 := Lib.hid (Fx.put1B G311.out U310.out hkw312.out hsw312.out hbw312 how312); clear G311; clear hkw312 hsw312 hbw312 how312)
                | (with_reducible refine at_any ?_; refine at_dst 80 rfl ?_; refine wpList_load_fen (by kernel_rfl) (.tmp 13) rfl w105.heap.size rfl 40 (.slice A106 n c107) (Fx.b3 G313.out) ?_)
                | (with_reducible refine at_any ?_; refine at_dst 83 rfl ?_; refine wpList_load_blk rfl 28 (.tmp 16) rfl w305.heap.size rfl 28 (srcV S0 A306 c307) (Fx.b0 G313.out) _ Tryz.underlying28 rfl (sizedS S0 HLS0.out _ _) ?_)
                | (go_at_call 15; (with_reducible refine (HQ.out _ _ lc107.out mc107.out A306 c307 lc307.out mc307.out _ (Fx.r4 G313.out) (Fx.r1 G313.out) (HKS.out.below (Fx.e8 G313.out))).mono ?_); rintro e w314 ⟨A315, c316, M317, d318, rfl, hnw314, hcw314, hdw314, _, hrw314, hlw314, hmw314, _, hbw314⟩; have lc316 := Lib.hid hlw314; have mc316 := Lib.hid hmw314; have ld318 := Lib.hid hcw314; have md318 := Lib.hid hdw314; have G319 := Lib.hid (Fx.addR (Fx.addR G313.out hbw314 hrw314) (Below.refl _ _) hnw314); clear G313; clear hrw314 hbw314 hlw314 hmw314 hnw314 hcw314 hdw314)
                | (with_reducible refine at_any ?_; refine at_dst 19 rfl ?_; refine wpList_alloc_any rfl 28 rfl (srcV Src.zero none 0) HZ0.out ?_; intro w320 hkw320 hsw320 hbw320; have U321 := Lib.hid (Fx.under_new G319.out rfl); have G322 := Lib.hid (Fx.newB G319.out hkw320.out hbw320); clear G319; clear hkw320 hsw320 hbw320)
                | (with_reducible refine at_any ?_; refine at_store 19 rfl ?_; refine wpList_store_any rfl 28 (.tmp 19) (.tmp 87) rfl w314.heap.size rfl 28 (srcV Src.zero none 0) (srcV X A315 c316) (Fx.b0 G322.out) rfl (srcV_same _ X HZL.out HLX.out _ _ _ _) (sizedS X HLX.out _ _) (srcV_ones _ _ _) ?_; intro w323 hkw323 hsw323 hbw323 how323; have G324 := Lib.hid (Fx.put1B G322.out U321.out hkw323.out hsw323.out hbw323 how323); clear G322; clear hkw323 hsw323 hbw323 how323; have cx := HCX.out _ _ _ _ (Fx.b0 G324.out); have cs := HCS.out _ _ _ _ (Fx.b3 G324.out))
                | (go_at_call 12; (with_reducible refine (HSM.out _ _ _ _ (Nat.le_trans ld318.out md318.out) _ (Fx.r1 G324.out) (Fx.r10 G324.out)).mono ?_); rintro e w325 ⟨rfl, hbw325⟩; have G326 := Lib.hid (Fx.below G324.out hbw325); clear G324; clear hbw325))
              go_roundw
              case rel => exact ⟨x + 1, by omega, by rw [HNM.out], by go_num, G326.out.2.2.2.2.2.2⟩
              case measure => simp [intOf]; omega
            · have t1 : (e == 0) = false := by rw [beq_eq_false_iff_ne]; exact he
              obtain ⟨Y, hY⟩ : ∃ Y, cnt P x = Y := ⟨_, rfl⟩
              rw [hY] at HNM hcx9 ⊢
              have hY1 : (Y : Int) ≤ 512 := by omega
              clear hB hTp hQ hQ2 hcs hcx hLS okS okX hX9 hpx hrr hat htl hNK hZ hS0 hsm hY hZl hq9 hlt hhit he
              go_wp2_with (first
                | (go_at_call 22; (with_reducible refine (HP2.out _).mono ?_); rintro e _ ⟨rfl, rfl⟩)
                | (go_at_call 24; (with_reducible refine (HBY.out _).mono ?_); rintro e w301 ⟨A302, c303, rfl, hlw301, hmw301, hrw301, hbw301⟩; have lc303 := Lib.hid hlw301; have mc303 := Lib.hid hmw301; have G304 := Lib.hid (Fx.addR G9.out hbw301 hrw301); clear G9; clear hrw301 hbw301 hlw301 hmw301)
                | (go_at_call 23; (with_reducible refine (HTP.out A302 c303 _ (Fx.r0 G304.out) lc303.out).mono ?_); rintro e w305 ⟨A306, c307, rfl, hrw305, hlw305, hmw305, hbw305⟩; have lc307 := Lib.hid hlw305; have mc307 := Lib.hid hmw305; have G308 := Lib.hid (Fx.addR G304.out hbw305 hrw305); clear G304; clear hrw305 hbw305 hlw305 hmw305)
                | (with_reducible refine at_any ?_; refine at_dst 16 rfl ?_; refine wpList_alloc_any rfl 28 rfl (srcV Src.zero none 0) HZ0.out ?_; intro w309 hkw309 hsw309 hbw309; have U310 := Lib.hid (Fx.under_new G308.out rfl); have G311 := Lib.hid (Fx.newB G308.out hkw309.out hbw309); clear G308; clear hkw309 hsw309 hbw309)
                | (with_reducible refine at_any ?_; refine at_store 16 rfl ?_; refine wpList_store_any rfl 28 (.tmp 16) (.tmp 77) rfl w305.heap.size rfl 28 (srcV Src.zero none 0) (srcV S0 A306 c307) (Fx.b0 G311.out) rfl (srcV_same _ S0 HZL.out HLS0.out _ _ _ _) (sizedS S0 HLS0.out _ _) (srcV_ones _ _ _) ?_; intro w312 hkw312 hsw312 hbw312 how312; have G313 := Lib.hid (Fx.put1B G311.out U310.out hkw312.out hsw312.out hbw312 how312); clear G311; clear hkw312 hsw312 hbw312 how312)
                | (with_reducible refine at_any ?_; refine at_dst 80 rfl ?_; refine wpList_load_fen (by kernel_rfl) (.tmp 13) rfl w105.heap.size rfl 40 (.slice A106 n c107) (Fx.b3 G313.out) ?_)
                | (with_reducible refine at_any ?_; refine at_dst 83 rfl ?_; refine wpList_load_blk rfl 28 (.tmp 16) rfl w305.heap.size rfl 28 (srcV S0 A306 c307) (Fx.b0 G313.out) _ Tryz.underlying28 rfl (sizedS S0 HLS0.out _ _) ?_)
                | (go_at_call 15; (with_reducible refine (HQ.out _ _ lc107.out mc107.out A306 c307 lc307.out mc307.out _ (Fx.r4 G313.out) (Fx.r1 G313.out) (HKS.out.below (Fx.e8 G313.out))).mono ?_); rintro e w314 ⟨A315, c316, M317, d318, rfl, hnw314, hcw314, hdw314, _, hrw314, hlw314, hmw314, _, hbw314⟩; have lc316 := Lib.hid hlw314; have mc316 := Lib.hid hmw314; have ld318 := Lib.hid hcw314; have md318 := Lib.hid hdw314; have G319 := Lib.hid (Fx.addR (Fx.addR G313.out hbw314 hrw314) (Below.refl _ _) hnw314); clear G313; clear hrw314 hbw314 hlw314 hmw314 hnw314 hcw314 hdw314)
                | (with_reducible refine at_any ?_; refine at_dst 19 rfl ?_; refine wpList_alloc_any rfl 28 rfl (srcV Src.zero none 0) HZ0.out ?_; intro w320 hkw320 hsw320 hbw320; have U321 := Lib.hid (Fx.under_new G319.out rfl); have G322 := Lib.hid (Fx.newB G319.out hkw320.out hbw320); clear G319; clear hkw320 hsw320 hbw320)
                | (with_reducible refine at_any ?_; refine at_store 19 rfl ?_; refine wpList_store_any rfl 28 (.tmp 19) (.tmp 87) rfl w314.heap.size rfl 28 (srcV Src.zero none 0) (srcV X A315 c316) (Fx.b0 G322.out) rfl (srcV_same _ X HZL.out HLX.out _ _ _ _) (sizedS X HLX.out _ _) (srcV_ones _ _ _) ?_; intro w323 hkw323 hsw323 hbw323 how323; have G324 := Lib.hid (Fx.put1B G322.out U321.out hkw323.out hsw323.out hbw323 how323); clear G322; clear hkw323 hsw323 hbw323 how323; have cx := HCX.out _ _ _ _ (Fx.b0 G324.out); have cs := HCS.out _ _ _ _ (Fx.b3 G324.out)))
              go_roundw
              case rel => exact ⟨x + 1, by omega, by rw [HNM.out], by go_num, G324.out.2.2.2.2.2.2⟩
              case measure => simp [intOf]; omega
        · obtain rfl : x = N := by omega
          have hof := fun W => r10of_c ((cnt P x : Nat) : Int) (by omega) (by omega) W
          rw [Int.toNat_natCast, HWL.out] at hof
          unfold RetN at hof
          rw [HLW.out] at hof
          have hsn := fun A B c d (hL : LW ≤ maxLen) (W : World) (h1 : Rd .u32 W W.heap.size A LW WL) (h2 : Rd .u32 W W.heap.size B LW WL) => r10same_c WL WL A B LW LW c d hL hL W h1 h2
          rw [decide_eq_true rfl] at hsn
          have HOF := Lib.hid hof
          have HSN := Lib.hid hsn
          obtain ⟨Y, hY⟩ : ∃ Y, cnt P x = Y := ⟨_, rfl⟩
          rw [hY] at HOF hcx9 ⊢
          have hY1 : (Y : Int) ≤ 512 := by omega
          have hx1 : (x : Int) ≤ 512 := by omega
          clear hof hsn hY hlt HWL HLW HDR HPX HBD HCX9 HZ0 HZL
          go_wp2_with (first
            | (go_at_call 22; (with_reducible refine (HP2.out _).mono ?_); rintro e _ ⟨rfl, rfl⟩)
            | (go_at_call 25; (with_reducible refine (HOF.out _).mono ?_); rintro e w701 ⟨A702, c703, rfl, hlw701, hmw701, hrw701, hbw701⟩; have lc703 := Lib.hid hlw701; have mc703 := Lib.hid hmw701; have G704 := Lib.hid (Fx.addR G9.out hbw701 hrw701); clear G9; clear hrw701 hbw701 hlw701 hmw701)
            | (go_at_call 21; (with_reducible refine (HSN.out _ _ _ _ (Nat.le_trans lc703.out mc703.out) _ (Fx.r3 G704.out) (Fx.r0 G704.out)).mono ?_); rintro e w705 ⟨rfl, hbw705⟩; have G706 := Lib.hid (Fx.below G704.out hbw705); clear G704; clear hbw705))
          go_ret
          exact ⟨rfl, (Fx.e6 G706.out)⟩


set_option maxRecDepth 100000 in
theorem lifted (os : Os) (started : os.Started) (H : Type) (enc : TypeId × Value → H) :
    ReturnsInHanded {} Tryz.checked os 7 .any (fun w args => (Rows.commCountsSpec.pre enc Tryz.prog Tryz.f7 [] false w args ∧ laidMetH Tryz.prog laidK w) ∧ sizedMet enc Tryz.prog Tryz.f7 (OpenSpec.ofChange Rows.commCountsSpec) false w args) (Rows.commCountsSpec.post enc Tryz.prog Tryz.f7 false true false false) := by
  refine returnsInHanded_of_change_and (C := Tryz.checked) (X := fun w _ => laidMetH Tryz.prog laidK w) (fun _ _ _ hh h => h.of_heap hh) own started (by kernel_rfl) Tryz.func7
    (ChangeSpec.witness_shaped (enc := enc) (C := Tryz.checked) (os := os) (X := fun w _ => laidMetH Tryz.prog laidK w) false (World.doorLaid Tryz.prog 400 os) #[.slice none 0 0, .agg #[.int .u8 0, .int .u8 0], .slice none 0 0] 8 rfl (World.shaped_of_RefB (by kernel_rfl) (by kernel_rfl)) (by kernel_rfl) (by kernel_rfl) (by kernel_rfl) (door_met os _)) ?_
  intro W base args ds gs before hval0 hW _ _ hL _
  have hval : ∀ (j : Nat) t v, Tryz.f7.params[j]? = some t → args[j]? = some v → Value.okWide Tryz.prog W .any base t v := hval0
  have hW' := hW
  obtain ⟨p, q, hA0, hV, rfl, hfz, hnd⟩ := hW
  have hA : DataW.TrodAll enc Tryz.prog W 0 (fun _ => true) true Tryz.f7.params.toList args.toList ds p := hA0
  rw [Tryz.params7] at hA hval
  obtain ⟨v0, vs0, d0, ds0, p0, q0, hargs, rfl, rfl, h0, r0⟩ := trodAll_cons hA
  obtain ⟨v1, vs1, d1, ds1, p1, q1, rfl, rfl, rfl, h1, r1⟩ := trodAll_cons r0
  obtain ⟨v2, vs2, d2, ds2, p2, q2, rfl, rfl, rfl, h2, r2⟩ := trodAll_cons r1
  obtain ⟨rfl, rfl, rfl⟩ := trodAll_nil r2
  obtain rfl : args = #[v0, v1, v2] := by cases args; simp_all
  obtain ⟨rfl, rfl⟩ := trodVars_none hV
  obtain ⟨a0, n0, c0, rfl⟩ := okWide_slice Tryz.underlying31 (hval 0 31 v0 rfl rfl)
  have k0 := h0
  have lt0 : ∀ x ∈ p0, x.block < W.heap.size := by obtain ⟨m, hm⟩ := k0; exact DataW.trod_lt m _ _ _ hm
  obtain ⟨z0, rd0, lc0, cm0, w0⟩ := open_rd Tryz.underlying31 Tryz.underlying3 (by kernel_rfl) h0
  obtain ⟨a1, l1, rfl, rfl, rfl, w1⟩ := open_arr_ints Tryz.underlying55 Tryz.underlying5 (by kernel_rfl) (by kernel_rfl) (hval 1 55 v1 rfl rfl) h1
  obtain ⟨a2, n2, c2, rfl⟩ := okWide_slice Tryz.underlying22 (hval 2 22 v2 rfl rfl)
  have k2 := h2
  have lt2 : ∀ x ∈ p2, x.block < W.heap.size := by obtain ⟨m, hm⟩ := k2; exact DataW.trod_lt m _ _ _ hm
  obtain ⟨z2, rd2, lc2, cm2, w2⟩ := open_rd Tryz.underlying22 Tryz.underlying24 (by kernel_rfl) h2
  clear hA0 hval0
  refine (walk a0 n0 c0 z0 a1 a2 n2 c2 z2 W rd0 lc0 cm0 w0 l1 w1 rd2 lc2 cm2 w2 (kst_of_laid hL)).mono fun e W' ⟨he, bel⟩ => ?_
  subst he
  exact ⟨_, rfl, _, _, _, [], _, [], hW', trodAll_mk1 (shut_bool Tryz.underlying4 _), (trodAll_cons_mk (Below.trod laidOut (by kernel_rfl) (of_decide_eq_true (by kernel_rfl)) k0 bel lt0) (trodAll_cons_mk (shut_arr_ints Tryz.underlying55 Tryz.underlying5 (by kernel_rfl) (by kernel_rfl) l1 w1) (trodAll_cons_mk (Below.trod laidOut (by kernel_rfl) (of_decide_eq_true (by kernel_rfl)) k2 bel lt2) trodAll_mk0))), rfl, bel.frame _, fun h => by cases h⟩

theorem over : Rows.commCountsRow.holds Tryz.pinned (OpenSpec.ofChange Rows.commCountsSpec) :=
  OpenClaim.holds_of_wide 7 Tryz.f7 rfl rfl rfl rfl rfl rfl rfl ⟨rfl, rfl, rfl, rfl, rfl⟩ rfl rfl rfl rfl rfl (by kernel_rfl) Tryz.func7 (by kernel_rfl)
    (of_decide_eq_true (by kernel_rfl)) (by unfold Func.isWrapper; first | (rw [if_pos (by decide +kernel)]; kernel_rfl) | (rw [if_neg (by decide +kernel)]; exact ⟨rfl, rfl⟩))
    (fun os started H enc _ => lifted os started H enc)

end Go.Proofs.YtgnclifmfefbcaaGreatDoor.commCounts
namespace Go.Proofs.YtgnclifmfefbcaaGreatDoor
theorem commCounts_holds : Rows.CommCountsCardSaid :=
  Claim7.holds_tied_plain_at .later [] kindsK true _ false
    commCounts.over (fun _ h => by cases h) (by kernel_rfl) (fun _ h => by cases h) commCounts_row_tie rfl ⟨rfl, rfl⟩ (by kernel_rfl) rfl
    (fun f fn hf hfn => by
      obtain rfl : f = 7 := Option.some.inj ((show Tryz.prog.funcNamed "drawlot/drawlotlaw17.CommCounts" = some 7 by kernel_rfl).symm.trans hf) |>.symm
      obtain rfl : fn = Tryz.f7 := (Option.some.inj (Tryz.func7.symm.trans hfn)).symm
      exact ⟨by kernel_rfl, fun j t ht => by
        rw [Tryz.params7] at ht
        have hm : t ∈ [31, 55, 22] := by simpa using Array.mem_of_getElem? ht
        have hall : ([31, 55, 22].all fun u => !Tryz.prog.wantsStandIn u) = true := by kernel_rfl
        exact (show Tryz.prog.wantsStandIn t = false by simpa using List.all_eq_true.1 hall t hm)⟩)
    (by kernel_rfl)
#print axioms commCounts_holds
end Go.Proofs.YtgnclifmfefbcaaGreatDoor

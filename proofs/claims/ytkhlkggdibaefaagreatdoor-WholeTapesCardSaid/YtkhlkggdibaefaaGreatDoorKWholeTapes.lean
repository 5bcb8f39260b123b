/-
  Of all tapes each place leads, by the tree, by just as many as its stake says, nobody by just the lost ones; no more bits are read; of up to 8 stakes below 8, and tapes of up to 11 bits.
  Conditions: the program's tables read, when the call begins, as its text lays them (the card ties that).
-/
import Derived.Test.YtkhlkggdibaefaaGreatDoorKGf
import Derived.BigQuiet
import Derived.ShutString
import Derived.Test.YtkhlkggdibaefaaGreatDoorTie
import Derived.Test.YtkhlkggdibaefaaGreatDoorCards
import Derived.SevenTiedAt
import Derived.ChangeOld
namespace Go.Proofs.YtkhlkggdibaefaaGreatDoor.wholeTapes
open Go.ChangeShapes Go.WideShapes Go.ChangeAt Go.RowKit
set_option linter.unusedVariables false
set_option linter.unusedSimpArgs false
set_option maxRecDepth 100000

theorem own : ownKnob Tryz.prog.godebug = none := by kernel_rfl
theorem laidOut : laidOutB Tryz.prog = true := by kernel_rfl

theorem need64 : ∀ c, c < 64 → needN ((c + 1 : Nat) : Int) ≤ 6 := by decide +kernel
theorem draw_numW (x k b t : Nat) (hk : needN (b : Int) = k) (hk4 : k ≤ 64) (hb1 : 1 ≤ b) (hb2 : b ≤ 64) (t1 : 1 ≤ t) (t4 : t ≤ 64) (hx : x < (2 ^ k) ^ t) : DrawsAs (k * t) (hits (2 ^ k) b t x) (drawR (numT x (k * t)) (b : Int) (t : Int)) := by
  have hr : rightS (numT x (k * t)) = true := (takeE_ok.1 (numT_take x (k * t) 0 0 (by omega) (by omega)).1).1
  have hB : drawB (numT x (k * t)) (b : Int) (t : Int) = true := by
    unfold drawB
    rw [hr, Bool.true_and]
    exact decide_eq_true ⟨by omega, by omega, by omega, by omega⟩
  unfold drawR
  rw [if_pos hB, hk, Int.toNat_natCast]
  have h := numT_draw x k b t hk4 t (Nat.le_refl _)
  rw [Nat.mod_eq_of_lt hx, Nat.sub_self, Nat.mul_zero] at h
  exact h
theorem draws_someW {bits v : Nat} {h : Option Nat} {r : Int × Src × Int} (hd : DrawsAs bits h r) (e : h = some v) : r.1 = (v : Int) ∧ r.2.2 = 0 ∧ r.2.1.at_ ≤ (bits : Int) := by subst e; exact hd
theorem draws_noneW {bits : Nat} {h : Option Nat} {r : Int × Src × Int} (hd : DrawsAs bits h r) (e : h = none) : r.2.2 = 9 ∧ r.2.1.at_ = (bits : Int) := by subst e; exact hd
theorem retNE_len {w w' : World} {e : Ending} {zs : List Int} {n : Nat} (h : RetNE w (0, zs) e w') (hn : zs.length = n) : ∃ A c, e = .returned (.tuple #[.slice A n c, .int .i64 0]) ∧ n ≤ c ∧ c ≤ maxLen ∧ Rd .u32 w' w'.heap.size A n zs ∧ Below w.heap.size w w' := by subst hn; exact h
theorem retN_len {w w' : World} {e : Ending} {zs : List Int} {n : Nat} (h : RetN w zs e w') (hn : zs.length = n) : ∃ A c, e = .returned (.slice A n c) ∧ n ≤ c ∧ c ≤ maxLen ∧ Rd .u32 w' w'.heap.size A n zs ∧ Below w.heap.size w w' := by subst hn; exact h
set_option maxHeartbeats 32000000 in
theorem walk (a0 : Option Addr) (n c : Nat) (zs : List Int) (a1 : Int) (w : World) (hrd : Rd .u64 w w.heap.size a0 n zs) (lc : n ≤ c) (cm : c ≤ maxLen) (hw : ∀ z ∈ zs, (Lit.int .u64 z).wf = true) (w1 : (Lit.int .u8 a1).wf = true) (hkst : Kst w) :
    Calls Tryz.prog 3 #[.slice a0 n c, .int .u8 a1] w fun e w' => e = .returned (.bool true) ∧ Below w.heap.size w w' := by
  obtain ⟨ti, hti, hz0, hz1, hzb⟩ := info_parts info_u64d
  have HKS := Lib.hid hkst
  have G0 : Hid (Fx [.rdb .u64 w.heap.size a0 n zs, .bel w] w) := Lib.hid ⟨⟨hrd, Nat.le_refl _⟩, Below.refl _ _, trivial⟩
  have hlen := hrd.len
  have hz : ∀ z ∈ zs, 0 ≤ z ∧ z < 18446744073709551616 := fun z h => by
    obtain ⟨h1, h2⟩ := bounds_u64 (hw z h)
    omega
  have m0 : 0 ≤ a1 := (bounds_u8 w1).1
  have m1 : a1 < 256 := by have := (bounds_u8 w1).2; omega
  have hcm : (c : Int) ≤ 9223372036854775807 := by unfold maxLen at cm; omega
  have hncI : (n : Int) ≤ (c : Int) := by omega
  by_cases hg : 8 < n
  · have hg2 : (8 : Int) < (n : Int) := by omega
    clear hrd hw hz hg hkst lc cm w1 m0 m1
    go_enter Tryz.func3, Tryz.ntmps3
    go_wp2_with (first
      | (go_at_call 9; (with_reducible refine (aliveT_c _ (HKS.out.below (Fx.e1 G0.out))).mono ?_); rintro e w1 ⟨rfl, hbw1⟩; have G2 := Lib.hid (Fx.below G0.out hbw1); clear G0; clear hbw1))
    go_ret
    exact ⟨rfl, (Fx.e1 G2.out)⟩
  have hg2 : (n : Int) ≤ 8 := by omega
  have hsm := fun W h => small_c zs a0 n c (by omega) hcm lc hz 8 (by omega) (by omega) W h
  unfold RetSm at hsm
  have hS : ∀ z ∈ smlL 8 zs, 0 ≤ z ∧ z < 8 := smlL_in (by omega)
  have hlS : (smlL 8 zs).length = n := (smlL_len 8 zs).trans hlen
  have hsum := smlL_sum (b := 8) (by omega) (l := zs) n (by omega)
  rw [List.take_of_length_le (by omega)] at hsum
  obtain ⟨S, hSS⟩ : ∃ S, smlL 8 zs = S := ⟨_, rfl⟩
  rw [hSS] at hsm hS hlS hsum
  have HS0 : Hid (∀ z ∈ S, 0 ≤ z) := Lib.hid (fun z h => (hS z h).1)
  have HS1 : Hid (∀ z ∈ S, 0 ≤ z ∧ z < 18446744073709551616) := Lib.hid (fun z h => by have := hS z h; omega)
  have HLS := Lib.hid hlS
  have htm : a1.tmod 4 = a1 % 4 := Int.tmod_eq_emod_of_nonneg m0
  obtain ⟨q, hq⟩ : ∃ q, a1 % 4 = q := ⟨_, rfl⟩
  have q0 : 0 ≤ q := by rw [← hq]; exact Int.emod_nonneg _ (by omega)
  have q1 : q < 4 := by rw [← hq]; exact Int.emod_lt_of_pos _ (by omega)
  rw [hq] at htm
  obtain ⟨t, ht⟩ : ∃ t : Nat, 1 + q = (t : Int) := ⟨(1 + q).toNat, by omega⟩
  have ht1 : 1 ≤ t := by omega
  have ht3 : t ≤ 4 := by omega
  obtain ⟨b, hbs⟩ := Int.eq_ofNat_of_zero_le hsum.1
  have hb64 : b ≤ 64 := by have := hsum.2; omega
  clear hrd hw hSS hS lc cm hlen hq w1 hkst hg hz
  by_cases hbz : b = 0
  · subst hbz
    rw [show sumL S = 0 from hbs] at hsm
    have HSM := Lib.hid hsm
    clear hsm hbs hsum hb64
    go_enter Tryz.func3, Tryz.ntmps3
    go_wp2_with (first
      | (go_at_call 9; (with_reducible refine (aliveT_c _ (HKS.out.below (Fx.e1 G0.out))).mono ?_); rintro e w1 ⟨rfl, hbw1⟩; have G2 := Lib.hid (Fx.below G0.out hbw1); clear G0; clear hbw1)
      | (go_at_call 10; (with_reducible refine (HSM.out _ (Fx.r0 G2.out)).mono ?_); rintro e w3 ⟨A4, c5, rfl, hrw3, hlw3, hmw3, hbw3⟩; have lc5 := Lib.hid hlw3; have mc5 := Lib.hid hmw3; have G6 := Lib.hid (Fx.addR G2.out hbw3 hrw3); clear G2; clear hrw3 hbw3 hlw3 hmw3))
    go_ret
    exact ⟨rfl, (Fx.e2 G6.out)⟩
  rw [hbs] at hsm hsum
  have HSM := Lib.hid hsm
  have HBS := Lib.hid hbs
  have hb1 : 1 ≤ b := by omega
  have hb33 : (b : Int) ≤ 64 := by omega
  have hb34 : ((b : Int) == 0) = false := by rw [beq_eq_false_iff_ne]; omega
  have hb35 : (1 : Int) ≤ (b : Int) := by omega
  have k4 := need64 (b - 1) (by omega)
  rw [show b - 1 + 1 = b by omega] at k4
  have hmay : mayB (b : Int) (t : Int) = true := mayB_iff.2 ⟨by omega, by omega, by omega, by omega⟩
  have hoP : oddP (b : Int) = 2 ^ needN (b : Int) := rfl
  have hn := fun W => r8need_c (b : Int) (by omega) (by omega) W
  obtain ⟨k, hk⟩ : ∃ k, needN (b : Int) = k := ⟨_, rfl⟩
  rw [hk] at k4 hn hoP
  obtain ⟨M, hM⟩ : ∃ M, k * t = M := ⟨_, rfl⟩
  have hkt : (k : Int) * (t : Int) = (M : Int) := by rw [← hM]; push_cast; rfl
  have hM24 : M ≤ 24 := by rw [← hM]; exact Nat.mul_le_mul k4 ht3
  have HN := Lib.hid hn
  have kk1 : (k : Int) ≤ 6 := by omega
  have mm1 : (M : Int) ≤ 24 := by omega
  by_cases hbig : 11 < M
  · have mm2 : (11 : Int) < (M : Int) := by omega
    clear hn hk hM hM24 hbig k4 hb1 hbz HBS HS0 HLS ht1 ht3 hb64 hsm hsum hbs hmay hoP
    go_enter Tryz.func3, Tryz.ntmps3
    go_wp2_with (first
      | (go_at_call 9; (with_reducible refine (aliveT_c _ (HKS.out.below (Fx.e1 G0.out))).mono ?_); rintro e w1 ⟨rfl, hbw1⟩; have G2 := Lib.hid (Fx.below G0.out hbw1); clear G0; clear hbw1)
      | (go_at_call 10; (with_reducible refine (HSM.out _ (Fx.r0 G2.out)).mono ?_); rintro e w3 ⟨A4, c5, rfl, hrw3, hlw3, hmw3, hbw3⟩; have lc5 := Lib.hid hlw3; have mc5 := Lib.hid hmw3; have G6 := Lib.hid (Fx.addR G2.out hbw3 hrw3); clear G2; clear hrw3 hbw3 hlw3 hmw3)
      | (go_at_call 11; (with_reducible refine (HN.out _).mono ?_); rintro e _ ⟨rfl, rfl⟩))
    go_ret
    exact ⟨rfl, (Fx.e2 G6.out)⟩
  have hsm11 : M ≤ 11 := by omega
  have mm2 : (M : Int) ≤ 11 := by omega
  have hN1 : 2 ^ M = (2 ^ k) ^ t := by rw [← hM, Nat.pow_mul]
  have hN2 : 2 ^ M ≤ 2048 := Nat.pow_le_pow_right (n := 2) (by omega) hsm11
  have hP2 := fun W => r8pow_c 2 M (fun i hi => Nat.lt_of_le_of_lt (Nat.pow_le_pow_right (n := 2) (by omega) (show i ≤ 11 by omega)) (by decide)) (by omega) W
  rw [show ((2 : Nat) : Int) = 2 from rfl] at hP2
  have hbi := fun W => calls_val (q16bits_c (b : Int) (t : Int) (by omega) (by omega) (by omega) (by omega) W) (tup_ii (a := (bitR (b : Int) (t : Int)).1) (b := (M : Int)) (c := (bitR (b : Int) (t : Int)).2) (d := 0) (by unfold bitR; rw [if_pos hmay, hk]; exact hkt) (by unfold bitR; rw [if_pos hmay]))
  have hDr := fun x (hx : x < (2 ^ k) ^ t) => draw_numW x k b t hk (by omega) hb1 (by omega) ht1 (by omega) hx
  have hlo := lostR_all hmay
  have hle := fun i (hi : i < n) => leadR_all HS0.out hbs hmay (i := i) (by rw [hlS]; exact hi)
  rw [hoP] at hlo hle
  rw [hN1] at hN2 hP2
  rw [hM] at hDr
  clear hN1 hk hoP
  obtain ⟨Q, hQ⟩ : ∃ Q, 2 ^ k = Q := ⟨_, rfl⟩
  rw [hQ] at hN2 hP2 hDr hlo hle
  clear hQ
  obtain ⟨N, hN⟩ : ∃ N, Q ^ t = N := ⟨_, rfl⟩
  rw [hN] at hN2 hP2 hDr hlo hle
  have hss : sumL S < 9223372036854775808 := by omega
  have e := bldE_ok (l := S) (by omega) hss
  have hbu := fun A c W hT h => calls_fen (q11build_c S HS1.out A n c (by unfold maxLen; omega) W hT h) e.2 e.1 ((treeL_len S).trans hlS)
  have hld := fun AF c (hc : n ≤ c) (hm : c ≤ maxLen) x A c0 h1 h2 W h3 h4 h5 => q13draw_c S HS0.out hss (by omega) AF n c hlS hc hm (numT x M) (numT_ok x M (by omega)) (t : Int) (by omega) (by omega) A c0 h1 h2 W h3 h4 h5
  have hled := fun x => ledT_go (l := S) (numT x M) (t : Int) (by rw [hbs]; omega)
  rw [hbs] at hled
  have hlos := fun W => q16lost_c (b : Int) (t : Int) (by omega) (by omega) (by omega) (by omega) W
  have hlea := fun (i : Nat) (hi : i < n) A c W h => q16lead_c (i : Int) (by omega) (by omega) (t : Int) (by omega) (by omega) S HS1.out A n c (by omega) W h
  rw [hlo] at hlos
  obtain ⟨TF, hTF⟩ : ∃ x, treeL S = x := ⟨_, rfl⟩
  rw [hTF] at hbu hld
  have HV := Lib.hid (fun x v h => hits_lt Q b t x v h)
  have HDR := Lib.hid hDr
  have HLOS := Lib.hid hlos
  have HLEA := Lib.hid hlea
  have HLER := Lib.hid hle
  have HP2 := Lib.hid hP2
  have HBU := Lib.hid hbu
  have HBI := Lib.hid hbi
  have HLD := Lib.hid hld
  have HLED := Lib.hid hled
  have HZ0 := Lib.hid zero_src
  have HZL := Lib.hid (show Src.zero.seed.length = 32 from rfl)
  have hmk : ∀ W, (Instr.makeSlice 22 (.int .i64 (n : Int)) (.int .i64 (n : Int))).run Tryz.prog W = .ok (.slice (some ⟨W.heap.size, 0, none⟩) n n) (W.alloc (.cells (intsA .u64 (List.replicate n 0)) 24)) := fun W => run_make_ints (P := Tryz.prog) 22 24 ti .u64 Tryz.underlying22 hti hz0 hz1 .i64 .i64 n (by rw [hzb]; omega) (by omega) W
  have tmm : ((M : Int) != (M : Int)) = false := by simp
  clear hDr hlos hlea hle hlo hP2 hbu hbi hld hled hn hsm hsum hbs hss hmay e hN hTF hM hbz hbig k4 hM24 hb64 hlS hti hz0 hz1 hzb
  go_enter Tryz.func3, Tryz.ntmps3
  go_wp2_with (first
    | (go_at_call 9; (with_reducible refine (aliveT_c _ (HKS.out.below (Fx.e1 G0.out))).mono ?_); rintro e w1 ⟨rfl, hbw1⟩; have G2 := Lib.hid (Fx.below G0.out hbw1); clear G0; clear hbw1)
    | (go_at_call 10; (with_reducible refine (HSM.out _ (Fx.r0 G2.out)).mono ?_); rintro e w3 ⟨A4, c5, rfl, hrw3, hlw3, hmw3, hbw3⟩; have lc5 := Lib.hid hlw3; have mc5 := Lib.hid hmw3; have G6 := Lib.hid (Fx.addR G2.out hbw3 hrw3); clear G2; clear hrw3 hbw3 hlw3 hmw3)
    | (go_at_call 11; (with_reducible refine (HN.out _).mono ?_); rintro e _ ⟨rfl, rfl⟩)
    | (go_at_call 12; (with_reducible refine (HBI.out _).mono ?_); rintro e w7 ⟨rfl, hbw7⟩; have G8 := Lib.hid (Fx.below G6.out hbw7); clear G6; clear hbw7)
    | (go_at_call 13; (with_reducible refine (HBU.out _ _ _ (Kst.tz (HKS.out.below (Fx.e2 G8.out))) (Fx.r0 G8.out)).mono ?_); rintro e w9 ⟨A10, c11, rfl, hrw9, hlw9, hmw9, hbw9⟩; have lc11 := Lib.hid hlw9; have mc11 := Lib.hid hmw9; have G12 := Lib.hid (Fx.addR G8.out hbw9 hrw9); clear G8; clear hrw9 hbw9 hlw9 hmw9)
    | (with_reducible refine at_any ?_; refine at_dst 10 rfl ?_; refine wpList_alloc_any rfl 32 rfl #[.slice none 0 0] zero_fen ?_; intro w13 hkw13 hsw13 hbw13; have U14 := Lib.hid (Fx.under_new G12.out rfl); have G15 := Lib.hid (Fx.newB G12.out hkw13.out hbw13); clear G12; clear hkw13 hsw13 hbw13)
    | (with_reducible refine at_any ?_; refine at_store 10 rfl ?_; refine wpList_store_any rfl 32 (.tmp 10) (.tmp 55) rfl w9.heap.size rfl 32 #[.slice none 0 0] (#[.slice A10 n c11]) (Fx.b0 G15.out) rfl (size1 _ _) (sizedF _) (fen_ones _ _ _) ?_; intro w16 hkw16 hsw16 hbw16 how16; have G17 := Lib.hid (Fx.put1B G15.out U14.out hkw16.out hsw16.out hbw16 how16); clear G15; clear hkw16 hsw16 hbw16 how16))
  clear hmk
  obtain ⟨go, hgo⟩ : ∃ g, w16.heap.size = g := ⟨_, rfl⟩
  have hnew : Fx [.blk w16.heap.size 24 (intsA .u64 (List.replicate n 0)), .blk w9.heap.size 32 #[.slice A10 n c11], .rdb .u64 w9.heap.size A10 n TF, .rdb .u64 w3.heap.size A4 n S, .rdb .u64 w.heap.size a0 n zs, .bel w] (w16.alloc (.cells (intsA .u64 (List.replicate n 0)) 24)) := Fx.newB G17.out (Blk.new _ _ _) ((Below.refl _ _).alloc (Nat.le_refl _) _)
  have HU : Hid (Fx.under w16.heap.size [.blk w9.heap.size 32 #[.slice A10 n c11], .rdb .u64 w9.heap.size A10 n TF, .rdb .u64 w3.heap.size A4 n S, .rdb .u64 w.heap.size a0 n zs, .bel w]) := Lib.hid (Fx.under_new G17.out rfl)
  rw [hgo] at hnew HU
  rw [hgo]
  obtain ⟨wo, hwo⟩ : ∃ wo, w16.alloc (.cells (intsA .u64 (List.replicate n 0)) 24) = wo := ⟨_, rfl⟩
  rw [hwo] at hnew ⊢
  rw [← HLS.out, ← ledL_zero S Q b t, HLS.out] at hnew
  have HNEW := Lib.hid hnew
  clear hnew hwo hgo G17
  have nn0 : noneL Q b t 0 = 0 := rfl
  go_loopw [13, 14] (fun nn xx wr => ∃ x : Nat, x ≤ N ∧ nn = .int .u64 ((noneL Q b t x : Nat) : Int) ∧ xx = .int .u64 (x : Int) ∧ Fx [.blk go 24 (intsA .u64 (ledL S Q b t x)), .blk w9.heap.size 32 #[.slice A10 n c11], .rdb .u64 w9.heap.size A10 n TF, .rdb .u64 w3.heap.size A4 n S, .rdb .u64 w.heap.size a0 n zs, .bel w] wr) (fun _ xx _ => N - (intOf xx).toNat)
  case atStart => exact ⟨0, by omega, rfl, rfl, HNEW.out⟩
  case round =>
    clear HNEW nn0
    obtain ⟨x, hx, rfl, rfl, hrel⟩ := hrel
    have G9 := Lib.hid hrel
    clear hrel
    by_cases hlt : x < N
    · have hD := HDR.out x hlt
      have okS := numT_ok x M (by omega)
      have hle := HLED.out x
      have hsc := fun W => source_c x M (by omega) (by omega) W
      unfold RetSrc at hsc
      have okX := (ledT_in S (numT x M) (t : Int) okS).1
      have hL9 := fun AF c hc hm => HLD.out AF c hc hm x
      rw [hle] at okX
      unfold RetLead at hL9
      rw [hle] at hL9
      have hgo : (drawR (numT x M) (b : Int) (t : Int)).2.2 = 0 → ledGo S (drawR (numT x M) (b : Int) (t : Int)) = (ownV S (drawR (numT x M) (b : Int) (t : Int)).1, (drawR (numT x M) (b : Int) (t : Int)).2.1, 0) := fun h => if_pos h
      have hgn : (drawR (numT x M) (b : Int) (t : Int)).2.2 ≠ 0 → ledGo S (drawR (numT x M) (b : Int) (t : Int)) = (0, (drawR (numT x M) (b : Int) (t : Int)).2.1, (drawR (numT x M) (b : Int) (t : Int)).2.2) := fun h => if_neg h
      have hnl := noneL_le Q b t x
      have hx2 : (x : Int) < (N : Int) := by omega
      have hx1 : (x : Int) < 2048 := by omega
      clear hle
      cases hh : hits Q b t x with
      | none =>
        obtain ⟨he9, hat⟩ := draws_noneW hD hh
        have e1 := hgn (by rw [he9]; decide)
        rw [he9] at e1
        rw [e1] at okX hL9
        dsimp only at okX hL9
        obtain ⟨X, hX⟩ : ∃ X, (drawR (numT x M) (b : Int) (t : Int)).2.1 = X := ⟨_, rfl⟩
        rw [hX] at okX hL9 hat
        have hcx : ∀ (W : World) (g : Nat) A c (h : Blk W g 40 (srcV X A c)), W.cell? ⟨g, 36, none⟩ = some (.int .u64 (M : Int)) := fun W g A c h => by rw [(h.cell 36).trans (srcV_at X okX.sl A c), hat]
        have HNX := Lib.hid (ledL_miss S Q b t x hh)
        have HNM := Lib.hid (noneL_miss Q b t x hh)
        obtain ⟨Y, hY⟩ : ∃ Y, noneL Q b t x = Y := ⟨_, rfl⟩
        rw [hY] at HNM hnl ⊢
        obtain ⟨G, hG⟩ : ∃ G, ledL S Q b t x = G := ⟨_, rfl⟩
        rw [hG] at G9 HNX
        obtain ⟨S0, hS0⟩ : ∃ S, numT x M = S := ⟨_, rfl⟩
        rw [hS0] at hsc hL9
        obtain ⟨Z, hZ⟩ : ∃ Z, S0.tape = Z := ⟨_, rfl⟩
        rw [hZ] at hsc hL9
        obtain ⟨LS, hLS⟩ : ∃ L, Z.length = L := ⟨_, rfl⟩
        rw [hLS] at hsc hL9
        have HSC := Lib.hid hsc
        have HQ := Lib.hid hL9
        have HCX := Lib.hid hcx
        have HLX := Lib.hid okX.sl
        have hY1 : (Y : Int) ≤ 2048 := by omega
        clear hsc hL9 hcx hD okS okX hX hG hY hS0 hZ hLS hh he9 hat e1 hgo hgn hnl hlt
        go_wp2_with (go_at_call 14; (with_reducible refine (HP2.out _).mono ?_); rintro e _ ⟨rfl, rfl⟩)
        refine wp_region_held_drew (S := (Fx [.blk go 24 (intsA .u64 (G)), .blk w9.heap.size 32 #[.slice A10 n c11], .rdb .u64 w9.heap.size A10 n TF, .rdb .u64 w3.heap.size A4 n S, .rdb .u64 w.heap.size a0 n zs, .bel w])) (by kernel_rfl) (Fx.drew G9.out) (fun hH => ?_)
        refine wpAnyH_letter #[false, false, false, false, false, false, false, false, false, false, false, false, false, false] (by kernel_rfl) (fun _ _ d _ _ h => by cases d <;> exact h) (fun QL HQ1 HQ2 => ?_)
        refine held_row 0 (some 73) rfl (by kernel_rfl) (by kernel_rfl) (by kernel_rfl) (by kernel_rfl) (fun c a v w h => HQ2.out c a _ v w h) (by kernel_rfl) 32 (.tmp 10) rfl w9.heap.size (by kernel_rfl) 32 #[.slice A10 n c11] (fun _ h => Fx.b1 h) _ Tryz.underlying32 rfl (sizedF _) hH ?_
        try simp only [Act.put, List.setIfInBounds_toArray, List.set_cons_zero, List.set_cons_succ]
        refine held_v 1 (some 74) rfl (by kernel_rfl) (by kernel_rfl) (by kernel_rfl) (by kernel_rfl) (fun c a v w h => HQ2.out c a _ v w h) (by kernel_rfl) (.int .u64 (x : Int)) (fun W h => by kernel_rfl) hH ?_
        try simp only [Act.put, List.setIfInBounds_toArray, List.set_cons_zero, List.set_cons_succ]
        refine held_v 2 (some 75) rfl (by kernel_rfl) (by kernel_rfl) (by kernel_rfl) (by kernel_rfl) (fun c a v w h => HQ2.out c a _ v w h) (by kernel_rfl) (.int .i64 (M : Int)) (fun W h => by kernel_rfl) hH ?_
        try simp only [Act.put, List.setIfInBounds_toArray, List.set_cons_zero, List.set_cons_succ]
        refine held_v 4 (some 77) rfl (by kernel_rfl) (by kernel_rfl) (by kernel_rfl) (by kernel_rfl) (fun c a v w h => HQ2.out c a _ v w h) (by kernel_rfl) (.int .i64 (t : Int)) (fun W h => by kernel_rfl) hH ?_
        try simp only [Act.put, List.setIfInBounds_toArray, List.set_cons_zero, List.set_cons_succ]
        refine wpAnyH_ready (rs := [3, 10]) (by kernel_rfl) (by decide) ?_
        refine AllReadyH.cons rfl (fun K hK => ?_) (AllReadyH.cons rfl (fun K hK => ?_) AllReadyH.nil)
        · refine step_call (some 76) (by kernel_rfl) (by kernel_rfl) _ _ (by kernel_rfl) _ (HSC.out _) ?_
          rintro e w401 ⟨A2, c2, rfl, hr2, hl2, hm2, hbw401⟩
          have ex402 : Fx [.rdb .u8 w401.heap.size A2 LS Z] w401 := ⟨⟨hr2, Nat.le_refl _⟩, trivial⟩
          refine ⟨_, rfl, ?_⟩
          refine hK.out _ _ (hH.below hbw401) (fun hw401 => ?_)
          clear hK K
          try simp only [Act.put, List.setIfInBounds_toArray, List.set_cons_zero, List.set_cons_succ]
          refine wpAnyH_ready (rs := [5, 10]) (by kernel_rfl) (by decide) ?_
          refine AllReadyH.cons rfl (fun K hK => ?_) (AllReadyH.cons rfl (fun K hK => ?_) AllReadyH.nil)
          · refine step_call (some 78) (by kernel_rfl) (by kernel_rfl) _ _ (by kernel_rfl) _ (HQ.out _ _ lc11.out mc11.out A2 c2 hl2 hm2 _ (Fx.r2 hw401) (Fx.r0 ex402) (HKS.out.below (Fx.e5 hw401))) ?_
            rintro e w403 ⟨A3, c3, rfl, hr3, hl3, hm3, hsp3, hbw403⟩
            refine ⟨_, rfl, ?_⟩
            refine hK.out _ _ (hw401.below hbw403) (fun hw403 => ?_)
            clear hK K
            try simp only [Act.put, List.setIfInBounds_toArray, List.set_cons_zero, List.set_cons_succ]
            refine held_v 6 (some 72) rfl (by kernel_rfl) (by kernel_rfl) (by kernel_rfl) (by kernel_rfl) (fun c a v w h => HQ2.out c a _ v w h) (by kernel_rfl) (.tuple #[.int .i64 0, .agg (srcV X A3 c3), .int .i64 9]) (fun W h => by kernel_rfl) hw403 ?_
            try simp only [Act.put, List.setIfInBounds_toArray, List.set_cons_zero, List.set_cons_succ]
            refine held_v 7 (some 79) rfl (by kernel_rfl) (by kernel_rfl) (by kernel_rfl) (by kernel_rfl) (fun c a v w h => HQ2.out c a _ v w h) (by kernel_rfl) (.int .i64 0) (fun W h => by kernel_rfl) hw403 ?_
            try simp only [Act.put, List.setIfInBounds_toArray, List.set_cons_zero, List.set_cons_succ]
            refine held_v 8 (some 80) rfl (by kernel_rfl) (by kernel_rfl) (by kernel_rfl) (by kernel_rfl) (fun c a v w h => HQ2.out c a _ v w h) (by kernel_rfl) (.agg (srcV X A3 c3)) (fun W h => by kernel_rfl) hw403 ?_
            try simp only [Act.put, List.setIfInBounds_toArray, List.set_cons_zero, List.set_cons_succ]
            refine held_v 9 (some 81) rfl (by kernel_rfl) (by kernel_rfl) (by kernel_rfl) (by kernel_rfl) (fun c a v w h => HQ2.out c a _ v w h) (by kernel_rfl) (.int .i64 9) (fun W h => by kernel_rfl) hw403 ?_
            try simp only [Act.put, List.setIfInBounds_toArray, List.set_cons_zero, List.set_cons_succ]
            refine wpAnyH_ready (rs := [10]) (by kernel_rfl) (by decide) ?_
            refine AllReadyH.cons rfl (fun K hK => ?_) AllReadyH.nil
            refine step_alloc (some 16) (by kernel_rfl) (by kernel_rfl) 40 rfl (srcV Src.zero none 0) HZ0.out ?_
            intro w404 hkw404 hsw404 hbw404
            obtain ⟨g16, hg16⟩ : ∃ g, w403.heap.size = g := ⟨_, rfl⟩
            have u16 := Fx.under_new hw403 rfl
            rw [hg16] at u16
            rw [hg16] at hkw404
            rw [hg16]
            have ex405 : Fx [.blk g16 40 (srcV Src.zero none 0)] w404 := ⟨hkw404.out, trivial⟩
            refine hK.out _ _ (hw403.below hbw404) (fun hw404 => ?_)
            clear hK K
            try simp only [Act.put, List.setIfInBounds_toArray, List.set_cons_zero, List.set_cons_succ]
            refine held_v 11 (some 15) rfl (by kernel_rfl) (by kernel_rfl) (by kernel_rfl) (by kernel_rfl) (fun c a v w h => HQ2.out c a _ v w h) (by kernel_rfl) (.int .i64 0) (fun W h => by kernel_rfl) hw404 ?_
            try simp only [Act.put, List.setIfInBounds_toArray, List.set_cons_zero, List.set_cons_succ]
            refine wpAnyH_ready (rs := [12]) (by kernel_rfl) (by decide) ?_
            refine AllReadyH.cons rfl (fun K hK => ?_) AllReadyH.nil
            refine step_store none (by kernel_rfl) (by kernel_rfl) 40 (.tmp 16) (.tmp 80) rfl g16 (by kernel_rfl) 40 (srcV Src.zero none 0) (srcV X A3 c3) ex405.1 (by kernel_rfl) (srcV_same _ X HZL.out HLX.out _ _ _ _) (sizedS X HLX.out _ _) (srcV_ones _ _ _) ?_
            intro w406 hkw406 hsw406 hbw406 how406
            have ex407 : Fx [.blk g16 40 (srcV X A3 c3)] w406 := ⟨hkw406.out, trivial⟩
            refine hK.out _ _ (hw404.store ex405.1 (Fx.off_under u16 _) hsw406.out hbw406 how406) (fun hw406 => ?_)
            clear hK K
            try simp only [Act.put, List.setIfInBounds_toArray, List.set_cons_zero, List.set_cons_succ]
            refine held_v 13 (some 17) rfl (by kernel_rfl) (by kernel_rfl) (by kernel_rfl) (by kernel_rfl) (fun c a v w h => HQ2.out c a _ v w h) (by kernel_rfl) (.int .i64 9) (fun W h => by kernel_rfl) hw406 ?_
            try simp only [Act.put, List.setIfInBounds_toArray, List.set_cons_zero, List.set_cons_succ]
            refine wpAnyH_done (by kernel_rfl) ?_ _
            refine HQ1.out _ _ ?_
            clear HQ1 HQ2
            have cx := HCX.out _ _ _ _ ex407.1
            have GX := Lib.hid hw406
            clear hw406 ex407 hr3 hl3 hm3 hsp3
            go_wp2
            go_roundw
            case rel => exact ⟨x + 1, by omega, by rw [HNM.out]; go_num, by go_num, by rw [HNX.out]; exact GX.out⟩
            case measure => simp [intOf]; omega
          · refine step_alloc (some 16) (by kernel_rfl) (by kernel_rfl) 40 rfl (srcV Src.zero none 0) HZ0.out ?_
            intro w408 hkw408 hsw408 hbw408
            obtain ⟨g16, hg16⟩ : ∃ g, w401.heap.size = g := ⟨_, rfl⟩
            have u16 := Fx.under_new hw401 rfl
            rw [hg16] at u16
            rw [hg16] at hkw408
            rw [hg16]
            have ex409 := ex402.below hbw408
            have ex410 : Fx [.blk g16 40 (srcV Src.zero none 0)] w408 := ⟨hkw408.out, trivial⟩
            refine hK.out _ _ (hw401.below hbw408) (fun hw408 => ?_)
            clear hK K
            try simp only [Act.put, List.setIfInBounds_toArray, List.set_cons_zero, List.set_cons_succ]
            refine wpAnyH_ready (rs := [5]) (by kernel_rfl) (by decide) ?_
            refine AllReadyH.cons rfl (fun K hK => ?_) AllReadyH.nil
            refine step_call (some 78) (by kernel_rfl) (by kernel_rfl) _ _ (by kernel_rfl) _ (HQ.out _ _ lc11.out mc11.out A2 c2 hl2 hm2 _ (Fx.r2 hw408) (Fx.r0 ex409) (HKS.out.below (Fx.e5 hw408))) ?_
            rintro e w411 ⟨A3, c3, rfl, hr3, hl3, hm3, hsp3, hbw411⟩
            have ex412 := ex410.below hbw411
            refine ⟨_, rfl, ?_⟩
            refine hK.out _ _ (hw408.below hbw411) (fun hw411 => ?_)
            clear hK K
            try simp only [Act.put, List.setIfInBounds_toArray, List.set_cons_zero, List.set_cons_succ]
            refine held_v 6 (some 72) rfl (by kernel_rfl) (by kernel_rfl) (by kernel_rfl) (by kernel_rfl) (fun c a v w h => HQ2.out c a _ v w h) (by kernel_rfl) (.tuple #[.int .i64 0, .agg (srcV X A3 c3), .int .i64 9]) (fun W h => by kernel_rfl) hw411 ?_
            try simp only [Act.put, List.setIfInBounds_toArray, List.set_cons_zero, List.set_cons_succ]
            refine held_v 7 (some 79) rfl (by kernel_rfl) (by kernel_rfl) (by kernel_rfl) (by kernel_rfl) (fun c a v w h => HQ2.out c a _ v w h) (by kernel_rfl) (.int .i64 0) (fun W h => by kernel_rfl) hw411 ?_
            try simp only [Act.put, List.setIfInBounds_toArray, List.set_cons_zero, List.set_cons_succ]
            refine held_v 8 (some 80) rfl (by kernel_rfl) (by kernel_rfl) (by kernel_rfl) (by kernel_rfl) (fun c a v w h => HQ2.out c a _ v w h) (by kernel_rfl) (.agg (srcV X A3 c3)) (fun W h => by kernel_rfl) hw411 ?_
            try simp only [Act.put, List.setIfInBounds_toArray, List.set_cons_zero, List.set_cons_succ]
            refine held_v 9 (some 81) rfl (by kernel_rfl) (by kernel_rfl) (by kernel_rfl) (by kernel_rfl) (fun c a v w h => HQ2.out c a _ v w h) (by kernel_rfl) (.int .i64 9) (fun W h => by kernel_rfl) hw411 ?_
            try simp only [Act.put, List.setIfInBounds_toArray, List.set_cons_zero, List.set_cons_succ]
            refine held_v 11 (some 15) rfl (by kernel_rfl) (by kernel_rfl) (by kernel_rfl) (by kernel_rfl) (fun c a v w h => HQ2.out c a _ v w h) (by kernel_rfl) (.int .i64 0) (fun W h => by kernel_rfl) hw411 ?_
            try simp only [Act.put, List.setIfInBounds_toArray, List.set_cons_zero, List.set_cons_succ]
            refine wpAnyH_ready (rs := [12]) (by kernel_rfl) (by decide) ?_
            refine AllReadyH.cons rfl (fun K hK => ?_) AllReadyH.nil
            refine step_store none (by kernel_rfl) (by kernel_rfl) 40 (.tmp 16) (.tmp 80) rfl g16 (by kernel_rfl) 40 (srcV Src.zero none 0) (srcV X A3 c3) ex412.1 (by kernel_rfl) (srcV_same _ X HZL.out HLX.out _ _ _ _) (sizedS X HLX.out _ _) (srcV_ones _ _ _) ?_
            intro w413 hkw413 hsw413 hbw413 how413
            have ex414 : Fx [.blk g16 40 (srcV X A3 c3)] w413 := ⟨hkw413.out, trivial⟩
            refine hK.out _ _ (hw411.store ex412.1 (Fx.off_under u16 _) hsw413.out hbw413 how413) (fun hw413 => ?_)
            clear hK K
            try simp only [Act.put, List.setIfInBounds_toArray, List.set_cons_zero, List.set_cons_succ]
            refine held_v 13 (some 17) rfl (by kernel_rfl) (by kernel_rfl) (by kernel_rfl) (by kernel_rfl) (fun c a v w h => HQ2.out c a _ v w h) (by kernel_rfl) (.int .i64 9) (fun W h => by kernel_rfl) hw413 ?_
            try simp only [Act.put, List.setIfInBounds_toArray, List.set_cons_zero, List.set_cons_succ]
            refine wpAnyH_done (by kernel_rfl) ?_ _
            refine HQ1.out _ _ ?_
            clear HQ1 HQ2
            have cx := HCX.out _ _ _ _ ex414.1
            have GX := Lib.hid hw413
            clear hw413 ex414 hr3 hl3 hm3 hsp3
            go_wp2
            go_roundw
            case rel => exact ⟨x + 1, by omega, by rw [HNM.out]; go_num, by go_num, by rw [HNX.out]; exact GX.out⟩
            case measure => simp [intOf]; omega
        · refine step_alloc (some 16) (by kernel_rfl) (by kernel_rfl) 40 rfl (srcV Src.zero none 0) HZ0.out ?_
          intro w415 hkw415 hsw415 hbw415
          obtain ⟨g16, hg16⟩ : ∃ g, wr.drew.heap.size = g := ⟨_, rfl⟩
          have u16 := Fx.under_new hH rfl
          rw [hg16] at u16
          rw [hg16] at hkw415
          rw [hg16]
          have ex416 : Fx [.blk g16 40 (srcV Src.zero none 0)] w415 := ⟨hkw415.out, trivial⟩
          refine hK.out _ _ (hH.below hbw415) (fun hw415 => ?_)
          clear hK K
          try simp only [Act.put, List.setIfInBounds_toArray, List.set_cons_zero, List.set_cons_succ]
          refine wpAnyH_ready (rs := [3]) (by kernel_rfl) (by decide) ?_
          refine AllReadyH.cons rfl (fun K hK => ?_) AllReadyH.nil
          refine step_call (some 76) (by kernel_rfl) (by kernel_rfl) _ _ (by kernel_rfl) _ (HSC.out _) ?_
          rintro e w417 ⟨A2, c2, rfl, hr2, hl2, hm2, hbw417⟩
          have ex418 := ex416.below hbw417
          have ex419 : Fx [.rdb .u8 w417.heap.size A2 LS Z] w417 := ⟨⟨hr2, Nat.le_refl _⟩, trivial⟩
          refine ⟨_, rfl, ?_⟩
          refine hK.out _ _ (hw415.below hbw417) (fun hw417 => ?_)
          clear hK K
          try simp only [Act.put, List.setIfInBounds_toArray, List.set_cons_zero, List.set_cons_succ]
          refine wpAnyH_ready (rs := [5]) (by kernel_rfl) (by decide) ?_
          refine AllReadyH.cons rfl (fun K hK => ?_) AllReadyH.nil
          refine step_call (some 78) (by kernel_rfl) (by kernel_rfl) _ _ (by kernel_rfl) _ (HQ.out _ _ lc11.out mc11.out A2 c2 hl2 hm2 _ (Fx.r2 hw417) (Fx.r0 ex419) (HKS.out.below (Fx.e5 hw417))) ?_
          rintro e w420 ⟨A3, c3, rfl, hr3, hl3, hm3, hsp3, hbw420⟩
          have ex421 := ex418.below hbw420
          refine ⟨_, rfl, ?_⟩
          refine hK.out _ _ (hw417.below hbw420) (fun hw420 => ?_)
          clear hK K
          try simp only [Act.put, List.setIfInBounds_toArray, List.set_cons_zero, List.set_cons_succ]
          refine held_v 6 (some 72) rfl (by kernel_rfl) (by kernel_rfl) (by kernel_rfl) (by kernel_rfl) (fun c a v w h => HQ2.out c a _ v w h) (by kernel_rfl) (.tuple #[.int .i64 0, .agg (srcV X A3 c3), .int .i64 9]) (fun W h => by kernel_rfl) hw420 ?_
          try simp only [Act.put, List.setIfInBounds_toArray, List.set_cons_zero, List.set_cons_succ]
          refine held_v 7 (some 79) rfl (by kernel_rfl) (by kernel_rfl) (by kernel_rfl) (by kernel_rfl) (fun c a v w h => HQ2.out c a _ v w h) (by kernel_rfl) (.int .i64 0) (fun W h => by kernel_rfl) hw420 ?_
          try simp only [Act.put, List.setIfInBounds_toArray, List.set_cons_zero, List.set_cons_succ]
          refine held_v 8 (some 80) rfl (by kernel_rfl) (by kernel_rfl) (by kernel_rfl) (by kernel_rfl) (fun c a v w h => HQ2.out c a _ v w h) (by kernel_rfl) (.agg (srcV X A3 c3)) (fun W h => by kernel_rfl) hw420 ?_
          try simp only [Act.put, List.setIfInBounds_toArray, List.set_cons_zero, List.set_cons_succ]
          refine held_v 9 (some 81) rfl (by kernel_rfl) (by kernel_rfl) (by kernel_rfl) (by kernel_rfl) (fun c a v w h => HQ2.out c a _ v w h) (by kernel_rfl) (.int .i64 9) (fun W h => by kernel_rfl) hw420 ?_
          try simp only [Act.put, List.setIfInBounds_toArray, List.set_cons_zero, List.set_cons_succ]
          refine held_v 11 (some 15) rfl (by kernel_rfl) (by kernel_rfl) (by kernel_rfl) (by kernel_rfl) (fun c a v w h => HQ2.out c a _ v w h) (by kernel_rfl) (.int .i64 0) (fun W h => by kernel_rfl) hw420 ?_
          try simp only [Act.put, List.setIfInBounds_toArray, List.set_cons_zero, List.set_cons_succ]
          refine wpAnyH_ready (rs := [12]) (by kernel_rfl) (by decide) ?_
          refine AllReadyH.cons rfl (fun K hK => ?_) AllReadyH.nil
          refine step_store none (by kernel_rfl) (by kernel_rfl) 40 (.tmp 16) (.tmp 80) rfl g16 (by kernel_rfl) 40 (srcV Src.zero none 0) (srcV X A3 c3) ex421.1 (by kernel_rfl) (srcV_same _ X HZL.out HLX.out _ _ _ _) (sizedS X HLX.out _ _) (srcV_ones _ _ _) ?_
          intro w422 hkw422 hsw422 hbw422 how422
          have ex423 : Fx [.blk g16 40 (srcV X A3 c3)] w422 := ⟨hkw422.out, trivial⟩
          refine hK.out _ _ (hw420.store ex421.1 (Fx.off_under u16 _) hsw422.out hbw422 how422) (fun hw422 => ?_)
          clear hK K
          try simp only [Act.put, List.setIfInBounds_toArray, List.set_cons_zero, List.set_cons_succ]
          refine held_v 13 (some 17) rfl (by kernel_rfl) (by kernel_rfl) (by kernel_rfl) (by kernel_rfl) (fun c a v w h => HQ2.out c a _ v w h) (by kernel_rfl) (.int .i64 9) (fun W h => by kernel_rfl) hw422 ?_
          try simp only [Act.put, List.setIfInBounds_toArray, List.set_cons_zero, List.set_cons_succ]
          refine wpAnyH_done (by kernel_rfl) ?_ _
          refine HQ1.out _ _ ?_
          clear HQ1 HQ2
          have cx := HCX.out _ _ _ _ ex423.1
          have GX := Lib.hid hw422
          clear hw422 ex423 hr3 hl3 hm3 hsp3
          go_wp2
          go_roundw
          case rel => exact ⟨x + 1, by omega, by rw [HNM.out]; go_num, by go_num, by rw [HNX.out]; exact GX.out⟩
          case measure => simp [intOf]; omega
      | some v =>
        obtain ⟨hev, he0, hat⟩ := draws_someW hD hh
        have hvb := HV.out x v hh
        obtain ⟨o, ho1, ho2, ho3, ho4, ho5⟩ := own_at (l := S) (t := (v : Int)) HS0.out (by omega) (by rw [HBS.out]; omega)
        have e1 := hgo he0
        rw [hev, ho2] at e1
        rw [e1] at okX hL9
        dsimp only at okX hL9
        obtain ⟨X, hX⟩ : ∃ X, (drawR (numT x M) (b : Int) (t : Int)).2.1 = X := ⟨_, rfl⟩
        rw [hX] at okX hL9 hat
        have hcx : ∀ (W : World) (g : Nat) A c (h : Blk W g 40 (srcV X A c)), W.cell? ⟨g, 36, none⟩ = some (.int .u64 X.at_) := fun W g A c h => (h.cell 36).trans (srcV_at X okX.sl A c)
        have hXa := okX.a0
        have hgm := ledL_hit S Q b t x v o hh ho1 ho2
        have hga := ledL_at Q b t x ho1
        have hgl := ledL_len S Q b t x
        have HNM := Lib.hid (noneL_hit Q b t x v hh)
        have hcl := ledC_le S Q b t o x
        obtain ⟨C, hC⟩ : ∃ C, ledC S Q b t o x = C := ⟨_, rfl⟩
        rw [hC] at hga hcl
        rw [hga] at hgm
        obtain ⟨cc, hcc⟩ : ∃ c : Int, (C : Int) = c := ⟨_, rfl⟩
        rw [hcc] at hgm hga
        have cc0 : 0 ≤ cc := by omega
        have cc1 : cc ≤ 2048 := by omega
        have HGV : Hid (∀ W, Blk W go 24 (intsA .u64 (ledL S Q b t x)) → W.cell? ⟨go, o, none⟩ = some (.int .u64 cc)) := Lib.hid (fun W h => by rw [h.cell, intsA_at _ _ _ (by rw [hgl]; exact ho1), hga])
        have HSI : Hid (o < (intsA .u64 (ledL S Q b t x)).size) := Lib.hid (by rw [intsA_size, hgl]; exact ho1)
        have HNX : Hid ((intsA .u64 (ledL S Q b t x)).setIfInBounds o (.int .u64 (cc + 1)) = intsA .u64 (ledL S Q b t (x + 1))) := Lib.hid (by rw [intsA_put, hgm])
        obtain ⟨Y, hY⟩ : ∃ Y, noneL Q b t x = Y := ⟨_, rfl⟩
        rw [hY] at HNM hnl ⊢
        obtain ⟨G, hG⟩ : ∃ G, ledL S Q b t x = G := ⟨_, rfl⟩
        rw [hG] at G9 HNX HGV HSI
        obtain ⟨S0, hS0⟩ : ∃ S, numT x M = S := ⟨_, rfl⟩
        rw [hS0] at hsc hL9
        obtain ⟨Z, hZ⟩ : ∃ Z, S0.tape = Z := ⟨_, rfl⟩
        rw [hZ] at hsc hL9
        obtain ⟨LS, hLS⟩ : ∃ L, Z.length = L := ⟨_, rfl⟩
        rw [hLS] at hsc hL9
        obtain ⟨xa, hxa⟩ : ∃ y, X.at_ = y := ⟨_, rfl⟩
        rw [hxa] at hcx hat hXa
        have HSC := Lib.hid hsc
        have HQ := Lib.hid hL9
        have HCX := Lib.hid hcx
        have HLX := Lib.hid okX.sl
        have hY1 : (Y : Int) ≤ 2048 := by omega
        have hon : o < n := by rw [HLS.out] at ho1; exact ho1
        have hon2 : (o : Int) < (n : Int) := by omega
        have ho0 : (0 : Int) ≤ (o : Int) := by omega
        have nxa : ¬ ((M : Int) < xa) := by omega
        clear hsc hL9 hcx hD okS okX hX hgm hG hY hZ hS0 hLS hh hev he0 hat e1 hgo hgn hnl hlt hvb ho1 ho2 ho3 ho4 ho5 hga hgl hcl hC hcc hxa
        go_wp2_with (go_at_call 14; (with_reducible refine (HP2.out _).mono ?_); rintro e _ ⟨rfl, rfl⟩)
        refine wp_region_held_drew (S := (Fx [.blk go 24 (intsA .u64 (G)), .blk w9.heap.size 32 #[.slice A10 n c11], .rdb .u64 w9.heap.size A10 n TF, .rdb .u64 w3.heap.size A4 n S, .rdb .u64 w.heap.size a0 n zs, .bel w])) (by kernel_rfl) (Fx.drew G9.out) (fun hH => ?_)
        refine wpAnyH_letter #[false, false, false, false, false, false, false, false, false, false, false, false, false, false] (by kernel_rfl) (fun _ _ d _ _ h => by cases d <;> exact h) (fun QL HQ1 HQ2 => ?_)
        refine held_row 0 (some 73) rfl (by kernel_rfl) (by kernel_rfl) (by kernel_rfl) (by kernel_rfl) (fun c a v w h => HQ2.out c a _ v w h) (by kernel_rfl) 32 (.tmp 10) rfl w9.heap.size (by kernel_rfl) 32 #[.slice A10 n c11] (fun _ h => Fx.b1 h) _ Tryz.underlying32 rfl (sizedF _) hH ?_
        try simp only [Act.put, List.setIfInBounds_toArray, List.set_cons_zero, List.set_cons_succ]
        refine held_v 1 (some 74) rfl (by kernel_rfl) (by kernel_rfl) (by kernel_rfl) (by kernel_rfl) (fun c a v w h => HQ2.out c a _ v w h) (by kernel_rfl) (.int .u64 (x : Int)) (fun W h => by kernel_rfl) hH ?_
        try simp only [Act.put, List.setIfInBounds_toArray, List.set_cons_zero, List.set_cons_succ]
        refine held_v 2 (some 75) rfl (by kernel_rfl) (by kernel_rfl) (by kernel_rfl) (by kernel_rfl) (fun c a v w h => HQ2.out c a _ v w h) (by kernel_rfl) (.int .i64 (M : Int)) (fun W h => by kernel_rfl) hH ?_
        try simp only [Act.put, List.setIfInBounds_toArray, List.set_cons_zero, List.set_cons_succ]
        refine held_v 4 (some 77) rfl (by kernel_rfl) (by kernel_rfl) (by kernel_rfl) (by kernel_rfl) (fun c a v w h => HQ2.out c a _ v w h) (by kernel_rfl) (.int .i64 (t : Int)) (fun W h => by kernel_rfl) hH ?_
        try simp only [Act.put, List.setIfInBounds_toArray, List.set_cons_zero, List.set_cons_succ]
        refine wpAnyH_ready (rs := [3, 10]) (by kernel_rfl) (by decide) ?_
        refine AllReadyH.cons rfl (fun K hK => ?_) (AllReadyH.cons rfl (fun K hK => ?_) AllReadyH.nil)
        · refine step_call (some 76) (by kernel_rfl) (by kernel_rfl) _ _ (by kernel_rfl) _ (HSC.out _) ?_
          rintro e w401 ⟨A2, c2, rfl, hr2, hl2, hm2, hbw401⟩
          have ex402 : Fx [.rdb .u8 w401.heap.size A2 LS Z] w401 := ⟨⟨hr2, Nat.le_refl _⟩, trivial⟩
          refine ⟨_, rfl, ?_⟩
          refine hK.out _ _ (hH.below hbw401) (fun hw401 => ?_)
          clear hK K
          try simp only [Act.put, List.setIfInBounds_toArray, List.set_cons_zero, List.set_cons_succ]
          refine wpAnyH_ready (rs := [5, 10]) (by kernel_rfl) (by decide) ?_
          refine AllReadyH.cons rfl (fun K hK => ?_) (AllReadyH.cons rfl (fun K hK => ?_) AllReadyH.nil)
          · refine step_call (some 78) (by kernel_rfl) (by kernel_rfl) _ _ (by kernel_rfl) _ (HQ.out _ _ lc11.out mc11.out A2 c2 hl2 hm2 _ (Fx.r2 hw401) (Fx.r0 ex402) (HKS.out.below (Fx.e5 hw401))) ?_
            rintro e w403 ⟨A3, c3, rfl, hr3, hl3, hm3, hsp3, hbw403⟩
            refine ⟨_, rfl, ?_⟩
            refine hK.out _ _ (hw401.below hbw403) (fun hw403 => ?_)
            clear hK K
            try simp only [Act.put, List.setIfInBounds_toArray, List.set_cons_zero, List.set_cons_succ]
            refine held_v 6 (some 72) rfl (by kernel_rfl) (by kernel_rfl) (by kernel_rfl) (by kernel_rfl) (fun c a v w h => HQ2.out c a _ v w h) (by kernel_rfl) (.tuple #[.int .i64 (o : Int), .agg (srcV X A3 c3), .int .i64 0]) (fun W h => by kernel_rfl) hw403 ?_
            try simp only [Act.put, List.setIfInBounds_toArray, List.set_cons_zero, List.set_cons_succ]
            refine held_v 7 (some 79) rfl (by kernel_rfl) (by kernel_rfl) (by kernel_rfl) (by kernel_rfl) (fun c a v w h => HQ2.out c a _ v w h) (by kernel_rfl) (.int .i64 (o : Int)) (fun W h => by kernel_rfl) hw403 ?_
            try simp only [Act.put, List.setIfInBounds_toArray, List.set_cons_zero, List.set_cons_succ]
            refine held_v 8 (some 80) rfl (by kernel_rfl) (by kernel_rfl) (by kernel_rfl) (by kernel_rfl) (fun c a v w h => HQ2.out c a _ v w h) (by kernel_rfl) (.agg (srcV X A3 c3)) (fun W h => by kernel_rfl) hw403 ?_
            try simp only [Act.put, List.setIfInBounds_toArray, List.set_cons_zero, List.set_cons_succ]
            refine held_v 9 (some 81) rfl (by kernel_rfl) (by kernel_rfl) (by kernel_rfl) (by kernel_rfl) (fun c a v w h => HQ2.out c a _ v w h) (by kernel_rfl) (.int .i64 0) (fun W h => by kernel_rfl) hw403 ?_
            try simp only [Act.put, List.setIfInBounds_toArray, List.set_cons_zero, List.set_cons_succ]
            refine wpAnyH_ready (rs := [10]) (by kernel_rfl) (by decide) ?_
            refine AllReadyH.cons rfl (fun K hK => ?_) AllReadyH.nil
            refine step_alloc (some 16) (by kernel_rfl) (by kernel_rfl) 40 rfl (srcV Src.zero none 0) HZ0.out ?_
            intro w404 hkw404 hsw404 hbw404
            obtain ⟨g16, hg16⟩ : ∃ g, w403.heap.size = g := ⟨_, rfl⟩
            have u16 := Fx.under_new hw403 rfl
            rw [hg16] at u16
            rw [hg16] at hkw404
            rw [hg16]
            have ex405 : Fx [.blk g16 40 (srcV Src.zero none 0)] w404 := ⟨hkw404.out, trivial⟩
            refine hK.out _ _ (hw403.below hbw404) (fun hw404 => ?_)
            clear hK K
            try simp only [Act.put, List.setIfInBounds_toArray, List.set_cons_zero, List.set_cons_succ]
            refine held_v 11 (some 15) rfl (by kernel_rfl) (by kernel_rfl) (by kernel_rfl) (by kernel_rfl) (fun c a v w h => HQ2.out c a _ v w h) (by kernel_rfl) (.int .i64 (o : Int)) (fun W h => by kernel_rfl) hw404 ?_
            try simp only [Act.put, List.setIfInBounds_toArray, List.set_cons_zero, List.set_cons_succ]
            refine wpAnyH_ready (rs := [12]) (by kernel_rfl) (by decide) ?_
            refine AllReadyH.cons rfl (fun K hK => ?_) AllReadyH.nil
            refine step_store none (by kernel_rfl) (by kernel_rfl) 40 (.tmp 16) (.tmp 80) rfl g16 (by kernel_rfl) 40 (srcV Src.zero none 0) (srcV X A3 c3) ex405.1 (by kernel_rfl) (srcV_same _ X HZL.out HLX.out _ _ _ _) (sizedS X HLX.out _ _) (srcV_ones _ _ _) ?_
            intro w406 hkw406 hsw406 hbw406 how406
            have ex407 : Fx [.blk g16 40 (srcV X A3 c3)] w406 := ⟨hkw406.out, trivial⟩
            refine hK.out _ _ (hw404.store ex405.1 (Fx.off_under u16 _) hsw406.out hbw406 how406) (fun hw406 => ?_)
            clear hK K
            try simp only [Act.put, List.setIfInBounds_toArray, List.set_cons_zero, List.set_cons_succ]
            refine held_v 13 (some 17) rfl (by kernel_rfl) (by kernel_rfl) (by kernel_rfl) (by kernel_rfl) (fun c a v w h => HQ2.out c a _ v w h) (by kernel_rfl) (.int .i64 0) (fun W h => by kernel_rfl) hw406 ?_
            try simp only [Act.put, List.setIfInBounds_toArray, List.set_cons_zero, List.set_cons_succ]
            refine wpAnyH_done (by kernel_rfl) ?_ _
            refine HQ1.out _ _ ?_
            clear HQ1 HQ2
            have cx := HCX.out _ _ _ _ ex407.1
            have GX := Lib.hid hw406
            have cg := HGV.out _ (Fx.b0 GX.out)
            clear hw406 ex407 hr3 hl3 hm3 hsp3
            go_wp2_with (with_reducible refine at_any ?_; refine at_store 106 rfl ?_; refine wpList_store_cell_any rfl 24 (.tmp 106) (.tmp 105) rfl go o rfl 24 (intsA .u64 G) (Fx.b0 GX.out) (.int .u64 (cc + 1)) rfl HSI.out size_u64l rfl rfl ?_; intro w290 hk290 hs290 hb290 ho290; rw [HNX.out] at hk290; have G290 := Lib.hid (Fx.put1B GX.out HU.out hk290.out hs290.out hb290 ho290); clear GX; clear hk290 hs290 hb290 ho290)
            go_roundw
            case rel => exact ⟨x + 1, by omega, by rw [HNM.out], by go_num, G290.out⟩
            case measure => simp [intOf]; omega
          · refine step_alloc (some 16) (by kernel_rfl) (by kernel_rfl) 40 rfl (srcV Src.zero none 0) HZ0.out ?_
            intro w408 hkw408 hsw408 hbw408
            obtain ⟨g16, hg16⟩ : ∃ g, w401.heap.size = g := ⟨_, rfl⟩
            have u16 := Fx.under_new hw401 rfl
            rw [hg16] at u16
            rw [hg16] at hkw408
            rw [hg16]
            have ex409 := ex402.below hbw408
            have ex410 : Fx [.blk g16 40 (srcV Src.zero none 0)] w408 := ⟨hkw408.out, trivial⟩
            refine hK.out _ _ (hw401.below hbw408) (fun hw408 => ?_)
            clear hK K
            try simp only [Act.put, List.setIfInBounds_toArray, List.set_cons_zero, List.set_cons_succ]
            refine wpAnyH_ready (rs := [5]) (by kernel_rfl) (by decide) ?_
            refine AllReadyH.cons rfl (fun K hK => ?_) AllReadyH.nil
            refine step_call (some 78) (by kernel_rfl) (by kernel_rfl) _ _ (by kernel_rfl) _ (HQ.out _ _ lc11.out mc11.out A2 c2 hl2 hm2 _ (Fx.r2 hw408) (Fx.r0 ex409) (HKS.out.below (Fx.e5 hw408))) ?_
            rintro e w411 ⟨A3, c3, rfl, hr3, hl3, hm3, hsp3, hbw411⟩
            have ex412 := ex410.below hbw411
            refine ⟨_, rfl, ?_⟩
            refine hK.out _ _ (hw408.below hbw411) (fun hw411 => ?_)
            clear hK K
            try simp only [Act.put, List.setIfInBounds_toArray, List.set_cons_zero, List.set_cons_succ]
            refine held_v 6 (some 72) rfl (by kernel_rfl) (by kernel_rfl) (by kernel_rfl) (by kernel_rfl) (fun c a v w h => HQ2.out c a _ v w h) (by kernel_rfl) (.tuple #[.int .i64 (o : Int), .agg (srcV X A3 c3), .int .i64 0]) (fun W h => by kernel_rfl) hw411 ?_
            try simp only [Act.put, List.setIfInBounds_toArray, List.set_cons_zero, List.set_cons_succ]
            refine held_v 7 (some 79) rfl (by kernel_rfl) (by kernel_rfl) (by kernel_rfl) (by kernel_rfl) (fun c a v w h => HQ2.out c a _ v w h) (by kernel_rfl) (.int .i64 (o : Int)) (fun W h => by kernel_rfl) hw411 ?_
            try simp only [Act.put, List.setIfInBounds_toArray, List.set_cons_zero, List.set_cons_succ]
            refine held_v 8 (some 80) rfl (by kernel_rfl) (by kernel_rfl) (by kernel_rfl) (by kernel_rfl) (fun c a v w h => HQ2.out c a _ v w h) (by kernel_rfl) (.agg (srcV X A3 c3)) (fun W h => by kernel_rfl) hw411 ?_
            try simp only [Act.put, List.setIfInBounds_toArray, List.set_cons_zero, List.set_cons_succ]
            refine held_v 9 (some 81) rfl (by kernel_rfl) (by kernel_rfl) (by kernel_rfl) (by kernel_rfl) (fun c a v w h => HQ2.out c a _ v w h) (by kernel_rfl) (.int .i64 0) (fun W h => by kernel_rfl) hw411 ?_
            try simp only [Act.put, List.setIfInBounds_toArray, List.set_cons_zero, List.set_cons_succ]
            refine held_v 11 (some 15) rfl (by kernel_rfl) (by kernel_rfl) (by kernel_rfl) (by kernel_rfl) (fun c a v w h => HQ2.out c a _ v w h) (by kernel_rfl) (.int .i64 (o : Int)) (fun W h => by kernel_rfl) hw411 ?_
            try simp only [Act.put, List.setIfInBounds_toArray, List.set_cons_zero, List.set_cons_succ]
            refine wpAnyH_ready (rs := [12]) (by kernel_rfl) (by decide) ?_
            refine AllReadyH.cons rfl (fun K hK => ?_) AllReadyH.nil
            refine step_store none (by kernel_rfl) (by kernel_rfl) 40 (.tmp 16) (.tmp 80) rfl g16 (by kernel_rfl) 40 (srcV Src.zero none 0) (srcV X A3 c3) ex412.1 (by kernel_rfl) (srcV_same _ X HZL.out HLX.out _ _ _ _) (sizedS X HLX.out _ _) (srcV_ones _ _ _) ?_
            intro w413 hkw413 hsw413 hbw413 how413
            have ex414 : Fx [.blk g16 40 (srcV X A3 c3)] w413 := ⟨hkw413.out, trivial⟩
            refine hK.out _ _ (hw411.store ex412.1 (Fx.off_under u16 _) hsw413.out hbw413 how413) (fun hw413 => ?_)
            clear hK K
            try simp only [Act.put, List.setIfInBounds_toArray, List.set_cons_zero, List.set_cons_succ]
            refine held_v 13 (some 17) rfl (by kernel_rfl) (by kernel_rfl) (by kernel_rfl) (by kernel_rfl) (fun c a v w h => HQ2.out c a _ v w h) (by kernel_rfl) (.int .i64 0) (fun W h => by kernel_rfl) hw413 ?_
            try simp only [Act.put, List.setIfInBounds_toArray, List.set_cons_zero, List.set_cons_succ]
            refine wpAnyH_done (by kernel_rfl) ?_ _
            refine HQ1.out _ _ ?_
            clear HQ1 HQ2
            have cx := HCX.out _ _ _ _ ex414.1
            have GX := Lib.hid hw413
            have cg := HGV.out _ (Fx.b0 GX.out)
            clear hw413 ex414 hr3 hl3 hm3 hsp3
            go_wp2_with (with_reducible refine at_any ?_; refine at_store 106 rfl ?_; refine wpList_store_cell_any rfl 24 (.tmp 106) (.tmp 105) rfl go o rfl 24 (intsA .u64 G) (Fx.b0 GX.out) (.int .u64 (cc + 1)) rfl HSI.out size_u64l rfl rfl ?_; intro w290 hk290 hs290 hb290 ho290; rw [HNX.out] at hk290; have G290 := Lib.hid (Fx.put1B GX.out HU.out hk290.out hs290.out hb290 ho290); clear GX; clear hk290 hs290 hb290 ho290)
            go_roundw
            case rel => exact ⟨x + 1, by omega, by rw [HNM.out], by go_num, G290.out⟩
            case measure => simp [intOf]; omega
        · refine step_alloc (some 16) (by kernel_rfl) (by kernel_rfl) 40 rfl (srcV Src.zero none 0) HZ0.out ?_
          intro w415 hkw415 hsw415 hbw415
          obtain ⟨g16, hg16⟩ : ∃ g, wr.drew.heap.size = g := ⟨_, rfl⟩
          have u16 := Fx.under_new hH rfl
          rw [hg16] at u16
          rw [hg16] at hkw415
          rw [hg16]
          have ex416 : Fx [.blk g16 40 (srcV Src.zero none 0)] w415 := ⟨hkw415.out, trivial⟩
          refine hK.out _ _ (hH.below hbw415) (fun hw415 => ?_)
          clear hK K
          try simp only [Act.put, List.setIfInBounds_toArray, List.set_cons_zero, List.set_cons_succ]
          refine wpAnyH_ready (rs := [3]) (by kernel_rfl) (by decide) ?_
          refine AllReadyH.cons rfl (fun K hK => ?_) AllReadyH.nil
          refine step_call (some 76) (by kernel_rfl) (by kernel_rfl) _ _ (by kernel_rfl) _ (HSC.out _) ?_
          rintro e w417 ⟨A2, c2, rfl, hr2, hl2, hm2, hbw417⟩
          have ex418 := ex416.below hbw417
          have ex419 : Fx [.rdb .u8 w417.heap.size A2 LS Z] w417 := ⟨⟨hr2, Nat.le_refl _⟩, trivial⟩
          refine ⟨_, rfl, ?_⟩
          refine hK.out _ _ (hw415.below hbw417) (fun hw417 => ?_)
          clear hK K
          try simp only [Act.put, List.setIfInBounds_toArray, List.set_cons_zero, List.set_cons_succ]
          refine wpAnyH_ready (rs := [5]) (by kernel_rfl) (by decide) ?_
          refine AllReadyH.cons rfl (fun K hK => ?_) AllReadyH.nil
          refine step_call (some 78) (by kernel_rfl) (by kernel_rfl) _ _ (by kernel_rfl) _ (HQ.out _ _ lc11.out mc11.out A2 c2 hl2 hm2 _ (Fx.r2 hw417) (Fx.r0 ex419) (HKS.out.below (Fx.e5 hw417))) ?_
          rintro e w420 ⟨A3, c3, rfl, hr3, hl3, hm3, hsp3, hbw420⟩
          have ex421 := ex418.below hbw420
          refine ⟨_, rfl, ?_⟩
          refine hK.out _ _ (hw417.below hbw420) (fun hw420 => ?_)
          clear hK K
          try simp only [Act.put, List.setIfInBounds_toArray, List.set_cons_zero, List.set_cons_succ]
          refine held_v 6 (some 72) rfl (by kernel_rfl) (by kernel_rfl) (by kernel_rfl) (by kernel_rfl) (fun c a v w h => HQ2.out c a _ v w h) (by kernel_rfl) (.tuple #[.int .i64 (o : Int), .agg (srcV X A3 c3), .int .i64 0]) (fun W h => by kernel_rfl) hw420 ?_
          try simp only [Act.put, List.setIfInBounds_toArray, List.set_cons_zero, List.set_cons_succ]
          refine held_v 7 (some 79) rfl (by kernel_rfl) (by kernel_rfl) (by kernel_rfl) (by kernel_rfl) (fun c a v w h => HQ2.out c a _ v w h) (by kernel_rfl) (.int .i64 (o : Int)) (fun W h => by kernel_rfl) hw420 ?_
          try simp only [Act.put, List.setIfInBounds_toArray, List.set_cons_zero, List.set_cons_succ]
          refine held_v 8 (some 80) rfl (by kernel_rfl) (by kernel_rfl) (by kernel_rfl) (by kernel_rfl) (fun c a v w h => HQ2.out c a _ v w h) (by kernel_rfl) (.agg (srcV X A3 c3)) (fun W h => by kernel_rfl) hw420 ?_
          try simp only [Act.put, List.setIfInBounds_toArray, List.set_cons_zero, List.set_cons_succ]
          refine held_v 9 (some 81) rfl (by kernel_rfl) (by kernel_rfl) (by kernel_rfl) (by kernel_rfl) (fun c a v w h => HQ2.out c a _ v w h) (by kernel_rfl) (.int .i64 0) (fun W h => by kernel_rfl) hw420 ?_
          try simp only [Act.put, List.setIfInBounds_toArray, List.set_cons_zero, List.set_cons_succ]
          refine held_v 11 (some 15) rfl (by kernel_rfl) (by kernel_rfl) (by kernel_rfl) (by kernel_rfl) (fun c a v w h => HQ2.out c a _ v w h) (by kernel_rfl) (.int .i64 (o : Int)) (fun W h => by kernel_rfl) hw420 ?_
          try simp only [Act.put, List.setIfInBounds_toArray, List.set_cons_zero, List.set_cons_succ]
          refine wpAnyH_ready (rs := [12]) (by kernel_rfl) (by decide) ?_
          refine AllReadyH.cons rfl (fun K hK => ?_) AllReadyH.nil
          refine step_store none (by kernel_rfl) (by kernel_rfl) 40 (.tmp 16) (.tmp 80) rfl g16 (by kernel_rfl) 40 (srcV Src.zero none 0) (srcV X A3 c3) ex421.1 (by kernel_rfl) (srcV_same _ X HZL.out HLX.out _ _ _ _) (sizedS X HLX.out _ _) (srcV_ones _ _ _) ?_
          intro w422 hkw422 hsw422 hbw422 how422
          have ex423 : Fx [.blk g16 40 (srcV X A3 c3)] w422 := ⟨hkw422.out, trivial⟩
          refine hK.out _ _ (hw420.store ex421.1 (Fx.off_under u16 _) hsw422.out hbw422 how422) (fun hw422 => ?_)
          clear hK K
          try simp only [Act.put, List.setIfInBounds_toArray, List.set_cons_zero, List.set_cons_succ]
          refine held_v 13 (some 17) rfl (by kernel_rfl) (by kernel_rfl) (by kernel_rfl) (by kernel_rfl) (fun c a v w h => HQ2.out c a _ v w h) (by kernel_rfl) (.int .i64 0) (fun W h => by kernel_rfl) hw422 ?_
          try simp only [Act.put, List.setIfInBounds_toArray, List.set_cons_zero, List.set_cons_succ]
          refine wpAnyH_done (by kernel_rfl) ?_ _
          refine HQ1.out _ _ ?_
          clear HQ1 HQ2
          have cx := HCX.out _ _ _ _ ex423.1
          have GX := Lib.hid hw422
          have cg := HGV.out _ (Fx.b0 GX.out)
          clear hw422 ex423 hr3 hl3 hm3 hsp3
          go_wp2_with (with_reducible refine at_any ?_; refine at_store 106 rfl ?_; refine wpList_store_cell_any rfl 24 (.tmp 106) (.tmp 105) rfl go o rfl 24 (intsA .u64 G) (Fx.b0 GX.out) (.int .u64 (cc + 1)) rfl HSI.out size_u64l rfl rfl ?_; intro w290 hk290 hs290 hb290 ho290; rw [HNX.out] at hk290; have G290 := Lib.hid (Fx.put1B GX.out HU.out hk290.out hs290.out hb290 ho290); clear GX; clear hk290 hs290 hb290 ho290)
          go_roundw
          case rel => exact ⟨x + 1, by omega, by rw [HNM.out], by go_num, G290.out⟩
          case measure => simp [intOf]; omega
    · have hxN : N = x := by omega
      subst hxN
      have hgl := ledL_len S Q b t N
      have HGA := Lib.hid (fun i (hi : i < S.length) => ledL_at Q b t N hi)
      have HCL := Lib.hid (fun i => ledC_le S Q b t i N)
      have hnl := noneL_le Q b t N
      obtain ⟨G, hG⟩ : ∃ G, ledL S Q b t N = G := ⟨_, rfl⟩
      rw [hG] at G9 HGA hgl
      have HLO2 := HLOS
      obtain ⟨Y, hY⟩ : ∃ Y, noneL Q b t N = Y := ⟨_, rfl⟩
      rw [hY] at hnl HLO2 ⊢
      obtain ⟨WL, hWL⟩ : ∃ l, natL Y = l := ⟨_, rfl⟩
      obtain ⟨LW, hLW⟩ : ∃ l, WL.length = l := ⟨_, rfl⟩
      rw [hWL] at HLO2
      have HLO := Lib.hid (fun W => (HLO2.out W).mono fun _ _ h => retNE_len h hLW)
      have hY1 : (Y : Int) ≤ 2048 := by omega
      have hx1 : (N : Int) ≤ 2048 := by omega
      have HGLN : Hid (G.length = n) := Lib.hid (by rw [hgl]; exact HLS.out)
      have HWL := Lib.hid hWL
      have HLW := Lib.hid hLW
      clear hG hY hgl hlt hx HLD HLED HZ0 HZL HDR HV HLOS HLO2 hnl hWL hLW
      go_wp2_with (first
        | (go_at_call 14; (with_reducible refine (HP2.out _).mono ?_); rintro e _ ⟨rfl, rfl⟩)
        | (go_at_call 17; (with_reducible refine (HLO.out _).mono ?_); rintro e w501 ⟨A502, c503, rfl, hlw501, hmw501, hrw501, hbw501⟩; have lc503 := Lib.hid hlw501; have mc503 := Lib.hid hmw501; have G504 := Lib.hid (Fx.addR G9.out hbw501 hrw501); clear G9; clear hrw501 hbw501 hlw501 hmw501))
      go_loopw [20] (fun ii wr => ∃ i : Nat, i ≤ n ∧ ii = .int .i64 (i : Int) ∧ Fx [.rdb .u32 w501.heap.size A502 LW WL, .blk go 24 (intsA .u64 (G)), .blk w9.heap.size 32 #[.slice A10 n c11], .rdb .u64 w9.heap.size A10 n TF, .rdb .u64 w3.heap.size A4 n S, .rdb .u64 w.heap.size a0 n zs, .bel w] wr) (fun ii _ => n - (intOf ii).toNat)
      case atStart => exact ⟨0, by omega, rfl, G504.out⟩
      case round =>
        clear G504
        obtain ⟨i, hi, rfl, hrel⟩ := hrel
        have G8 := Lib.hid hrel
        clear hrel
        by_cases hib : i < n
        · have hat := intsA_at .u64 G i (by have := HGLN.out; omega)
          rw [HGA.out i (by rw [HLS.out]; exact hib)] at hat
          have hcl := HCL.out i
          have hle := HLEA.out i hib
          rw [HLER.out i hib] at hle
          obtain ⟨C, hC⟩ : ∃ C, ledC S Q b t i N = C := ⟨_, rfl⟩
          rw [hC] at hat hcl hle
          have hof := fun W => r10of_c (C : Int) (by omega) (by omega) W
          rw [Int.toNat_natCast] at hof
          obtain ⟨VL, hVL⟩ : ∃ l, natL C = l := ⟨_, rfl⟩
          obtain ⟨LV, hLV⟩ : ∃ l, VL.length = l := ⟨_, rfl⟩
          rw [hVL] at hof hle
          have HOF := Lib.hid (fun W => (hof W).mono fun _ _ h => retN_len h hLV)
          have HLE := Lib.hid (fun A c W h => (hle A c W h).mono fun _ _ h => retNE_len h hLV)
          have hsn := fun A B c d (hL : LV ≤ maxLen) (W : World) (h1 : Rd .u32 W W.heap.size A LV VL) (h2 : Rd .u32 W W.heap.size B LV VL) => r10same_c VL VL A B LV LV c d hL hL W h1 h2
          rw [decide_eq_true rfl] at hsn
          have HSA := Lib.hid hsn
          have HGV : Hid (∀ W, Blk W go 24 (intsA .u64 G) → W.cell? ⟨go, i, none⟩ = some (.int .u64 (C : Int))) := Lib.hid (fun W h => by rw [h.cell, hat])
          have hC1 : (C : Int) ≤ 2048 := by omega
          have hi1 : (i : Int) < (n : Int) := by omega
          have hi0 : (0 : Int) ≤ (i : Int) := by omega
          clear hat hcl hle hof hsn hC hVL hLV
          go_wp2_with (first
            | (go_at_call 18; (with_reducible refine (HLE.out _ _ _ (Fx.r4 G8.out)).mono ?_); rintro e w601 ⟨A602, c603, rfl, hlw601, hmw601, hrw601, hbw601⟩; have lc603 := Lib.hid hlw601; have mc603 := Lib.hid hmw601; have G604 := Lib.hid (Fx.addR G8.out hbw601 hrw601); clear G8; clear hrw601 hbw601 hlw601 hmw601; have cg := HGV.out _ (Fx.b2 G604.out))
            | (go_at_call 20; (with_reducible refine (HOF.out _).mono ?_); rintro e w605 ⟨A606, c607, rfl, hlw605, hmw605, hrw605, hbw605⟩; have lc607 := Lib.hid hlw605; have mc607 := Lib.hid hmw605; have G608 := Lib.hid (Fx.addR G604.out hbw605 hrw605); clear G604; clear hrw605 hbw605 hlw605 hmw605)
            | (go_at_call 19; (with_reducible refine (HSA.out _ _ _ _ (Nat.le_trans lc607.out mc607.out) _ (Fx.r1 G608.out) (Fx.r0 G608.out)).mono ?_); rintro e w609 ⟨rfl, hbw609⟩; have G610 := Lib.hid (Fx.below G608.out hbw609); clear G608; clear hbw609))
          go_roundw
          case rel => exact ⟨i + 1, by omega, by go_num, G610.out.2.2⟩
          case measure => simp [intOf]; omega
        · have hin : n = i := by omega
          have hof := fun W => r10of_c (Y : Int) (by omega) (by omega) W
          rw [Int.toNat_natCast, HWL.out] at hof
          have HOF := Lib.hid (fun W => (hof W).mono fun _ _ h => retN_len h HLW.out)
          have hsn := fun A B c d (hL : LW ≤ maxLen) (W : World) (h1 : Rd .u32 W W.heap.size A LW WL) (h2 : Rd .u32 W W.heap.size B LW WL) => r10same_c WL WL A B LW LW c d hL hL W h1 h2
          rw [decide_eq_true rfl] at hsn
          have HSA := Lib.hid hsn
          clear hof hsn hib hi
          go_wp2_with (first
            | (go_at_call 20; (with_reducible refine (HOF.out _).mono ?_); rintro e w701 ⟨A702, c703, rfl, hlw701, hmw701, hrw701, hbw701⟩; have lc703 := Lib.hid hlw701; have mc703 := Lib.hid hmw701; have G704 := Lib.hid (Fx.addR G8.out hbw701 hrw701); clear G8; clear hrw701 hbw701 hlw701 hmw701)
            | (go_at_call 19; (with_reducible refine (HSA.out _ _ _ _ (Nat.le_trans lc703.out mc703.out) _ (Fx.r1 G704.out) (Fx.r0 G704.out)).mono ?_); rintro e w705 ⟨rfl, hbw705⟩; have G706 := Lib.hid (Fx.below G704.out hbw705); clear G704; clear hbw705))
          go_ret
          exact ⟨rfl, (Fx.e7 G706.out)⟩


set_option maxRecDepth 100000 in
theorem lifted (os : Os) (started : os.Started) (H : Type) (enc : TypeId × Value → H) :
    ReturnsInHanded {} Tryz.checked os 3 .any (fun w args => (Rows.wholeTapesSpec.pre enc Tryz.prog Tryz.f3 [] false w args ∧ laidMetH Tryz.prog laidK w) ∧ sizedMet enc Tryz.prog Tryz.f3 (OpenSpec.ofChange Rows.wholeTapesSpec) false w args) (Rows.wholeTapesSpec.post enc Tryz.prog Tryz.f3 false true false false) := by
  refine returnsInHanded_of_change_and (C := Tryz.checked) (X := fun w _ => laidMetH Tryz.prog laidK w) (fun _ _ _ hh h => h.of_heap hh) own started (by kernel_rfl) Tryz.func3
    (ChangeSpec.witness_shaped (enc := enc) (C := Tryz.checked) (os := os) (X := fun w _ => laidMetH Tryz.prog laidK w) false (World.doorLaid Tryz.prog 400 os) #[.slice none 0 0, .int .u8 0] 8 rfl (World.shaped_of_RefB (by kernel_rfl) (by kernel_rfl)) (by kernel_rfl) (by kernel_rfl) (by kernel_rfl) (door_met os _)) ?_
  intro W base args ds gs before hval0 hW _ _ hL _
  have hval : ∀ (j : Nat) t v, Tryz.f3.params[j]? = some t → args[j]? = some v → Value.okWide Tryz.prog W .any base t v := hval0
  have hW' := hW
  obtain ⟨p, q, hA0, hV, rfl, hfz, hnd⟩ := hW
  have hA : DataW.TrodAll enc Tryz.prog W 0 (fun _ => true) true Tryz.f3.params.toList args.toList ds p := hA0
  rw [Tryz.params3] at hA hval
  obtain ⟨v0, vs0, d0, ds0, p0, q0, hargs, rfl, rfl, h0, r0⟩ := trodAll_cons hA
  obtain ⟨v1, vs1, d1, ds1, p1, q1, rfl, rfl, rfl, h1, r1⟩ := trodAll_cons r0
  obtain ⟨rfl, rfl, rfl⟩ := trodAll_nil r1
  obtain rfl : args = #[v0, v1] := by cases args; simp_all
  obtain ⟨rfl, rfl⟩ := trodVars_none hV
  obtain ⟨a0, n0, c0, rfl⟩ := okWide_slice Tryz.underlying22 (hval 0 22 v0 rfl rfl)
  have k0 := h0
  have lt0 : ∀ x ∈ p0, x.block < W.heap.size := by obtain ⟨m, hm⟩ := k0; exact DataW.trod_lt m _ _ _ hm
  obtain ⟨z0, rd0, lc0, cm0, w0⟩ := open_rd Tryz.underlying22 Tryz.underlying24 (by kernel_rfl) h0
  obtain ⟨a1, rfl, rfl, rfl, w1⟩ := open_int Tryz.underlying5 (hval 1 5 v1 rfl rfl) h1
  clear hA0 hval0
  refine (walk a0 n0 c0 z0 a1 W rd0 lc0 cm0 w0 w1 (kst_of_laid hL)).mono fun e W' ⟨he, bel⟩ => ?_
  subst he
  exact ⟨_, rfl, _, _, _, [], _, [], hW', trodAll_mk1 (shut_bool Tryz.underlying4 _), (trodAll_cons_mk (Below.trod laidOut (by kernel_rfl) (of_decide_eq_true (by kernel_rfl)) k0 bel lt0) (trodAll_cons_mk (shut_int Tryz.underlying5 w1) trodAll_mk0)), rfl, bel.frame _, fun h => by cases h⟩

theorem over : Rows.wholeTapesRow.holds Tryz.pinned (OpenSpec.ofChange Rows.wholeTapesSpec) :=
  OpenClaim.holds_of_wide 3 Tryz.f3 rfl rfl rfl rfl rfl rfl rfl ⟨rfl, rfl, rfl, rfl, rfl⟩ rfl rfl rfl rfl rfl (by kernel_rfl) Tryz.func3 (by kernel_rfl)
    (of_decide_eq_true (by kernel_rfl)) (by unfold Func.isWrapper; first | (rw [if_pos (by decide +kernel)]; kernel_rfl) | (rw [if_neg (by decide +kernel)]; exact ⟨rfl, rfl⟩))
    (fun os started H enc _ => lifted os started H enc)

end Go.Proofs.YtkhlkggdibaefaaGreatDoor.wholeTapes
namespace Go.Proofs.YtkhlkggdibaefaaGreatDoor
theorem wholeTapes_holds : Rows.WholeTapesCardSaid :=
  Claim7.holds_tied_plain_at .later [] kindsK true _ false
    wholeTapes.over (fun _ h => by cases h) (by kernel_rfl) (fun _ h => by cases h) wholeTapes_row_tie rfl ⟨rfl, rfl⟩ (by kernel_rfl) rfl
    (fun f fn hf hfn => by
      obtain rfl : f = 3 := Option.some.inj ((show Tryz.prog.funcNamed "drawlot/drawlottop.WholeTapes" = some 3 by kernel_rfl).symm.trans hf) |>.symm
      obtain rfl : fn = Tryz.f3 := (Option.some.inj (Tryz.func3.symm.trans hfn)).symm
      exact ⟨by kernel_rfl, fun j t ht => by
        rw [Tryz.params3] at ht
        have hm : t ∈ [22, 5] := by simpa using Array.mem_of_getElem? ht
        have hall : ([22, 5].all fun u => !Tryz.prog.wantsStandIn u) = true := by kernel_rfl
        exact (show Tryz.prog.wantsStandIn t = false by simpa using List.all_eq_true.1 hall t hm)⟩)
    (by kernel_rfl)
#print axioms wholeTapes_holds
end Go.Proofs.YtkhlkggdibaefaaGreatDoor
